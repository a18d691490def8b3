/-
  THE MODEL's NODE ABOVE ITS ARGUMENTS: l6Right.
-/
import Derived.Test.YtjejdcehlckfhaaGreatGe
import Derived.Test.YtjejdcehlckfhaaGreatTermvo
import Derived.Test.YtjejdcehlckfhaaGreatGx
namespace Go.Proofs.YtjejdcehlckfhaaGreat.formr
open Go.ChangeShapes Go.WideShapes Go.ChangeAt Go.RowKit
open mem dec setm sets sortm sortn sortp sorti sortu sortg sigm sigs sigt sigl rowl trm trmv terml termb termt termx termz termro termsd termv termvr termvo termev frm termlm sigi sigj sigk gram gramo graml gramk gramc gramn gramt grami formnd formk

def atS (a : Bool) (i : Nat) : Nat := if a then 0 else i
/-- the unit, as the model makes it -/
def unitT (u : Int) : TermM := .mk (if u = 0 then 0 else u - 1) [] 0 []
/-- what the model asks of the argument at i -/
def RightAt (κ : Int → Nat) (O : List OpM) (k : Nat) (L : List TermM) (i : Nat) : Prop :=
  κ (srtT O (L.getD i default)) = κ ((hd0 (O.getD k default).decls).1.getD (atS (O.getD k default).ass i) 0) ∧ ¬ ((O.getD k default).ass = true ∧ (L.getD i default).op = (k : Int)) ∧
  ¬ ((O.getD k default).unt ≠ 0 ∧ cmp (L.getD i default) (unitT (O.getD k default).unt) = 0) ∧ ((O.getD k default).com = true → 0 < i → cmp (L.getD (i - 1) default) (L.getD i default) ≤ 0)
def RightS (κ : Int → Nat) (O : List OpM) (k : Nat) (L : List TermM) : Prop := ∀ i, i < L.length → RightAt κ O k L i
set_option maxRecDepth 100000 in
set_option maxHeartbeats 16000000 in
/-- spec.l6Right -/
theorem sRight_any {N lo : Nat} (P : List (List UInt8)) (Q : List (Int × Int)) (O : List OpM) (hok : sigOk P Q O = true) (va vb vc : Value) (t : TermM) (ve : Value) (w : World) (h : HasG w va vb vc P Q O) (ht : HasTs N lo w ve t.args) (hsz : sizes t.args ≤ 1048576)
    (k : Nat) (hto : t.op = (k : Int)) (hk : k < O.length) (hnum : (O.getD k default).ass = false → t.args.length = ar (O.getD k default)) (hX : ∀ x ∈ t.args, RangeT P O x) (r : Bool) (hr : r = true ↔ RightS (κK P.length Q) O k t.args) :
    Calls Tryz.prog 130 #[.agg #[va, vb, vc], aggT t ve] w fun e w' => e = .returned (.bool r) ∧ Below w.heap.size w w' := by
  obtain ⟨p1, p2, p3, p4, p5⟩ := sig_sorts hok
  obtain ⟨_, h14, _, hd, hax⟩ := sigOk_parts hok
  have hKl : (kin P.length (prs Q)).length = P.length := kin_len _ _
  obtain ⟨B, cb, rfl, _⟩ := HasR.shape ht rfl
  have hmemk : O.getD k default ∈ O := by rw [List.getD_eq_getElem?_getD, List.getElem?_eq_getElem hk]; exact List.getElem_mem _
  have hdk := declsOk_parts (hd _ hmemk)
  have hokd := okD_parts hdk.2.2.2
  have haxk := hax _ hmemk
  simp only [axOk, argsOk, unitOk, Bool.and_eq_true, Bool.or_eq_true, decide_eq_true_eq, Bool.not_eq_true'] at haxk
  have hu14 : 0 ≤ (O.getD k default).unt ∧ (O.getD k default).unt ≤ 14 := by
    rcases haxk.2 with h4 | h4
    · omega
    · have := h4.1.1; omega
  have hass : (O.getD k default).ass = true → ar (O.getD k default) = 2 := fun ha => by
    rcases haxk.1 with h4 | h4
    · rw [ha] at h4; exact absurd h4.1.1 (by simp)
    · exact h4.1.1
  have HKI := Lib.hid (fun W (hW : Below w.heap.size w W) => l3Kinds_any P Q p1 p2 p4 p3 p5 va vb W (h.below (Nat.le_refl _) hW).s)
  have HUN := Lib.hid (fun W (hW : Below w.heap.size w W) => sUnit_any P Q O va vb vc k hk h14 hu14 W (h.below (Nat.le_refl _) hW))
  have HKN : Hid (∀ W (x : TermM) (vx : Value) (n' lo' : Nat), Below w.heap.size w W → HasTs n' lo' W vx x.args → RangeT P O x → Calls Tryz.prog 153 #[.agg #[va, vb, vc], aggT x vx] W fun e w' => e = .returned (.int .i64 ((κK P.length Q (srtT O x) : Nat) : Int)) ∧ Below W.heap.size W w') := Lib.hid (fun W x vx n' lo' hW hx hRx =>
    sKind_any P Q O hok va vb vc x vx W (h.below (Nat.le_refl _) hW) hx hRx)
  obtain ⟨A1, c1, A2, c2, A3, c3, rfl, rfl, rfl, _, _, _, h'⟩ := h.shape
  have hO : HasO 0 w (.slice A3 O.length c3) O := h'.o
  obtain ⟨g0, o0, A4, c4, hA, _, hg0, hc0, hc1, hc2, hc3, hc4, hh, _, _⟩ := op_at hO hk
  obtain ⟨gd, od, A5, c5, hA4, _, hgd, hdc, _, hrow, _, _⟩ := decl_at hh (j := 0) (by omega)
  rw [show od + 0 * 2 = od by omega] at hdc
  obtain ⟨κ, hκd⟩ : ∃ κ, κ = κK P.length Q := ⟨_, rfl⟩
  have hκ : ∀ x, κ x = (kin P.length (prs Q)).getD x.toNat 0 := fun x => by rw [hκd, κK]
  rw [← hκd] at hr HKN
  obtain ⟨⟨nm, Dk, a, b, u⟩, hx⟩ : ∃ x, x = O.getD k default := ⟨_, rfl⟩
  have HR : Hid (r = true ↔ ∀ i, i < t.args.length → κ (srtT O (t.args.getD i default)) = κ ((hd0 Dk).1.getD (atS a i) 0) ∧ ¬ (a = true ∧ (t.args.getD i default).op = (k : Int)) ∧ ¬ (u ≠ 0 ∧ cmp (t.args.getD i default) (unitT u) = 0) ∧ (b = true → 0 < i → cmp (t.args.getD (i - 1) default) (t.args.getD i default) ≤ 0)) := Lib.hid (by
    rw [hr]; unfold RightS RightAt; rw [← hx])
  rw [← hx] at hc0 hc1 hc2 hc3 hc4 hh hdc hrow hnum hdk hokd hu14 hass HUN
  simp only [] at hc0 hc1 hc2 hc3 hc4 hh hdc hrow hnum hdk hokd hu14 hass HUN
  have hd0e : Dk.getD 0 default = hd0 Dk := rfl
  rw [hd0e] at hdc hrow
  obtain ⟨L0, hL0⟩ : ∃ L0, L0 = (hd0 Dk).1 := ⟨_, rfl⟩
  rw [← hL0] at hdc hrow hokd HR
  obtain ⟨ln, hln⟩ : ∃ ln, ln = L0.length := ⟨_, rfl⟩
  have hat : ∀ i, i < t.args.length → atS a i < ln := fun i hi => by
    have har : ar ⟨nm, Dk, a, b, u⟩ = ln := by rw [hln, hL0]; rfl
    cases a with
    | false => rw [← har, ← hnum rfl]; exact hi
    | true => rw [← har, hass rfl]; exact Nat.zero_lt_two
  have HARG : Hid (∀ j, j < ln → ∃ gl ol z, A5 = some ⟨gl, ol, none⟩ ∧ gl < w.heap.size ∧ w.cell? ⟨gl, ol + j, none⟩ = some (.int .i64 ((z : Nat) : Int)) ∧ L0.getD j 0 = (z : Int) ∧ z < P.length) := Lib.hid (fun j hj => by
    obtain ⟨gl, ol, e, hgl, hcl⟩ := hrow.has.cellAt (j := j) (by omega)
    rw [ivs_get _ j (by omega)] at hcl
    have hin := hokd.2.2 j (by omega)
    simp only [inN, decide_eq_true_eq] at hin
    obtain ⟨z, hz⟩ : ∃ z : Nat, L0.getD j 0 = (z : Int) := ⟨(L0.getD j 0).toNat, by omega⟩
    exact ⟨gl, ol, z, e, hgl, by rw [hcl, hz], hz, by omega⟩)
  obtain ⟨q, hq⟩ : ∃ q, q = t.args.length := ⟨_, rfl⟩
  obtain ⟨L, hL⟩ : ∃ L, L = t.args := ⟨_, rfl⟩
  obtain ⟨tn, htn⟩ : ∃ q, q = t.name := ⟨_, rfl⟩
  obtain ⟨ts, hts⟩ : ∃ q, q = t.sort := ⟨_, rfl⟩
  obtain ⟨n, hn⟩ : ∃ n, n = P.length := ⟨_, rfl⟩
  obtain ⟨m2, hm2⟩ : ∃ q, q = Q.length := ⟨_, rfl⟩
  obtain ⟨m3, hm3⟩ : ∃ q, q = O.length := ⟨_, rfl⟩
  obtain ⟨dl, hdl⟩ : ∃ q, q = Dk.length := ⟨_, rfl⟩
  unfold aggT
  rw [hto]
  have HQL : Hid (q = L.length) := Lib.hid (by rw [hq, hL])
  rw [← hq] at hat HR
  rw [← hq, ← htn, ← hts, ← hn, ← hm2, ← hm3]
  rw [← hL] at HR hX hsz
  rw [← hn] at hKl hκ HARG HKN HKI HUN
  rw [← hm2] at HKI HKN HUN
  rw [← hm3] at hk HKN HUN
  rw [← hdl] at hc1 hdk
  rw [← hln] at hdc
  obtain ⟨K, hK⟩ : ∃ K, K = kin n (prs Q) := ⟨_, rfl⟩
  rw [← hK] at HKI hKl hκ
  have HKP : Hid (∀ z : Nat, κ (z : Int) = K.getD z 0) := Lib.hid (fun z => by rw [hκ, Int.toNat_natCast])
  have HH : Hid (HasTs N lo w (.slice B q cb) L) := Lib.hid (by rw [hq, hL]; exact ht)
  have HAT := Lib.hid hat
  have HXR := Lib.hid hX
  have HSZ := Lib.hid hsz
  have hq64 : q ≤ 1048576 := by have := sizes_len L; have := HQL.out; omega
  have hdl1 : 1 ≤ dl := hdk.1
  subst hA
  subst hA4
  clear h h' hO ht hq hL htn hts hm2 hm3 hok hd hax hmemk hdk hokd haxk hass hnum hX hr hκd hκ hx hh hrow hd0e hL0 hln hat hn hK hdl hsz p1 p2 p3 p4 p5 h14 hto
  obtain ⟨W, hW⟩ : ∃ W, W = (w.alloc (.cells #[.slice A1 n c1, .slice A2 m2 c2, .slice (some ⟨g0, o0, none⟩) m3 c3] 40)).alloc (.cells #[.int .i64 (k : Int), .string (bstr tn), .int .i64 ts, .slice B q cb] 44) := ⟨_, rfl⟩
  have hb0 : Below w.heap.size w W := by
    rw [hW]
    repeat (first | exact Below.refl _ _ | refine Below.alloc ?_ (by first | (simp; done) | (simp; omega)) _)
  have hX0 : Box34 w.heap.size (w.heap.size + 1) (.slice A1 n c1) (.slice A2 m2 c2) (.slice (some ⟨g0, o0, none⟩) m3 c3) (.int .i64 (k : Int)) (.string (bstr tn)) (.int .i64 ts) (.slice B q cb) W := by
    rw [hW]
    exact ⟨box3 (heap2a _ _ _), box4 (heap_at _ _ _ (by simp))⟩
  have hzW : W.heap.size = w.heap.size + 2 := by rw [hW]; simp
  have HX := Lib.hid hX0
  obtain ⟨⟨x0, x1, x2⟩, y0, y1, y2, y3⟩ := hX0
  have HB0 := Lib.hid hb0
  have HZ := Lib.hid hzW
  have hc0' := (hb0.cell (p := ⟨g0, o0 + k * 5, none⟩) hg0).trans hc0
  have hc1' := (hb0.cell (p := ⟨g0, o0 + k * 5 + 1, none⟩) hg0).trans hc1
  have hc2' := (hb0.cell (p := ⟨g0, o0 + k * 5 + 2, none⟩) hg0).trans hc2
  have hc3' := (hb0.cell (p := ⟨g0, o0 + k * 5 + 3, none⟩) hg0).trans hc3
  have hc4' := (hb0.cell (p := ⟨g0, o0 + k * 5 + 4, none⟩) hg0).trans hc4
  have HDC : Hid (w.cell? ⟨gd, od, none⟩ = some (.slice A5 ln c5)) := Lib.hid hdc
  have i1 : (0 : Int) ≤ (k : Int) := by omega
  have i2 : (k : Int) < (m3 : Int) := by omega
  clear hb0 hc0 hc1 hc2 hc3 hc4 hdc
  rw [hW] at hc0' hc1' hc2' hc3' hc4' x0 x1 x2 y0 y1 y2 y3
  go_enter Tryz.func130, Tryz.ntmps130
  go_wp2_with fail
  rw [← hW]
  clear hW
  obtain ⟨WA, hWA⟩ : ∃ WA, WA = W.alloc (.cells #[.string (bstr nm), .slice (some ⟨gd, od, none⟩) dl c4, .bool a, .bool b, .int .i64 u] 97) := ⟨_, rfl⟩
  rw [← hWA]
  have hbA : Below w.heap.size w WA := by rw [hWA]; exact HB0.out.alloc HB0.out.size _
  have hAx : WA.heap[w.heap.size + 2]? = some (.cells #[.string (bstr nm), .slice (some ⟨gd, od, none⟩) dl c4, .bool a, .bool b, .int .i64 u] 97 (0, 0)) := by rw [hWA, ← HZ.out]; exact heap_at _ _ _ rfl
  have hXA : Box34 w.heap.size (w.heap.size + 1) (.slice A1 n c1) (.slice A2 m2 c2) (.slice (some ⟨g0, o0, none⟩) m3 c3) (.int .i64 (k : Int)) (.string (bstr tn)) (.int .i64 ts) (.slice B q cb) WA := by
    rw [hWA]; exact Box34.below HX.out ((Below.refl _ _).alloc (Nat.le_refl _) _)
  have hzA : WA.heap.size = w.heap.size + 3 := by rw [hWA]; simp [HZ.out]
  have HBA := Lib.hid hbA
  have HAX := Lib.hid hAx
  have HXA := Lib.hid hXA
  have HZA := Lib.hid hzA
  clear hWA hbA hAx hXA hzA hzW x0 x1 x2 y0 y1 y2 y3 hc0' hc1' hc2' hc3' hc4'
  refine (HKI.out WA HBA.out).mono ?_
  rintro e w2 ⟨kv, rfl, hkv, hb2⟩
  obtain ⟨KA, kc, rfl, hkh⟩ := (Has.of_own hkv).shape (n := n) (by rw [ivs_len, nats_len]; exact hKl)
  have HKR : Hid (∀ z, z < n → ∃ gk ok, KA = some ⟨gk, ok, none⟩ ∧ gk < w2.heap.size ∧ w2.cell? ⟨gk, ok + z, none⟩ = some (.int .i64 ((κ (z : Int) : Nat) : Int))) := Lib.hid (fun z hz => by
    obtain ⟨gk, ok, e, hgk, hk0⟩ := hkh.cellAt (j := z) hz
    rw [ivs_get _ z (by rw [nats_len]; omega), nats_get] at hk0
    exact ⟨gk, ok, e, hgk, by rw [hk0, HKP.out]⟩)
  have HB2 := Lib.hid (HBA.out.trans (hb2.mono HBA.out.size))
  have HX2 := Lib.hid (Box34.below HXA.out hb2)
  have HA2 : Hid (w2.heap[w.heap.size + 2]? = some (.cells #[.string (bstr nm), .slice (some ⟨gd, od, none⟩) dl c4, .bool a, .bool b, .int .i64 u] 97 (0, 0))) := Lib.hid ((hb2.block _ (by have := HZA.out; omega)).trans HAX.out)
  have hz2 : w.heap.size + 3 ≤ w2.heap.size := by have := hb2.size; have := HZA.out; omega
  have HZ2 := Lib.hid hz2
  clear hkv hb2 hkh hz2
  obtain ⟨⟨x0, x1, x2⟩, y0, y1, y2, y3⟩ := HX2.out
  go_wp2_with fail
  refine (HUN.out w2 HB2.out).mono ?_
  rintro e w3 ⟨rfl, hb3⟩
  have HB3 := Lib.hid hb3
  clear hb3 x0 x1 x2 y0 y1 y2 y3
  obtain ⟨ha, hhas⟩ : ∃ z, z = (!decide (u = 0)) := ⟨_, rfl⟩
  obtain ⟨uo, huo⟩ : ∃ z, z = (if u = 0 then 0 else u - 1) := ⟨_, rfl⟩
  rw [← hhas, ← huo]
  have HUO := Lib.hid huo
  have HHAS := Lib.hid hhas
  clear hhas huo
  go_wp2_with fail
  obtain ⟨V0, hV0⟩ : ∃ V0, V0 = w3.alloc (.cells #[.int .i64 uo, .string (bstr []), .int .i64 0, .slice none 0 0] 44) := ⟨_, rfl⟩
  have hz3 : w.heap.size + 3 ≤ w3.heap.size := by have := HB3.out.size; have := HZ2.out; omega
  have hbA3 : Below w3.heap.size w3 V0 := by rw [hV0]; exact (Below.refl _ _).alloc (Nat.le_refl _) _
  have hbV : Below w.heap.size w V0 := (HB2.out.trans (HB3.out.mono HB2.out.size)).trans (hbA3.mono (by omega))
  have hzV : V0.heap.size = w3.heap.size + 1 := by rw [hV0]; simp
  have hXV := Box34.below (Box34.below HX2.out HB3.out) hbA3
  have hAV : V0.heap[w.heap.size + 2]? = some (.cells #[.string (bstr nm), .slice (some ⟨gd, od, none⟩) dl c4, .bool a, .bool b, .int .i64 u] 97 (0, 0)) := (hbA3.block _ (by omega)).trans ((HB3.out.block _ (by have := HZ2.out; omega)).trans HA2.out)
  have hUV : V0.heap[w3.heap.size]? = some (.cells #[.int .i64 uo, .string (bstr []), .int .i64 0, .slice none 0 0] 44 (0, 0)) := by rw [hV0]; exact heap_at _ _ _ rfl
  have HKV : Hid (∀ z, z < n → ∃ gk ok, KA = some ⟨gk, ok, none⟩ ∧ gk < V0.heap.size ∧ V0.cell? ⟨gk, ok + z, none⟩ = some (.int .i64 ((κ (z : Int) : Nat) : Int))) := Lib.hid (fun z hz => by
    obtain ⟨gk, ok, e, hgk, hk0⟩ := HKR.out z hz
    have h2 := HB3.out.size
    exact ⟨gk, ok, e, by omega, (hbA3.cell (p := ⟨gk, ok + z, none⟩) (by show gk < _; omega)).trans ((HB3.out.cell (p := ⟨gk, ok + z, none⟩) hgk).trans hk0)⟩)
  have HBV := Lib.hid hbV
  have HXV := Lib.hid hXV
  have HAV := Lib.hid hAV
  obtain ⟨bu, hbu⟩ : ∃ bu, bu = w3.heap.size := ⟨_, rfl⟩
  rw [← hbu] at hzV hUV hz3
  rw [← hbu]
  have HUV := Lib.hid hUV
  try rw [hbu, ← hV0, ← hbu]
  clear hbA3 hbV hXV hAV hUV HKR HX2 HA2 HXA HAX HX HUN HKI hV0 hbu HB3 HB2 HZ2 HBA HZA
  go_loopw [9, 10, 11] (fun v9 _ _ wr => ∃ p : Nat, v9 = .int .i64 p ∧ p ≤ q ∧ Hid (∀ i, i < p → κ (srtT O (L.getD i default)) = κ (L0.getD (atS a i) 0) ∧ ¬ (a = true ∧ (L.getD i default).op = (k : Int)) ∧ ¬ (u ≠ 0 ∧ cmp (L.getD i default) (unitT u) = 0) ∧ (b = true → 0 < i → cmp (L.getD (i - 1) default) (L.getD i default) ≤ 0)) ∧ Hid (Below V0.heap.size V0 wr)) (fun i _ _ _ => q - (intOf i).toNat)
  case atStart => exact ⟨0, rfl, Nat.zero_le _, Lib.hid (fun i hi => absurd hi (Nat.not_lt_zero _)), Lib.hid (Below.refl _ _)⟩
  case round =>
    obtain ⟨p, rfl, hp, HALL, HB⟩ := hrel
    have hbel := HB.out
    have hVr : V0.heap.size ≤ wr.heap.size := hbel.size
    have kc : ∀ {g y : Nat} {v : Value}, g < V0.heap.size → V0.cell? ⟨g, y, none⟩ = some v → wr.cell? ⟨g, y, none⟩ = some v := fun {g y v} hg h => (hbel.cell (p := ⟨g, y, none⟩) hg).trans h
    obtain ⟨⟨x0', x1', x2'⟩, y0', y1', y2', y3'⟩ := HXV.out
    have y3 := kc (by omega) y3'
    by_cases hlt : p < q
    · have d1 : decide ((p : Int) < (q : Int)) = true := decide_eq_true (by omega)
      have d3 : decide (p < q) = true := decide_eq_true hlt
      have x0 := kc (by omega) x0'
      have x1 := kc (by omega) x1'
      have x2 := kc (by omega) x2'
      have y0 := kc (by omega) y0'
      have a1 := kc (by omega) (cell_of_row _ _ 1 _ _ _ HAV.out)
      have a2 := kc (by omega) (cell_of_row _ _ 2 _ _ _ HAV.out)
      have a3 := kc (by omega) (cell_of_row _ _ 3 _ _ _ HAV.out)
      have u0 := kc (by omega) (cell_of_row _ _ 0 _ _ _ HUV.out)
      have u1 := kc (by omega) (cell_of_row _ _ 1 _ _ _ HUV.out)
      have u2 := kc (by omega) (cell_of_row _ _ 2 _ _ _ HUV.out)
      have u3 := kc (by omega) (cell_of_row _ _ 3 _ _ _ HUV.out)
      have hbw := HBV.out.trans (hbel.mono HBV.out.size)
      obtain ⟨kn, g, o, B2, cx, hNk, rfl, _, hg, e0, e1, e2, e3, hxx, _⟩ := term_at HH.out hlt
      obtain ⟨gl, ol, za, rfl, hgl, hca, hza, hzn⟩ := HARG.out (atS a p) (HAT.out p hlt)
      obtain ⟨gk, ok, rfl, hgk, hck⟩ := HKV.out za hzn
      have f0 := (hbw.cell (p := ⟨g, o + p * 4, none⟩) hg).trans e0
      have f1 := (hbw.cell (p := ⟨g, o + p * 4 + 1, none⟩) hg).trans e1
      have f2 := (hbw.cell (p := ⟨g, o + p * 4 + 2, none⟩) hg).trans e2
      have f3 := (hbw.cell (p := ⟨g, o + p * 4 + 3, none⟩) hg).trans e3
      have hx2 := hxx.below (Nat.le_refl _) hbw
      have cdc := (hbw.cell (p := ⟨gd, od, none⟩) hgd).trans HDC.out
      have cca := (hbw.cell (p := ⟨gl, ol + atS a p, none⟩) hgl).trans hca
      have cck := kc hgk hck
      have hmem : L.getD p default ∈ L := by rw [List.getD_eq_getElem?_getD, List.getElem?_eq_getElem (by have := HQL.out; omega)]; exact List.getElem_mem _
      have hRx := HXR.out _ hmem
      have HPREV : Hid (0 < p → ∃ (B3 : Option Addr) (c9 : Nat), wr.cell? ⟨g, o + (p - 1) * 4, none⟩ = some (.int .i64 (L.getD (p - 1) default).op) ∧ wr.cell? ⟨g, o + (p - 1) * 4 + 1, none⟩ = some (.string (bstr (L.getD (p - 1) default).name)) ∧ wr.cell? ⟨g, o + (p - 1) * 4 + 2, none⟩ = some (.int .i64 (L.getD (p - 1) default).sort) ∧
          wr.cell? ⟨g, o + (p - 1) * 4 + 3, none⟩ = some (.slice B3 (L.getD (p - 1) default).args.length c9) ∧ HasTs kn lo wr (.slice B3 (L.getD (p - 1) default).args.length c9) (L.getD (p - 1) default).args) := Lib.hid (fun h0 => by
        obtain ⟨kn', g', o', B3, c9, hNk', hA, _, hg', e0, e1, e2, e3, hyy, _⟩ := term_at HH.out (j := p - 1) (by omega)
        simp only [Option.some.injEq, Addr.mk.injEq, and_true] at hA
        obtain ⟨rfl, rfl⟩ := hA
        obtain rfl : kn' = kn := by omega
        exact ⟨B3, c9, (hbw.cell (p := ⟨g, o + (p - 1) * 4, none⟩) hg).trans e0, (hbw.cell (p := ⟨g, o + (p - 1) * 4 + 1, none⟩) hg).trans e1, (hbw.cell (p := ⟨g, o + (p - 1) * 4 + 2, none⟩) hg).trans e2, (hbw.cell (p := ⟨g, o + (p - 1) * 4 + 3, none⟩) hg).trans e3, hyy.below (Nat.le_refl _) hbw⟩)
      obtain ⟨x, hx⟩ : ∃ x, x = L.getD p default := ⟨_, rfl⟩
      have HXD := Lib.hid hx
      rw [← hx] at f0 f1 f2 f3 hx2 hRx
      clear e0 e1 e2 e3 hxx hca hck hx hmem x0' x1' x2' y0' y1' y2' y3'
      obtain ⟨V, hV⟩ : ∃ V, V = wr.alloc (.cells #[.int .i64 x.op, .string (bstr x.name), .int .i64 x.sort, .slice B2 x.args.length cx] 44) := ⟨_, rfl⟩
      have hbV1 : Below wr.heap.size wr V := by rw [hV]; exact (Below.refl _ _).alloc (Nat.le_refl _) _
      have hxV : V.heap[wr.heap.size]? = some (.cells #[.int .i64 x.op, .string (bstr x.name), .int .i64 x.sort, .slice B2 x.args.length cx] 44 (0, 0)) := by rw [hV]; exact heap_at _ _ _ rfl
      have hzV1 : wr.heap.size < V.heap.size := by rw [hV]; simp
      have kV : ∀ {g y : Nat} {v : Value}, wr.cell? ⟨g, y, none⟩ = some v → ∀ t : BoxC (Below V.heap.size V), t.W.cell? ⟨g, y, none⟩ = some v := fun {g y v} h t => by
        have hg := block_lt_of_cell h
        simp only [] at hg
        exact t.cell ((hbV1.cell (p := ⟨g, y, none⟩) hg).trans h) (by show g < _; omega)
      have b0 := kV x0
      have b1 := kV x1
      have b2 := kV x2
      have b3 := kV y0
      have b4 := kV y3
      have b5 := kV a1
      have b6 := kV a2
      have b7 := kV a3
      have b8 := kV u0
      have b9 := kV u1
      have b10 := kV u2
      have b11 := kV u3
      have b12 := kV cdc
      have b14 := kV cck
      have b15 : ∀ t : BoxC (Below V.heap.size V), t.W.cell? ⟨wr.heap.size, 0, none⟩ = some (.int .i64 x.op) := fun t => t.cell (cell_of_row _ _ 0 _ _ _ hxV) hzV1
      have b16 : ∀ t : BoxC (Below V.heap.size V), t.W.cell? ⟨wr.heap.size, 1, none⟩ = some (.string (bstr x.name)) := fun t => t.cell (cell_of_row _ _ 1 _ _ _ hxV) hzV1
      have b17 : ∀ t : BoxC (Below V.heap.size V), t.W.cell? ⟨wr.heap.size, 2, none⟩ = some (.int .i64 x.sort) := fun t => t.cell (cell_of_row _ _ 2 _ _ _ hxV) hzV1
      have b18 : ∀ t : BoxC (Below V.heap.size V), t.W.cell? ⟨wr.heap.size, 3, none⟩ = some (.slice B2 x.args.length cx) := fun t => t.cell (cell_of_row _ _ 3 _ _ _ hxV) hzV1
      obtain ⟨kx, hkx⟩ : ∃ kx, kx = κ (srtT O x) := ⟨_, rfl⟩
      obtain ⟨ka, hka⟩ : ∃ ka, ka = κ (za : Int) := ⟨_, rfl⟩
      obtain ⟨sm, hsm⟩ : ∃ sm, decide (cmp x (unitT u) = 0) = sm := ⟨_, rfl⟩
      rw [← hka] at b14
      have hxt : ∀ t : BoxC (Below V.heap.size V), HasTs kn lo t.W (.slice B2 x.args.length cx) x.args := fun t => hx2.below (Nat.le_refl _) (hbV1.trans (t.h.mono (Nat.le_of_lt hzV1)))
      have HC1 : Hid (∀ t : BoxC (Below V.heap.size V), Calls Tryz.prog 153 #[.agg #[.slice A1 n c1, .slice A2 m2 c2, .slice (some ⟨g0, o0, none⟩) m3 c3], .agg #[.int .i64 x.op, .string (bstr x.name), .int .i64 x.sort, .slice B2 x.args.length cx]] t.W fun e w' => e = .returned (.int .i64 (kx : Int)) ∧ Below t.W.heap.size t.W w') := Lib.hid (fun t => by
        rw [hkx]
        exact HKN.out t.W x _ kn lo (hbw.trans ((hbV1.trans (t.h.mono (Nat.le_of_lt hzV1))).mono hbw.size)) (hxt t) hRx)
      have HC2 : Hid (∀ t : BoxC (Below V.heap.size V), Calls Tryz.prog 122 #[.agg #[.int .i64 x.op, .string (bstr x.name), .int .i64 x.sort, .slice B2 x.args.length cx], .agg #[.int .i64 uo, .string (bstr []), .int .i64 0, .slice none 0 0]] t.W fun e w' => e = .returned (.bool sm) ∧ Below t.W.heap.size t.W w') := Lib.hid (fun t => by
        have h1 := same_any (n := kn) (m := 0) (lo' := lo) x (unitT u) (.slice B2 x.args.length cx) (.slice none 0 0) t.W (hxt t) (HasR.nil _ _ _ (by unfold maxLen; omega) _) sm hsm
        rw [HUO.out]
        exact h1)
      have HC3 : Hid (∀ (y : TermM) (B3 : Option Addr) (c9 : Nat), HasTs kn lo wr (.slice B3 y.args.length c9) y.args → sizes y.args ≤ 1048576 → ∀ t : BoxC (Below V.heap.size V), Calls Tryz.prog 106 #[.agg #[.int .i64 y.op, .string (bstr y.name), .int .i64 y.sort, .slice B3 y.args.length c9], .agg #[.int .i64 x.op, .string (bstr x.name), .int .i64 x.sort, .slice B2 x.args.length cx]] t.W fun e w' => e = .returned (.int .i64 (cmp y x)) ∧ Below t.W.heap.size t.W w') := Lib.hid (fun y B3 c9 hy _ t =>
        scmp_any y x _ _ t.W (hy.below (Nat.le_refl _) (hbV1.trans (t.h.mono (Nat.le_of_lt hzV1)))) (hxt t))
      have HPT : Hid (r = true → kx = ka ∧ ¬ (a = true ∧ x.op = (k : Int)) ∧ ¬ (ha = true ∧ sm = true) ∧ (b = true → 0 < p → cmp (L.getD (p - 1) default) x ≤ 0)) := Lib.hid (fun hrt => by
        have h1 := HR.out.1 hrt p hlt
        rw [← HXD.out, hza, ← hkx, ← hka] at h1
        refine ⟨h1.1, h1.2.1, fun h2 => h1.2.2.1 ⟨?_, ?_⟩, h1.2.2.2⟩
        · have h3 := h2.1
          rw [HHAS.out] at h3
          simpa using h3
        · have h3 := h2.2
          rw [← hsm] at h3
          exact of_decide_eq_true h3)
      have HNX : Hid (kx = ka ∧ ¬ (a = true ∧ x.op = (k : Int)) ∧ ¬ (ha = true ∧ sm = true) ∧ (b = true → 0 < p → cmp (L.getD (p - 1) default) x ≤ 0) → ∀ i, i < p + 1 → κ (srtT O (L.getD i default)) = κ (L0.getD (atS a i) 0) ∧ ¬ (a = true ∧ (L.getD i default).op = (k : Int)) ∧ ¬ (u ≠ 0 ∧ cmp (L.getD i default) (unitT u) = 0) ∧ (b = true → 0 < i → cmp (L.getD (i - 1) default) (L.getD i default) ≤ 0)) := Lib.hid (fun h1 i hi => by
        by_cases e : i = p
        · subst e
          rw [← HXD.out, hza, ← hkx, ← hka]
          refine ⟨h1.1, h1.2.1, fun h2 => h1.2.2.1 ⟨?_, ?_⟩, h1.2.2.2⟩
          · rw [HHAS.out]
            simpa using h2.1
          · rw [← hsm]
            exact decide_eq_true h2.2
        · exact HALL.out i (by omega))
      have HSP : Hid (0 < p → sizes (L.getD (p - 1) default).args ≤ 1048576) := Lib.hid (fun h0 => by
        have h9 := size_le_sizes (l := L) (j := p - 1) (by have := HQL.out; omega)
        have h10 := termro.size_eq (L.getD (p - 1) default)
        have := HSZ.out
        omega)
      have HBW : Hid (Below w.heap.size w V) := Lib.hid (hbw.trans (hbV1.mono hbw.size))
      have HBV2 : Hid (Below V0.heap.size V0 V) := Lib.hid (hbel.trans (hbV1.mono hbel.size))
      have hVV : V0.heap.size ≤ V.heap.size := by omega
      have hwV : w.heap.size ≤ V.heap.size := HBW.out.size
      have nb : Nonempty (BoxC (Below V.heap.size V)) := ⟨⟨_, Below.refl _ _⟩⟩
      have i3 : (0 : Int) ≤ (p : Int) := by omega
      have i4 : (p : Int) < (q : Int) := by omega
      have i5 : (0 : Int) < (dl : Int) := by omega
      have i6 : (0 : Int) ≤ (za : Int) := by omega
      have i7 : (za : Int) < (n : Int) := by omega
      have hatp := HAT.out p hlt
      have hbo : w.heap.size + 2 < wr.heap.size := by omega
      have hbo1 : w.heap.size + 1 < wr.heap.size := by omega
      clear hbel hbw hbV1 hxV hxt hx2 hRx hza hsm hkx hka cdc cck
      cases a with
      | false =>
        have cca' : wr.cell? ⟨gl, ol + p, none⟩ = some (.int .i64 ((za : Nat) : Int)) := by simpa [atS] using cca
        have b13 := kV cca'
        have hpl : p < ln := by simpa [atS] using hatp
        have i8 : (p : Int) < (ln : Int) := by omega
        clear cca' hatp
        have hne : ¬ (false = true ∧ x.op = (k : Int)) := fun e => by cases e.1
        by_cases hkk : kx = ka
        · have q1 : ((kx : Int) == (ka : Int)) = true := by rw [hkk]; simp
          have q2 : (kx == ka) = true := by rw [hkk]; simp
          have q3 : decide (kx = ka) = true := decide_eq_true hkk
          cases ha with
          | false =>
            have hns : ¬ (false = true ∧ sm = true) := fun e => by cases e.1
            cases b with
            | false =>
              go_wp2_with fail
              rw [← hV]
              clear hV x0 x1 x2 y0 y3 a1 a2 a3 u0 u1 u2 u3 f0 f1 f2 f3 cca
              refine region_boxC (C := Below V.heap.size V) (by kernel_rfl) (by kernel_rfl) (Below.refl _ _).drew ?_
              repeat (first | go_big_quiet_step ((go_at_call 153; exact (HC1.out _).mono (fun _ _ h => ⟨h.1, BoxC.step _ h.2⟩))) | go_big_quiet_step ((go_at_call 122; exact (HC2.out _).mono (fun _ _ h => ⟨h.1, BoxC.step _ h.2⟩))))
              refine wpQuiet_nil ?_
              rintro w5 ⟨t5, rfl⟩
              go_wp2_with fail
              refine region_boxC (C := Below V.heap.size V) (by kernel_rfl) (by kernel_rfl) (BoxC.h t5).drew ?_
              repeat (first | go_big_quiet_step ((go_at_call 122; exact (HC2.out _).mono (fun _ _ h => ⟨h.1, BoxC.step _ h.2⟩))))
              refine wpQuiet_nil ?_
              rintro w6 ⟨t6, rfl⟩
              have HA := Lib.hid (HNX.out (by exact ⟨hkk, hne, hns, fun e => by cases e⟩))
              have HB6 : Hid (Below V0.heap.size V0 t6.W) := Lib.hid (HBV2.out.trans (t6.h.mono hVV))
              clear b0 b1 b2 b3 b4 b5 b6 b7 b8 b9 b10 b11 b12 b13 b14 b15 b16 b17 b18 nb HC1 HC2 HC3
              go_wp2
              go_roundw
              case measure => simp [intOf]; omega
              case rel => exact ⟨p + 1, by go_num, by omega, HA, HB6⟩
            | true =>
              by_cases hp0 : 0 < p
              · obtain ⟨p', hp'⟩ : ∃ p', p' + 1 = p := ⟨p - 1, by omega⟩
                have hpe : p - 1 = p' := by omega
                have HP' := Lib.hid hp'
                have hw1 : IntKind.i64.wrap ((p : Int) - 1) = (p' : Int) := by rw [← hp', IntWalk.i64_in _ (by omega)]; omega
                obtain ⟨B3, c9, l0, l1, l2, l3, hyy⟩ := HPREV.out hp0
                have hsy := HSP.out hp0
                rw [hpe] at l0 l1 l2 l3 hyy hsy HNX HPT
                obtain ⟨y, hy⟩ : ∃ y, y = L.getD p' default := ⟨_, rfl⟩
                rw [← hy] at l0 l1 l2 l3 hyy hsy HNX HPT
                have m0 := kV l0
                have m1 := kV l1
                have m2 := kV l2
                have m3' := kV l3
                obtain ⟨z, hz⟩ : ∃ z, z = cmp y x := ⟨_, rfl⟩
                have HC3p := Lib.hid (HC3.out y B3 c9 hyy hsy)
                rw [← hz] at HC3p HNX HPT
                have j1 : decide ((0 : Int) < (p : Int)) = true := decide_eq_true (by omega)
                have j2 : decide (0 < p) = true := decide_eq_true hp0
                have j3 : (0 : Int) ≤ (p' : Int) := by omega
                have j4 : (p' : Int) < (q : Int) := by omega
                clear l0 l1 l2 l3 hyy hy hz hp' hpe hsy kV
                by_cases hz0 : 0 < z
                · have j5 : decide (0 < z) = true := decide_eq_true hz0
                  go_wp2_with fail
                  rw [← hV]
                  clear hV x0 x1 x2 y0 y3 a1 a2 a3 u0 u1 u2 u3 f0 f1 f2 f3 cca
                  refine region_boxC (C := Below V.heap.size V) (by kernel_rfl) (by kernel_rfl) (Below.refl _ _).drew ?_
                  repeat (first | go_big_quiet_step ((go_at_call 153; exact (HC1.out _).mono (fun _ _ h => ⟨h.1, BoxC.step _ h.2⟩))) | go_big_quiet_step ((go_at_call 122; exact (HC2.out _).mono (fun _ _ h => ⟨h.1, BoxC.step _ h.2⟩))))
                  refine wpQuiet_nil ?_
                  rintro w5 ⟨t5, rfl⟩
                  go_wp2_with fail
                  refine region_boxC (C := Below V.heap.size V) (by kernel_rfl) (by kernel_rfl) (BoxC.h t5).drew ?_
                  repeat (first | go_big_quiet_step ((go_at_call 106; exact (HC3p.out _).mono (fun _ _ h => ⟨h.1, BoxC.step _ h.2⟩))))
                  refine wpQuiet_nil ?_
                  rintro w6 ⟨t6, rfl⟩
                  clear m0 m1 m2 m3' HC3p
                  have HF : Hid (r = false) := Lib.hid (by cases hrr : r with
                    | false => rfl
                    | true => exact absurd (HPT.out hrr) (by intro hh; have := hh.2.2.2 (by trivial) (by have := HP'.out; omega); omega))
                  have HB6 : Hid (Below w.heap.size w t6.W) := Lib.hid (HBW.out.trans (t6.h.mono hwV))
                  clear b0 b1 b2 b3 b4 b5 b6 b7 b8 b9 b10 b11 b12 b13 b14 b15 b16 b17 b18 nb HC1 HC2 HC3
                  go_wp2
                  go_ret
                  exact ⟨ret_bool HF.out.symm, HB6.out⟩
                · have j5 : decide (0 < z) = false := decide_eq_false hz0
                  go_wp2_with fail
                  rw [← hV]
                  clear hV x0 x1 x2 y0 y3 a1 a2 a3 u0 u1 u2 u3 f0 f1 f2 f3 cca
                  refine region_boxC (C := Below V.heap.size V) (by kernel_rfl) (by kernel_rfl) (Below.refl _ _).drew ?_
                  repeat (first | go_big_quiet_step ((go_at_call 153; exact (HC1.out _).mono (fun _ _ h => ⟨h.1, BoxC.step _ h.2⟩))) | go_big_quiet_step ((go_at_call 122; exact (HC2.out _).mono (fun _ _ h => ⟨h.1, BoxC.step _ h.2⟩))))
                  refine wpQuiet_nil ?_
                  rintro w5 ⟨t5, rfl⟩
                  go_wp2_with fail
                  refine region_boxC (C := Below V.heap.size V) (by kernel_rfl) (by kernel_rfl) (BoxC.h t5).drew ?_
                  repeat (first | go_big_quiet_step ((go_at_call 106; exact (HC3p.out _).mono (fun _ _ h => ⟨h.1, BoxC.step _ h.2⟩))))
                  refine wpQuiet_nil ?_
                  rintro w6 ⟨t6, rfl⟩
                  clear m0 m1 m2 m3' HC3p
                  have HA := Lib.hid (HNX.out (by exact ⟨hkk, hne, hns, fun _ _ => by omega⟩))
                  have HB6 : Hid (Below V0.heap.size V0 t6.W) := Lib.hid (HBV2.out.trans (t6.h.mono hVV))
                  clear b0 b1 b2 b3 b4 b5 b6 b7 b8 b9 b10 b11 b12 b13 b14 b15 b16 b17 b18 nb HC1 HC2 HC3
                  go_wp2
                  go_roundw
                  case measure => simp [intOf]; omega
                  case rel => exact ⟨p + 1, by go_num, by omega, HA, HB6⟩
              · have j1 : decide ((0 : Int) < (p : Int)) = false := decide_eq_false (by omega)
                have j2 : decide (0 < p) = false := decide_eq_false hp0
                go_wp2_with fail
                rw [← hV]
                clear hV x0 x1 x2 y0 y3 a1 a2 a3 u0 u1 u2 u3 f0 f1 f2 f3 cca
                refine region_boxC (C := Below V.heap.size V) (by kernel_rfl) (by kernel_rfl) (Below.refl _ _).drew ?_
                repeat (first | go_big_quiet_step ((go_at_call 153; exact (HC1.out _).mono (fun _ _ h => ⟨h.1, BoxC.step _ h.2⟩))) | go_big_quiet_step ((go_at_call 122; exact (HC2.out _).mono (fun _ _ h => ⟨h.1, BoxC.step _ h.2⟩))))
                refine wpQuiet_nil ?_
                rintro w5 ⟨t5, rfl⟩
                go_wp2_with fail
                refine region_boxC (C := Below V.heap.size V) (by kernel_rfl) (by kernel_rfl) (BoxC.h t5).drew ?_
                repeat (first | go_big_quiet_step ((go_at_call 122; exact (HC2.out _).mono (fun _ _ h => ⟨h.1, BoxC.step _ h.2⟩))))
                refine wpQuiet_nil ?_
                rintro w6 ⟨t6, rfl⟩
                have HA := Lib.hid (HNX.out (by exact ⟨hkk, hne, hns, fun _ h => absurd h hp0⟩))
                have HB6 : Hid (Below V0.heap.size V0 t6.W) := Lib.hid (HBV2.out.trans (t6.h.mono hVV))
                clear b0 b1 b2 b3 b4 b5 b6 b7 b8 b9 b10 b11 b12 b13 b14 b15 b16 b17 b18 nb HC1 HC2 HC3
                go_wp2
                go_roundw
                case measure => simp [intOf]; omega
                case rel => exact ⟨p + 1, by go_num, by omega, HA, HB6⟩
          | true =>
            cases sm with
            | true =>
              go_wp2_with fail
              rw [← hV]
              clear hV x0 x1 x2 y0 y3 a1 a2 a3 u0 u1 u2 u3 f0 f1 f2 f3 cca
              refine region_boxC (C := Below V.heap.size V) (by kernel_rfl) (by kernel_rfl) (Below.refl _ _).drew ?_
              repeat (first | go_big_quiet_step ((go_at_call 153; exact (HC1.out _).mono (fun _ _ h => ⟨h.1, BoxC.step _ h.2⟩))) | go_big_quiet_step ((go_at_call 122; exact (HC2.out _).mono (fun _ _ h => ⟨h.1, BoxC.step _ h.2⟩))))
              refine wpQuiet_nil ?_
              rintro w5 ⟨t5, rfl⟩
              have HF : Hid (r = false) := Lib.hid (by cases hrr : r with
                | false => rfl
                | true => exact absurd (HPT.out hrr) (by intro hh; exact hh.2.2.1 ⟨by trivial, by trivial⟩))
              have HB6 : Hid (Below w.heap.size w t5.W) := Lib.hid (HBW.out.trans (t5.h.mono hwV))
              clear b0 b1 b2 b3 b4 b5 b6 b7 b8 b9 b10 b11 b12 b13 b14 b15 b16 b17 b18 nb HC1 HC2 HC3
              go_wp2
              go_ret
              exact ⟨ret_bool HF.out.symm, HB6.out⟩
            | false =>
              have hns : ¬ (true = true ∧ false = true) := fun e => by cases e.2
              cases b with
              | false =>
                go_wp2_with fail
                rw [← hV]
                clear hV x0 x1 x2 y0 y3 a1 a2 a3 u0 u1 u2 u3 f0 f1 f2 f3 cca
                refine region_boxC (C := Below V.heap.size V) (by kernel_rfl) (by kernel_rfl) (Below.refl _ _).drew ?_
                repeat (first | go_big_quiet_step ((go_at_call 153; exact (HC1.out _).mono (fun _ _ h => ⟨h.1, BoxC.step _ h.2⟩))) | go_big_quiet_step ((go_at_call 122; exact (HC2.out _).mono (fun _ _ h => ⟨h.1, BoxC.step _ h.2⟩))))
                refine wpQuiet_nil ?_
                rintro w5 ⟨t5, rfl⟩
                go_wp2_with fail
                refine region_boxC (C := Below V.heap.size V) (by kernel_rfl) (by kernel_rfl) (BoxC.h t5).drew ?_
                repeat (first | go_big_quiet_step ((go_at_call 122; exact (HC2.out _).mono (fun _ _ h => ⟨h.1, BoxC.step _ h.2⟩))))
                refine wpQuiet_nil ?_
                rintro w6 ⟨t6, rfl⟩
                have HA := Lib.hid (HNX.out (by exact ⟨hkk, hne, hns, fun e => by cases e⟩))
                have HB6 : Hid (Below V0.heap.size V0 t6.W) := Lib.hid (HBV2.out.trans (t6.h.mono hVV))
                clear b0 b1 b2 b3 b4 b5 b6 b7 b8 b9 b10 b11 b12 b13 b14 b15 b16 b17 b18 nb HC1 HC2 HC3
                go_wp2
                go_roundw
                case measure => simp [intOf]; omega
                case rel => exact ⟨p + 1, by go_num, by omega, HA, HB6⟩
              | true =>
                by_cases hp0 : 0 < p
                · obtain ⟨p', hp'⟩ : ∃ p', p' + 1 = p := ⟨p - 1, by omega⟩
                  have hpe : p - 1 = p' := by omega
                  have HP' := Lib.hid hp'
                  have hw1 : IntKind.i64.wrap ((p : Int) - 1) = (p' : Int) := by rw [← hp', IntWalk.i64_in _ (by omega)]; omega
                  obtain ⟨B3, c9, l0, l1, l2, l3, hyy⟩ := HPREV.out hp0
                  have hsy := HSP.out hp0
                  rw [hpe] at l0 l1 l2 l3 hyy hsy HNX HPT
                  obtain ⟨y, hy⟩ : ∃ y, y = L.getD p' default := ⟨_, rfl⟩
                  rw [← hy] at l0 l1 l2 l3 hyy hsy HNX HPT
                  have m0 := kV l0
                  have m1 := kV l1
                  have m2 := kV l2
                  have m3' := kV l3
                  obtain ⟨z, hz⟩ : ∃ z, z = cmp y x := ⟨_, rfl⟩
                  have HC3p := Lib.hid (HC3.out y B3 c9 hyy hsy)
                  rw [← hz] at HC3p HNX HPT
                  have j1 : decide ((0 : Int) < (p : Int)) = true := decide_eq_true (by omega)
                  have j2 : decide (0 < p) = true := decide_eq_true hp0
                  have j3 : (0 : Int) ≤ (p' : Int) := by omega
                  have j4 : (p' : Int) < (q : Int) := by omega
                  clear l0 l1 l2 l3 hyy hy hz hp' hpe hsy kV
                  by_cases hz0 : 0 < z
                  · have j5 : decide (0 < z) = true := decide_eq_true hz0
                    go_wp2_with fail
                    rw [← hV]
                    clear hV x0 x1 x2 y0 y3 a1 a2 a3 u0 u1 u2 u3 f0 f1 f2 f3 cca
                    refine region_boxC (C := Below V.heap.size V) (by kernel_rfl) (by kernel_rfl) (Below.refl _ _).drew ?_
                    repeat (first | go_big_quiet_step ((go_at_call 153; exact (HC1.out _).mono (fun _ _ h => ⟨h.1, BoxC.step _ h.2⟩))) | go_big_quiet_step ((go_at_call 122; exact (HC2.out _).mono (fun _ _ h => ⟨h.1, BoxC.step _ h.2⟩))))
                    refine wpQuiet_nil ?_
                    rintro w5 ⟨t5, rfl⟩
                    go_wp2_with fail
                    refine region_boxC (C := Below V.heap.size V) (by kernel_rfl) (by kernel_rfl) (BoxC.h t5).drew ?_
                    repeat (first | go_big_quiet_step ((go_at_call 106; exact (HC3p.out _).mono (fun _ _ h => ⟨h.1, BoxC.step _ h.2⟩))))
                    refine wpQuiet_nil ?_
                    rintro w6 ⟨t6, rfl⟩
                    clear m0 m1 m2 m3' HC3p
                    have HF : Hid (r = false) := Lib.hid (by cases hrr : r with
                      | false => rfl
                      | true => exact absurd (HPT.out hrr) (by intro hh; have := hh.2.2.2 (by trivial) (by have := HP'.out; omega); omega))
                    have HB6 : Hid (Below w.heap.size w t6.W) := Lib.hid (HBW.out.trans (t6.h.mono hwV))
                    clear b0 b1 b2 b3 b4 b5 b6 b7 b8 b9 b10 b11 b12 b13 b14 b15 b16 b17 b18 nb HC1 HC2 HC3
                    go_wp2
                    go_ret
                    exact ⟨ret_bool HF.out.symm, HB6.out⟩
                  · have j5 : decide (0 < z) = false := decide_eq_false hz0
                    go_wp2_with fail
                    rw [← hV]
                    clear hV x0 x1 x2 y0 y3 a1 a2 a3 u0 u1 u2 u3 f0 f1 f2 f3 cca
                    refine region_boxC (C := Below V.heap.size V) (by kernel_rfl) (by kernel_rfl) (Below.refl _ _).drew ?_
                    repeat (first | go_big_quiet_step ((go_at_call 153; exact (HC1.out _).mono (fun _ _ h => ⟨h.1, BoxC.step _ h.2⟩))) | go_big_quiet_step ((go_at_call 122; exact (HC2.out _).mono (fun _ _ h => ⟨h.1, BoxC.step _ h.2⟩))))
                    refine wpQuiet_nil ?_
                    rintro w5 ⟨t5, rfl⟩
                    go_wp2_with fail
                    refine region_boxC (C := Below V.heap.size V) (by kernel_rfl) (by kernel_rfl) (BoxC.h t5).drew ?_
                    repeat (first | go_big_quiet_step ((go_at_call 106; exact (HC3p.out _).mono (fun _ _ h => ⟨h.1, BoxC.step _ h.2⟩))))
                    refine wpQuiet_nil ?_
                    rintro w6 ⟨t6, rfl⟩
                    clear m0 m1 m2 m3' HC3p
                    have HA := Lib.hid (HNX.out (by exact ⟨hkk, hne, hns, fun _ _ => by omega⟩))
                    have HB6 : Hid (Below V0.heap.size V0 t6.W) := Lib.hid (HBV2.out.trans (t6.h.mono hVV))
                    clear b0 b1 b2 b3 b4 b5 b6 b7 b8 b9 b10 b11 b12 b13 b14 b15 b16 b17 b18 nb HC1 HC2 HC3
                    go_wp2
                    go_roundw
                    case measure => simp [intOf]; omega
                    case rel => exact ⟨p + 1, by go_num, by omega, HA, HB6⟩
                · have j1 : decide ((0 : Int) < (p : Int)) = false := decide_eq_false (by omega)
                  have j2 : decide (0 < p) = false := decide_eq_false hp0
                  go_wp2_with fail
                  rw [← hV]
                  clear hV x0 x1 x2 y0 y3 a1 a2 a3 u0 u1 u2 u3 f0 f1 f2 f3 cca
                  refine region_boxC (C := Below V.heap.size V) (by kernel_rfl) (by kernel_rfl) (Below.refl _ _).drew ?_
                  repeat (first | go_big_quiet_step ((go_at_call 153; exact (HC1.out _).mono (fun _ _ h => ⟨h.1, BoxC.step _ h.2⟩))) | go_big_quiet_step ((go_at_call 122; exact (HC2.out _).mono (fun _ _ h => ⟨h.1, BoxC.step _ h.2⟩))))
                  refine wpQuiet_nil ?_
                  rintro w5 ⟨t5, rfl⟩
                  go_wp2_with fail
                  refine region_boxC (C := Below V.heap.size V) (by kernel_rfl) (by kernel_rfl) (BoxC.h t5).drew ?_
                  repeat (first | go_big_quiet_step ((go_at_call 122; exact (HC2.out _).mono (fun _ _ h => ⟨h.1, BoxC.step _ h.2⟩))))
                  refine wpQuiet_nil ?_
                  rintro w6 ⟨t6, rfl⟩
                  have HA := Lib.hid (HNX.out (by exact ⟨hkk, hne, hns, fun _ h => absurd h hp0⟩))
                  have HB6 : Hid (Below V0.heap.size V0 t6.W) := Lib.hid (HBV2.out.trans (t6.h.mono hVV))
                  clear b0 b1 b2 b3 b4 b5 b6 b7 b8 b9 b10 b11 b12 b13 b14 b15 b16 b17 b18 nb HC1 HC2 HC3
                  go_wp2
                  go_roundw
                  case measure => simp [intOf]; omega
                  case rel => exact ⟨p + 1, by go_num, by omega, HA, HB6⟩
        · have q1 : ((kx : Int) == (ka : Int)) = false := by simp; omega
          have q2 : (kx == ka) = false := by simp [hkk]
          have q3 : decide (kx = ka) = false := decide_eq_false hkk
          have q4 : ¬ (kx : Int) = (ka : Int) := by omega
          have q5 : (kx != ka) = true := by simp [hkk]
          have q6 : ((kx : Int) != (ka : Int)) = true := by simp; omega
          have q7 : (!decide ((kx : Int) = (ka : Int))) = true := by simp; omega
          have q8 : decide ((kx : Int) = (ka : Int)) = false := decide_eq_false q4
          go_wp2_with fail
          rw [← hV]
          clear hV x0 x1 x2 y0 y3 a1 a2 a3 u0 u1 u2 u3 f0 f1 f2 f3 cca
          refine region_boxC (C := Below V.heap.size V) (by kernel_rfl) (by kernel_rfl) (Below.refl _ _).drew ?_
          repeat (first | go_big_quiet_step ((go_at_call 153; exact (HC1.out _).mono (fun _ _ h => ⟨h.1, BoxC.step _ h.2⟩))) | go_big_quiet_step ((go_at_call 122; exact (HC2.out _).mono (fun _ _ h => ⟨h.1, BoxC.step _ h.2⟩))))
          refine wpQuiet_nil ?_
          rintro w5 ⟨t5, rfl⟩
          have HF : Hid (r = false) := Lib.hid (by cases hrr : r with
            | false => rfl
            | true => exact absurd (HPT.out hrr) (by intro hh; exact hkk hh.1))
          have HB6 : Hid (Below w.heap.size w t5.W) := Lib.hid (HBW.out.trans (t5.h.mono hwV))
          clear b0 b1 b2 b3 b4 b5 b6 b7 b8 b9 b10 b11 b12 b13 b14 b15 b16 b17 b18 nb HC1 HC2 HC3
          go_wp2
          go_ret
          exact ⟨ret_bool HF.out.symm, HB6.out⟩
      | true =>
        have cca' : wr.cell? ⟨gl, ol, none⟩ = some (.int .i64 ((za : Nat) : Int)) := by simpa [atS] using cca
        have b13 := kV cca'
        have hpl : 0 < ln := by simpa [atS] using hatp
        have i8 : (0 : Int) < (ln : Int) := by omega
        clear cca' hatp
        by_cases hkk : kx = ka
        · have q1 : ((kx : Int) == (ka : Int)) = true := by rw [hkk]; simp
          have q2 : (kx == ka) = true := by rw [hkk]; simp
          have q3 : decide (kx = ka) = true := decide_eq_true hkk
          obtain ⟨xo, hxo⟩ : ∃ z, z = x.op := ⟨_, rfl⟩
          rw [← hxo] at f0 hV b15 HC1 HC2 HC3 HPT HNX
          clear hxo
          by_cases hop : xo = (k : Int)
          · have HOP := Lib.hid hop
            have s1 : (xo == (k : Int)) = true := by rw [hop]; simp
            have s2 : decide (xo = (k : Int)) = true := decide_eq_true hop
            clear hop
            go_wp2_with fail
            rw [← hV]
            clear hV x0 x1 x2 y0 y3 a1 a2 a3 u0 u1 u2 u3 f0 f1 f2 f3 cca
            refine region_boxC (C := Below V.heap.size V) (by kernel_rfl) (by kernel_rfl) (Below.refl _ _).drew ?_
            repeat (first | go_big_quiet_step ((go_at_call 153; exact (HC1.out _).mono (fun _ _ h => ⟨h.1, BoxC.step _ h.2⟩))) | go_big_quiet_step ((go_at_call 122; exact (HC2.out _).mono (fun _ _ h => ⟨h.1, BoxC.step _ h.2⟩))))
            refine wpQuiet_nil ?_
            rintro w5 ⟨t5, rfl⟩
            have HF : Hid (r = false) := Lib.hid (by cases hrr : r with
              | false => rfl
              | true => exact absurd (HPT.out hrr) (by intro hh; exact hh.2.1 ⟨by trivial, HOP.out⟩))
            have HB6 : Hid (Below w.heap.size w t5.W) := Lib.hid (HBW.out.trans (t5.h.mono hwV))
            clear b0 b1 b2 b3 b4 b5 b6 b7 b8 b9 b10 b11 b12 b13 b14 b15 b16 b17 b18 nb HC1 HC2 HC3
            go_wp2
            go_ret
            exact ⟨ret_bool HF.out.symm, HB6.out⟩
          · have s1 : (xo == (k : Int)) = false := by simp [hop]
            have s2 : decide (xo = (k : Int)) = false := decide_eq_false hop
            have hne : ¬ (true = true ∧ xo = (k : Int)) := fun e => hop e.2
            cases ha with
            | false =>
              have hns : ¬ (false = true ∧ sm = true) := fun e => by cases e.1
              cases b with
              | false =>
                go_wp2_with fail
                rw [← hV]
                clear hV x0 x1 x2 y0 y3 a1 a2 a3 u0 u1 u2 u3 f0 f1 f2 f3 cca
                refine region_boxC (C := Below V.heap.size V) (by kernel_rfl) (by kernel_rfl) (Below.refl _ _).drew ?_
                repeat (first | go_big_quiet_step ((go_at_call 153; exact (HC1.out _).mono (fun _ _ h => ⟨h.1, BoxC.step _ h.2⟩))) | go_big_quiet_step ((go_at_call 122; exact (HC2.out _).mono (fun _ _ h => ⟨h.1, BoxC.step _ h.2⟩))))
                refine wpQuiet_nil ?_
                rintro w5 ⟨t5, rfl⟩
                go_wp2_with fail
                refine region_boxC (C := Below V.heap.size V) (by kernel_rfl) (by kernel_rfl) (BoxC.h t5).drew ?_
                repeat (first | go_big_quiet_step ((go_at_call 122; exact (HC2.out _).mono (fun _ _ h => ⟨h.1, BoxC.step _ h.2⟩))))
                refine wpQuiet_nil ?_
                rintro w6 ⟨t6, rfl⟩
                have HA := Lib.hid (HNX.out (by exact ⟨hkk, hne, hns, fun e => by cases e⟩))
                have HB6 : Hid (Below V0.heap.size V0 t6.W) := Lib.hid (HBV2.out.trans (t6.h.mono hVV))
                clear b0 b1 b2 b3 b4 b5 b6 b7 b8 b9 b10 b11 b12 b13 b14 b15 b16 b17 b18 nb HC1 HC2 HC3
                go_wp2
                go_roundw
                case measure => simp [intOf]; omega
                case rel => exact ⟨p + 1, by go_num, by omega, HA, HB6⟩
              | true =>
                by_cases hp0 : 0 < p
                · obtain ⟨p', hp'⟩ : ∃ p', p' + 1 = p := ⟨p - 1, by omega⟩
                  have hpe : p - 1 = p' := by omega
                  have HP' := Lib.hid hp'
                  have hw1 : IntKind.i64.wrap ((p : Int) - 1) = (p' : Int) := by rw [← hp', IntWalk.i64_in _ (by omega)]; omega
                  obtain ⟨B3, c9, l0, l1, l2, l3, hyy⟩ := HPREV.out hp0
                  have hsy := HSP.out hp0
                  rw [hpe] at l0 l1 l2 l3 hyy hsy HNX HPT
                  obtain ⟨y, hy⟩ : ∃ y, y = L.getD p' default := ⟨_, rfl⟩
                  rw [← hy] at l0 l1 l2 l3 hyy hsy HNX HPT
                  have m0 := kV l0
                  have m1 := kV l1
                  have m2 := kV l2
                  have m3' := kV l3
                  obtain ⟨z, hz⟩ : ∃ z, z = cmp y x := ⟨_, rfl⟩
                  have HC3p := Lib.hid (HC3.out y B3 c9 hyy hsy)
                  rw [← hz] at HC3p HNX HPT
                  have j1 : decide ((0 : Int) < (p : Int)) = true := decide_eq_true (by omega)
                  have j2 : decide (0 < p) = true := decide_eq_true hp0
                  have j3 : (0 : Int) ≤ (p' : Int) := by omega
                  have j4 : (p' : Int) < (q : Int) := by omega
                  clear l0 l1 l2 l3 hyy hy hz hp' hpe hsy kV
                  by_cases hz0 : 0 < z
                  · have j5 : decide (0 < z) = true := decide_eq_true hz0
                    go_wp2_with fail
                    rw [← hV]
                    clear hV x0 x1 x2 y0 y3 a1 a2 a3 u0 u1 u2 u3 f0 f1 f2 f3 cca
                    refine region_boxC (C := Below V.heap.size V) (by kernel_rfl) (by kernel_rfl) (Below.refl _ _).drew ?_
                    repeat (first | go_big_quiet_step ((go_at_call 153; exact (HC1.out _).mono (fun _ _ h => ⟨h.1, BoxC.step _ h.2⟩))) | go_big_quiet_step ((go_at_call 122; exact (HC2.out _).mono (fun _ _ h => ⟨h.1, BoxC.step _ h.2⟩))))
                    refine wpQuiet_nil ?_
                    rintro w5 ⟨t5, rfl⟩
                    go_wp2_with fail
                    refine region_boxC (C := Below V.heap.size V) (by kernel_rfl) (by kernel_rfl) (BoxC.h t5).drew ?_
                    repeat (first | go_big_quiet_step ((go_at_call 106; exact (HC3p.out _).mono (fun _ _ h => ⟨h.1, BoxC.step _ h.2⟩))))
                    refine wpQuiet_nil ?_
                    rintro w6 ⟨t6, rfl⟩
                    clear m0 m1 m2 m3' HC3p
                    have HF : Hid (r = false) := Lib.hid (by cases hrr : r with
                      | false => rfl
                      | true => exact absurd (HPT.out hrr) (by intro hh; have := hh.2.2.2 (by trivial) (by have := HP'.out; omega); omega))
                    have HB6 : Hid (Below w.heap.size w t6.W) := Lib.hid (HBW.out.trans (t6.h.mono hwV))
                    clear b0 b1 b2 b3 b4 b5 b6 b7 b8 b9 b10 b11 b12 b13 b14 b15 b16 b17 b18 nb HC1 HC2 HC3
                    go_wp2
                    go_ret
                    exact ⟨ret_bool HF.out.symm, HB6.out⟩
                  · have j5 : decide (0 < z) = false := decide_eq_false hz0
                    go_wp2_with fail
                    rw [← hV]
                    clear hV x0 x1 x2 y0 y3 a1 a2 a3 u0 u1 u2 u3 f0 f1 f2 f3 cca
                    refine region_boxC (C := Below V.heap.size V) (by kernel_rfl) (by kernel_rfl) (Below.refl _ _).drew ?_
                    repeat (first | go_big_quiet_step ((go_at_call 153; exact (HC1.out _).mono (fun _ _ h => ⟨h.1, BoxC.step _ h.2⟩))) | go_big_quiet_step ((go_at_call 122; exact (HC2.out _).mono (fun _ _ h => ⟨h.1, BoxC.step _ h.2⟩))))
                    refine wpQuiet_nil ?_
                    rintro w5 ⟨t5, rfl⟩
                    go_wp2_with fail
                    refine region_boxC (C := Below V.heap.size V) (by kernel_rfl) (by kernel_rfl) (BoxC.h t5).drew ?_
                    repeat (first | go_big_quiet_step ((go_at_call 106; exact (HC3p.out _).mono (fun _ _ h => ⟨h.1, BoxC.step _ h.2⟩))))
                    refine wpQuiet_nil ?_
                    rintro w6 ⟨t6, rfl⟩
                    clear m0 m1 m2 m3' HC3p
                    have HA := Lib.hid (HNX.out (by exact ⟨hkk, hne, hns, fun _ _ => by omega⟩))
                    have HB6 : Hid (Below V0.heap.size V0 t6.W) := Lib.hid (HBV2.out.trans (t6.h.mono hVV))
                    clear b0 b1 b2 b3 b4 b5 b6 b7 b8 b9 b10 b11 b12 b13 b14 b15 b16 b17 b18 nb HC1 HC2 HC3
                    go_wp2
                    go_roundw
                    case measure => simp [intOf]; omega
                    case rel => exact ⟨p + 1, by go_num, by omega, HA, HB6⟩
                · have j1 : decide ((0 : Int) < (p : Int)) = false := decide_eq_false (by omega)
                  have j2 : decide (0 < p) = false := decide_eq_false hp0
                  go_wp2_with fail
                  rw [← hV]
                  clear hV x0 x1 x2 y0 y3 a1 a2 a3 u0 u1 u2 u3 f0 f1 f2 f3 cca
                  refine region_boxC (C := Below V.heap.size V) (by kernel_rfl) (by kernel_rfl) (Below.refl _ _).drew ?_
                  repeat (first | go_big_quiet_step ((go_at_call 153; exact (HC1.out _).mono (fun _ _ h => ⟨h.1, BoxC.step _ h.2⟩))) | go_big_quiet_step ((go_at_call 122; exact (HC2.out _).mono (fun _ _ h => ⟨h.1, BoxC.step _ h.2⟩))))
                  refine wpQuiet_nil ?_
                  rintro w5 ⟨t5, rfl⟩
                  go_wp2_with fail
                  refine region_boxC (C := Below V.heap.size V) (by kernel_rfl) (by kernel_rfl) (BoxC.h t5).drew ?_
                  repeat (first | go_big_quiet_step ((go_at_call 122; exact (HC2.out _).mono (fun _ _ h => ⟨h.1, BoxC.step _ h.2⟩))))
                  refine wpQuiet_nil ?_
                  rintro w6 ⟨t6, rfl⟩
                  have HA := Lib.hid (HNX.out (by exact ⟨hkk, hne, hns, fun _ h => absurd h hp0⟩))
                  have HB6 : Hid (Below V0.heap.size V0 t6.W) := Lib.hid (HBV2.out.trans (t6.h.mono hVV))
                  clear b0 b1 b2 b3 b4 b5 b6 b7 b8 b9 b10 b11 b12 b13 b14 b15 b16 b17 b18 nb HC1 HC2 HC3
                  go_wp2
                  go_roundw
                  case measure => simp [intOf]; omega
                  case rel => exact ⟨p + 1, by go_num, by omega, HA, HB6⟩
            | true =>
              cases sm with
              | true =>
                go_wp2_with fail
                rw [← hV]
                clear hV x0 x1 x2 y0 y3 a1 a2 a3 u0 u1 u2 u3 f0 f1 f2 f3 cca
                refine region_boxC (C := Below V.heap.size V) (by kernel_rfl) (by kernel_rfl) (Below.refl _ _).drew ?_
                repeat (first | go_big_quiet_step ((go_at_call 153; exact (HC1.out _).mono (fun _ _ h => ⟨h.1, BoxC.step _ h.2⟩))) | go_big_quiet_step ((go_at_call 122; exact (HC2.out _).mono (fun _ _ h => ⟨h.1, BoxC.step _ h.2⟩))))
                refine wpQuiet_nil ?_
                rintro w5 ⟨t5, rfl⟩
                have HF : Hid (r = false) := Lib.hid (by cases hrr : r with
                  | false => rfl
                  | true => exact absurd (HPT.out hrr) (by intro hh; exact hh.2.2.1 ⟨by trivial, by trivial⟩))
                have HB6 : Hid (Below w.heap.size w t5.W) := Lib.hid (HBW.out.trans (t5.h.mono hwV))
                clear b0 b1 b2 b3 b4 b5 b6 b7 b8 b9 b10 b11 b12 b13 b14 b15 b16 b17 b18 nb HC1 HC2 HC3
                go_wp2
                go_ret
                exact ⟨ret_bool HF.out.symm, HB6.out⟩
              | false =>
                have hns : ¬ (true = true ∧ false = true) := fun e => by cases e.2
                cases b with
                | false =>
                  go_wp2_with fail
                  rw [← hV]
                  clear hV x0 x1 x2 y0 y3 a1 a2 a3 u0 u1 u2 u3 f0 f1 f2 f3 cca
                  refine region_boxC (C := Below V.heap.size V) (by kernel_rfl) (by kernel_rfl) (Below.refl _ _).drew ?_
                  repeat (first | go_big_quiet_step ((go_at_call 153; exact (HC1.out _).mono (fun _ _ h => ⟨h.1, BoxC.step _ h.2⟩))) | go_big_quiet_step ((go_at_call 122; exact (HC2.out _).mono (fun _ _ h => ⟨h.1, BoxC.step _ h.2⟩))))
                  refine wpQuiet_nil ?_
                  rintro w5 ⟨t5, rfl⟩
                  go_wp2_with fail
                  refine region_boxC (C := Below V.heap.size V) (by kernel_rfl) (by kernel_rfl) (BoxC.h t5).drew ?_
                  repeat (first | go_big_quiet_step ((go_at_call 122; exact (HC2.out _).mono (fun _ _ h => ⟨h.1, BoxC.step _ h.2⟩))))
                  refine wpQuiet_nil ?_
                  rintro w6 ⟨t6, rfl⟩
                  have HA := Lib.hid (HNX.out (by exact ⟨hkk, hne, hns, fun e => by cases e⟩))
                  have HB6 : Hid (Below V0.heap.size V0 t6.W) := Lib.hid (HBV2.out.trans (t6.h.mono hVV))
                  clear b0 b1 b2 b3 b4 b5 b6 b7 b8 b9 b10 b11 b12 b13 b14 b15 b16 b17 b18 nb HC1 HC2 HC3
                  go_wp2
                  go_roundw
                  case measure => simp [intOf]; omega
                  case rel => exact ⟨p + 1, by go_num, by omega, HA, HB6⟩
                | true =>
                  by_cases hp0 : 0 < p
                  · obtain ⟨p', hp'⟩ : ∃ p', p' + 1 = p := ⟨p - 1, by omega⟩
                    have hpe : p - 1 = p' := by omega
                    have HP' := Lib.hid hp'
                    have hw1 : IntKind.i64.wrap ((p : Int) - 1) = (p' : Int) := by rw [← hp', IntWalk.i64_in _ (by omega)]; omega
                    obtain ⟨B3, c9, l0, l1, l2, l3, hyy⟩ := HPREV.out hp0
                    have hsy := HSP.out hp0
                    rw [hpe] at l0 l1 l2 l3 hyy hsy HNX HPT
                    obtain ⟨y, hy⟩ : ∃ y, y = L.getD p' default := ⟨_, rfl⟩
                    rw [← hy] at l0 l1 l2 l3 hyy hsy HNX HPT
                    have m0 := kV l0
                    have m1 := kV l1
                    have m2 := kV l2
                    have m3' := kV l3
                    obtain ⟨z, hz⟩ : ∃ z, z = cmp y x := ⟨_, rfl⟩
                    have HC3p := Lib.hid (HC3.out y B3 c9 hyy hsy)
                    rw [← hz] at HC3p HNX HPT
                    have j1 : decide ((0 : Int) < (p : Int)) = true := decide_eq_true (by omega)
                    have j2 : decide (0 < p) = true := decide_eq_true hp0
                    have j3 : (0 : Int) ≤ (p' : Int) := by omega
                    have j4 : (p' : Int) < (q : Int) := by omega
                    clear l0 l1 l2 l3 hyy hy hz hp' hpe hsy kV
                    by_cases hz0 : 0 < z
                    · have j5 : decide (0 < z) = true := decide_eq_true hz0
                      go_wp2_with fail
                      rw [← hV]
                      clear hV x0 x1 x2 y0 y3 a1 a2 a3 u0 u1 u2 u3 f0 f1 f2 f3 cca
                      refine region_boxC (C := Below V.heap.size V) (by kernel_rfl) (by kernel_rfl) (Below.refl _ _).drew ?_
                      repeat (first | go_big_quiet_step ((go_at_call 153; exact (HC1.out _).mono (fun _ _ h => ⟨h.1, BoxC.step _ h.2⟩))) | go_big_quiet_step ((go_at_call 122; exact (HC2.out _).mono (fun _ _ h => ⟨h.1, BoxC.step _ h.2⟩))))
                      refine wpQuiet_nil ?_
                      rintro w5 ⟨t5, rfl⟩
                      go_wp2_with fail
                      refine region_boxC (C := Below V.heap.size V) (by kernel_rfl) (by kernel_rfl) (BoxC.h t5).drew ?_
                      repeat (first | go_big_quiet_step ((go_at_call 106; exact (HC3p.out _).mono (fun _ _ h => ⟨h.1, BoxC.step _ h.2⟩))))
                      refine wpQuiet_nil ?_
                      rintro w6 ⟨t6, rfl⟩
                      clear m0 m1 m2 m3' HC3p
                      have HF : Hid (r = false) := Lib.hid (by cases hrr : r with
                        | false => rfl
                        | true => exact absurd (HPT.out hrr) (by intro hh; have := hh.2.2.2 (by trivial) (by have := HP'.out; omega); omega))
                      have HB6 : Hid (Below w.heap.size w t6.W) := Lib.hid (HBW.out.trans (t6.h.mono hwV))
                      clear b0 b1 b2 b3 b4 b5 b6 b7 b8 b9 b10 b11 b12 b13 b14 b15 b16 b17 b18 nb HC1 HC2 HC3
                      go_wp2
                      go_ret
                      exact ⟨ret_bool HF.out.symm, HB6.out⟩
                    · have j5 : decide (0 < z) = false := decide_eq_false hz0
                      go_wp2_with fail
                      rw [← hV]
                      clear hV x0 x1 x2 y0 y3 a1 a2 a3 u0 u1 u2 u3 f0 f1 f2 f3 cca
                      refine region_boxC (C := Below V.heap.size V) (by kernel_rfl) (by kernel_rfl) (Below.refl _ _).drew ?_
                      repeat (first | go_big_quiet_step ((go_at_call 153; exact (HC1.out _).mono (fun _ _ h => ⟨h.1, BoxC.step _ h.2⟩))) | go_big_quiet_step ((go_at_call 122; exact (HC2.out _).mono (fun _ _ h => ⟨h.1, BoxC.step _ h.2⟩))))
                      refine wpQuiet_nil ?_
                      rintro w5 ⟨t5, rfl⟩
                      go_wp2_with fail
                      refine region_boxC (C := Below V.heap.size V) (by kernel_rfl) (by kernel_rfl) (BoxC.h t5).drew ?_
                      repeat (first | go_big_quiet_step ((go_at_call 106; exact (HC3p.out _).mono (fun _ _ h => ⟨h.1, BoxC.step _ h.2⟩))))
                      refine wpQuiet_nil ?_
                      rintro w6 ⟨t6, rfl⟩
                      clear m0 m1 m2 m3' HC3p
                      have HA := Lib.hid (HNX.out (by exact ⟨hkk, hne, hns, fun _ _ => by omega⟩))
                      have HB6 : Hid (Below V0.heap.size V0 t6.W) := Lib.hid (HBV2.out.trans (t6.h.mono hVV))
                      clear b0 b1 b2 b3 b4 b5 b6 b7 b8 b9 b10 b11 b12 b13 b14 b15 b16 b17 b18 nb HC1 HC2 HC3
                      go_wp2
                      go_roundw
                      case measure => simp [intOf]; omega
                      case rel => exact ⟨p + 1, by go_num, by omega, HA, HB6⟩
                  · have j1 : decide ((0 : Int) < (p : Int)) = false := decide_eq_false (by omega)
                    have j2 : decide (0 < p) = false := decide_eq_false hp0
                    go_wp2_with fail
                    rw [← hV]
                    clear hV x0 x1 x2 y0 y3 a1 a2 a3 u0 u1 u2 u3 f0 f1 f2 f3 cca
                    refine region_boxC (C := Below V.heap.size V) (by kernel_rfl) (by kernel_rfl) (Below.refl _ _).drew ?_
                    repeat (first | go_big_quiet_step ((go_at_call 153; exact (HC1.out _).mono (fun _ _ h => ⟨h.1, BoxC.step _ h.2⟩))) | go_big_quiet_step ((go_at_call 122; exact (HC2.out _).mono (fun _ _ h => ⟨h.1, BoxC.step _ h.2⟩))))
                    refine wpQuiet_nil ?_
                    rintro w5 ⟨t5, rfl⟩
                    go_wp2_with fail
                    refine region_boxC (C := Below V.heap.size V) (by kernel_rfl) (by kernel_rfl) (BoxC.h t5).drew ?_
                    repeat (first | go_big_quiet_step ((go_at_call 122; exact (HC2.out _).mono (fun _ _ h => ⟨h.1, BoxC.step _ h.2⟩))))
                    refine wpQuiet_nil ?_
                    rintro w6 ⟨t6, rfl⟩
                    have HA := Lib.hid (HNX.out (by exact ⟨hkk, hne, hns, fun _ h => absurd h hp0⟩))
                    have HB6 : Hid (Below V0.heap.size V0 t6.W) := Lib.hid (HBV2.out.trans (t6.h.mono hVV))
                    clear b0 b1 b2 b3 b4 b5 b6 b7 b8 b9 b10 b11 b12 b13 b14 b15 b16 b17 b18 nb HC1 HC2 HC3
                    go_wp2
                    go_roundw
                    case measure => simp [intOf]; omega
                    case rel => exact ⟨p + 1, by go_num, by omega, HA, HB6⟩
        · have q1 : ((kx : Int) == (ka : Int)) = false := by simp; omega
          have q2 : (kx == ka) = false := by simp [hkk]
          have q3 : decide (kx = ka) = false := decide_eq_false hkk
          have q4 : ¬ (kx : Int) = (ka : Int) := by omega
          have q5 : (kx != ka) = true := by simp [hkk]
          have q6 : ((kx : Int) != (ka : Int)) = true := by simp; omega
          have q7 : (!decide ((kx : Int) = (ka : Int))) = true := by simp; omega
          have q8 : decide ((kx : Int) = (ka : Int)) = false := decide_eq_false q4
          go_wp2_with fail
          rw [← hV]
          clear hV x0 x1 x2 y0 y3 a1 a2 a3 u0 u1 u2 u3 f0 f1 f2 f3 cca
          refine region_boxC (C := Below V.heap.size V) (by kernel_rfl) (by kernel_rfl) (Below.refl _ _).drew ?_
          repeat (first | go_big_quiet_step ((go_at_call 153; exact (HC1.out _).mono (fun _ _ h => ⟨h.1, BoxC.step _ h.2⟩))) | go_big_quiet_step ((go_at_call 122; exact (HC2.out _).mono (fun _ _ h => ⟨h.1, BoxC.step _ h.2⟩))))
          refine wpQuiet_nil ?_
          rintro w5 ⟨t5, rfl⟩
          have HF : Hid (r = false) := Lib.hid (by cases hrr : r with
            | false => rfl
            | true => exact absurd (HPT.out hrr) (by intro hh; exact hkk hh.1))
          have HB6 : Hid (Below w.heap.size w t5.W) := Lib.hid (HBW.out.trans (t5.h.mono hwV))
          clear b0 b1 b2 b3 b4 b5 b6 b7 b8 b9 b10 b11 b12 b13 b14 b15 b16 b17 b18 nb HC1 HC2 HC3
          go_wp2
          go_ret
          exact ⟨ret_bool HF.out.symm, HB6.out⟩
    · have d1 : decide ((p : Int) < (q : Int)) = false := decide_eq_false (by omega)
      have d3 : decide (p < q) = false := decide_eq_false hlt
      have HT : Hid (r = true) := Lib.hid (HR.out.2 (fun i hi => HALL.out i (by omega)))
      have HBF : Hid (Below w.heap.size w wr) := Lib.hid (HBV.out.trans (hbel.mono HBV.out.size))
      clear x0' x1' x2' y0' y1' y2' y3' hbel
      go_wp2
      go_ret
      exact ⟨ret_bool HT.out.symm, HBF.out⟩
end Go.Proofs.YtjejdcehlckfhaaGreat.formr
