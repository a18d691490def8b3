/-
  THE PROGRAM's FUNCTIONS OF SIGNATURES: opNames, opShapes, fitsArguments, fitsUnit.
-/
import Derived.Test.YtjejdcehlckfhaaGreatSigj
import Derived.Deep.RegionHeld3
import Derived.Deep.QuietTactic
import Derived.BigQuiet
namespace Go.Proofs.YtjejdcehlckfhaaGreat.sigk
open Go.ChangeShapes Go.WideShapes Go.ChangeAt Go.RowKit
open mem split strl join subs sortn setm sets sortm sortp sorti sortf rowl sigm sigs sigi sigj

/-- shapes in memory -/
def RS : Reads Shp := fun _ _ cs s => cs = shcs s
theorem RS_steady : Steady RS := ⟨fun h _ => h, fun h _ => h⟩
instance : Inhabited Shp := ⟨zsh⟩
abbrev HasT (w : World) (v : Value) (S : List Shp) : Prop := HasR RS 5 0 w v S
theorem shape_at {w : World} {A : Option Addr} {n c : Nat} {S : List Shp} (h : HasT w (.slice A n c) S) {j : Nat} (hj : j < n) :
    ∃ g o, A = some ⟨g, o, none⟩ ∧ g < w.heap.size ∧ w.cell? ⟨g, o + j * 5, none⟩ = some (.int .i64 ((S.getD j default).1 : Int)) ∧ w.cell? ⟨g, o + j * 5 + 1, none⟩ = some (.int .u16 ((S.getD j default).2.1 : Int)) ∧
      w.cell? ⟨g, o + j * 5 + 2, none⟩ = some (.int .u16 ((S.getD j default).2.2.1 : Int)) ∧ w.cell? ⟨g, o + j * 5 + 3, none⟩ = some (.int .u16 ((S.getD j default).2.2.2.1 : Int)) ∧ w.cell? ⟨g, o + j * 5 + 4, none⟩ = some (.int .u16 ((S.getD j default).2.2.2.2 : Int)) := by
  obtain ⟨g, o, cs, e, _, hg, hc, hr⟩ := h.get hj
  have hr : cs = shcs (S.getD j default) := hr
  subst hr
  exact ⟨g, o, e, hg, hc 0 (by omega), hc 1 (by omega), hc 2 (by omega), hc 3 (by omega), hc 4 (by omega)⟩
theorem flat5 : ∀ (S : List Shp) (j : Nat), j < S.length → ∀ i, i < 5 → (S.flatMap shcs)[j * 5 + i]? = some ((shcs (S.getD j default)).getD i undef)
  | [], _, h, _, _ => by simp at h
  | s :: S, 0, _, i, hi => by
    have hl : (shcs s).length = 5 := rfl
    rw [List.flatMap_cons, Nat.zero_mul, Nat.zero_add, List.getElem?_append_left (by omega)]
    simp [List.getD, List.getElem?_eq_getElem (show i < (shcs s).length by omega)]
  | s :: S, j + 1, h, i, hi => by
    have hl : (shcs s).length = 5 := rfl
    rw [List.flatMap_cons, List.getElem?_append_right (by omega), show (j + 1) * 5 + i - (shcs s).length = j * 5 + i by omega, flat5 S j (by simpa using h) i hi]
    simp
theorem HasT.of_own {w : World} {base n : Nat} {e : TypeId} {v : Value} {S : List Shp} (h : w.ownsRow base e 5 v n (S.flatMap shcs)) (hS : S.length = n) : HasT w v S :=
  (HasR.of_own (R := RS) h hS (fun j hj => ⟨_, flat5 S j (by omega), rfl⟩)).mono RS_steady (Nat.zero_le _)

/-- the axioms in terms of shapes -/
def argsS (a c : Bool) (u : Int) (s : Shp) : Bool := if a || decide (u ≠ 0) then decide (s = (2, s.2.1, s.2.1, 0, s.2.1)) else (!c || decide (s = (2, s.2.1, s.2.1, 0, s.2.2.2.2)))
def unitS (u : Int) (s : Shp) (S : List Shp) : Bool := decide (u = 0) || (decide (0 ≤ u ∧ u ≤ S.length) && decide (S.getD (u.toNat - 1) default = (0, 0, 0, 0, s.2.2.2.2)))
theorem argsS_eq {n : Nat} {κ : Int → Nat} {o : OpM} (h : okD n (hd0 o.decls) = true) : argsS o.ass o.com o.unt (shp κ (hd0 o.decls)) = argsOk κ o := by
  have h1 := (okD_parts h).1
  unfold argsS argsOk shp ar a0 a1 rs
  generalize (hd0 o.decls).2 = x
  generalize (hd0 o.decls).1 = L at h1
  match L, h1 with
  | [], _ => cases o.ass <;> cases o.com <;> by_cases hu : o.unt = 0 <;> simp [hu]
  | [a], _ => cases o.ass <;> cases o.com <;> by_cases hu : o.unt = 0 <;> simp [hu]
  | [a, b], _ => cases o.ass <;> cases o.com <;> by_cases hu : o.unt = 0 <;> simp [hu, pl] <;> (first | done | omega | (rw [Bool.eq_iff_iff]; simp; omega))
  | [a, b, c], _ => cases o.ass <;> cases o.com <;> by_cases hu : o.unt = 0 <;> simp [hu]
  | _ :: _ :: _ :: _ :: _, h => simp at h
def shps (κ : Int → Nat) (O : List OpM) : List Shp := O.map fun o => shp κ (hd0 o.decls)
theorem shps_len (κ : Int → Nat) (O : List OpM) : (shps κ O).length = O.length := by simp [shps]
theorem shps_get (κ : Int → Nat) (O : List OpM) (k : Nat) (h : k < O.length) : (shps κ O).getD k default = shp κ (hd0 (O.getD k default).decls) := by
  simp [shps, List.getD, List.getElem?_eq_getElem h]
theorem unitS_eq {κ : Int → Nat} {O : List OpM} {o : OpM} : unitS o.unt (shp κ (hd0 o.decls)) (shps κ O) = unitOk κ O o := by
  unfold unitS unitOk
  rw [shps_len]
  by_cases h0 : o.unt = 0
  · simp [h0]
  by_cases h1 : 0 ≤ o.unt ∧ o.unt ≤ O.length
  · have hk : o.unt.toNat - 1 < O.length := by omega
    rw [shps_get κ O _ hk]
    have e : O.getD (o.unt.toNat - 1) default = unitOf O o := rfl
    rw [e]
    have e2 : decide (shp κ (hd0 (unitOf O o).decls) = (0, 0, 0, 0, (shp κ (hd0 o.decls)).2.2.2.2)) = (decide (ar (unitOf O o) = 0) && decide (κ (rs (unitOf O o)) = κ (rs o))) := by
      rw [← Bool.decide_and, decide_eq_decide]
      simp only [shp, ar, rs, Prod.mk.injEq]
      constructor
      · rintro ⟨h, _, _, _, h2⟩; exact ⟨h, h2⟩
      · rintro ⟨h, h2⟩
        exact ⟨h, by rw [pl, if_neg (by omega)], by rw [pl, if_neg (by omega)], by rw [pl, if_neg (by omega)], h2⟩
    rw [e2]
    simp [h0, h1]
  · simp [h0, h1]
theorem info_str2 : (Tryz.prog.info? 9).map (fun i => (i.zero, i.size, i.bytes)) = some (some (.string .empty), 1, 16) := by kernel_rfl
theorem ssv_append (P Q : List (List UInt8)) : ssv (P ++ Q) = ssv P ++ ssv Q := by simp [ssv]
theorem nms_take_succ (O : List OpM) (k : Nat) (h : k < O.length) : nms (O.take (k + 1)) = nms (O.take k) ++ [(O.getD k default).name] := by
  have e : O.getD k default = O[k] := by simp [List.getD, List.getElem?_eq_getElem h]
  rw [e, List.take_succ_eq_append_getElem h, nms, List.map_append]
  rfl
set_option maxRecDepth 20000 in
/-- impl.opNames -/
theorem opNames_any (O : List OpM) (hO : O.length ≤ 14) (v : Value) (w : World) {lo : Nat} (h : HasO lo w v O) :
    Calls Tryz.prog 145 #[v] w fun e w' => ∃ v', e = .returned v' ∧ Has w' v' (ssv (nms O)) ∧ Below w.heap.size w w' := by
  obtain ⟨n, hn⟩ : ∃ n, n = O.length := ⟨_, rfl⟩
  obtain ⟨A, c, rfl, h⟩ := HasR.shape h hn.symm
  obtain ⟨i0, hi, hz0, hz1, hz2⟩ := info_parts info_str2
  have hl := h.len.2.1
  have HH := Lib.hid h
  have HN := Lib.hid hn
  rw [← hn] at hO
  clear h hn
  go_enter Tryz.func145, Tryz.ntmps145
  go_wp2_with (at_make; refine wpList_make_own _ rfl _ _ 22 rfl w.heap.size 9 i0 _ 1 Tryz.underlying22 hi hz0 hz1 _ _ _ n rfl rfl (by go_num) (by rw [hz2]; omega) (by unfold maxLen; omega) (Nat.le_refl _) ?_)
  intro w1 hown hgrow
  have hb1 : Below w.heap.size w w1 := (Below.refl w.heap.size w).grown hgrow (Nat.le_refl _) (by intro k hk; cases hk)
  clear hgrow
  go_wp2
  go_loopw [3, 11] (fun v i wr => ∃ k : Nat, k ≤ n ∧ i = .int .i64 k ∧ wr.ownsRow w.heap.size 9 1 v k (ssv (nms (O.take k))) ∧ Below w.heap.size w wr) (fun _ i _ => n - (intOf i).toNat)
  case atStart => exact ⟨0, Nat.zero_le _, rfl, hown, hb1⟩
  case round =>
    obtain ⟨k, hk, rfl, hown', hbel⟩ := hrel
    clear hown
    have HO := Lib.hid (own_block hown')
    by_cases hlt : k < n
    · obtain ⟨g, o, A2, c2, rfl, _, hg, hc0, hc1, hc2, hc3, hc4, hh, _, _⟩ := op_at HH.out hlt
      have kw : ∀ x, w.cell? ⟨g, x, none⟩ = wr.cell? ⟨g, x, none⟩ := fun x => (hbel.cell (p := ⟨g, x, none⟩) hg).symm
      rw [kw] at hc0 hc1 hc2 hc3 hc4
      have HB := Lib.hid (nms_take_succ O k (by have := HN.out; omega))
      obtain ⟨⟨nm, D, a, b, u⟩, hd⟩ : ∃ d, d = O.getD k default := ⟨_, rfl⟩
      rw [← hd] at hc0 hc1 hc2 hc3 hc4 HB
      have HOWN := Lib.hid hown'
      clear hh hd hown' kw
      go_wp2_with (at_builtin; refine wpList_append_own _ rfl _ _ 22 rfl w.heap.size 9 i0 _ 1 16 Tryz.underlying22 hi hz0 hz1 hz2 rfl (by decide) _ _ _ rfl (own_below HOWN.out ?_) ⟨wr.heap.size + 1, 0, none⟩ 1 1 [.string (bstr nm)] rfl rfl ?_ (one_one _ rfl) (by unfold maxLen; omega) (by omega) (by have := hbel.size; simp; omega) ?_)
      · repeat (first | exact Below.refl _ _ | refine Below.setCell ?_ (by simp) _ | refine Below.alloc ?_ (by simp) _)
      intro v2 w2 hown2 hgrow2 _
      have HB2 : Below w.heap.size w w2 := Below.grown (w := _) (by repeat (first | exact hbel | refine Below.alloc ?_ (by first | exact hbel.size | (have := hbel.size; simp; omega)) _)) hgrow2 (by have := hbel.size; simp; omega) HO.out
      have HOWN2 : w2.ownsRow w.heap.size 9 1 v2 (k + 1) (ssv (nms (O.take (k + 1)))) := by
        rw [HB.out, ssv_append]; exact hown2
      clear hown2 hgrow2 hbel
      go_wp2
      go_roundw
      case rel => exact ⟨k + 1, by omega, by go_num, HOWN2, HB2⟩
      case measure => simp [intOf]; omega
    · obtain rfl : k = n := by omega
      go_wp2
      go_ret
      refine ⟨_, rfl, ?_, hbel⟩
      have h1 := Has.of_own hown'
      rw [List.take_of_length_le (by have := HN.out; omega)] at h1
      exact h1
theorem shps_take_succ (κ : Int → Nat) (O : List OpM) (k : Nat) (h : k < O.length) : shps κ (O.take (k + 1)) = shps κ (O.take k) ++ [shp κ (hd0 (O.getD k default).decls)] := by
  have e : O.getD k default = O[k] := by simp [List.getD, List.getElem?_eq_getElem h]
  rw [e, List.take_succ_eq_append_getElem h, shps, List.map_append]
  rfl
theorem shcs_one (s : Shp) : ∀ x ∈ shcs s, x.oneCell' = true := by
  intro x hx
  simp [shcs] at hx
  rcases hx with rfl | rfl | rfl | rfl | rfl <;> rfl
theorem five_cells (w : World) (a b c d e : Value) (t : TypeId) : ∀ (j : Nat) (x : Value), [a, b, c, d, e][j]? = some x → (w.alloc (.cells #[a, b, c, d, e] t)).cell? ((⟨w.heap.size, 0, none⟩ : Addr).add j) = some x := by
  intro j x hj
  match j, hj with
  | 0, hj => simp at hj; subst hj; simp [Addr.add]
  | 1, hj => simp at hj; subst hj; simp [Addr.add]
  | 2, hj => simp at hj; subst hj; simp [Addr.add]
  | 3, hj => simp at hj; subst hj; simp [Addr.add]
  | 4, hj => simp at hj; subst hj; simp [Addr.add]
theorem info_shape : (Tryz.prog.info? 100).map (fun i => (i.zero, i.size, i.bytes)) = some (some (.agg #[.int .i64 0, .int .u16 0, .int .u16 0, .int .u16 0, .int .u16 0]), 5, 16) := by kernel_rfl
set_option maxRecDepth 20000 in
set_option maxHeartbeats 1000000 in
/-- impl.opShapes -/
theorem opShapes_any (U : List Nat) (hU : Lim U) (O : List OpM) (hO : O.length ≤ 14) (r : Bool) (hr : (O.all fun o => declsOk U.length (κU U) o.decls) = r) (v mv : Value) (w : World) {lo : Nat} (h : HasO lo w v O) (hM : MapU w mv U) :
    Calls Tryz.prog 146 #[v, mv] w fun e w' => ∃ v', e = .returned (.tuple #[v', .bool r]) ∧ (r = true → HasT w' v' (shps (κU U) O)) ∧ (r = false → v' = .slice none 0 0) ∧ Below w.heap.size w w' := by
  have HCS : Hid (∀ (D : List (List Int × Int)) (r : Bool) (va : Value) (W : World), declsOk U.length (κU U) D = r → Below w.heap.size w W → HasD lo W va D →
      Calls Tryz.prog 182 #[va, mv] W fun e w' => e = .returned (.tuple #[shv (shpR r (κU U) (hd0 D)), .bool r]) ∧ Below W.heap.size W w') :=
    Lib.hid (fun D r va W hr hW hH => commonShape_any U hU D r hr va mv W hH (hM.below hW))
  obtain ⟨n, hn⟩ : ∃ n, n = O.length := ⟨_, rfl⟩
  obtain ⟨A, c, rfl, h⟩ := HasR.shape h hn.symm
  obtain ⟨i0, hi, hz0, hz1, hz2⟩ := info_parts info_shape
  have hl := h.len.2.1
  have HH := Lib.hid h
  have HN := Lib.hid hn
  rw [← hn] at hO
  clear h hn hM
  go_enter Tryz.func146, Tryz.ntmps146
  go_wp2_with (at_make; refine wpList_make_own _ rfl _ _ 150 rfl w.heap.size 100 i0 _ 5 Tryz.underlying150 hi hz0 hz1 _ _ _ n rfl rfl (by go_num) (by rw [hz2]; omega) (by unfold maxLen; omega) (Nat.le_refl _) ?_)
  intro w1 hown hgrow
  have hb1 : Below w.heap.size w w1 := (Below.refl w.heap.size w).grown hgrow (Nat.le_refl _) (by intro k hk; cases hk)
  clear hgrow
  go_wp2
  go_loopw [6, 16] (fun v i wr => ∃ k : Nat, k ≤ n ∧ i = .int .i64 k ∧ Hid (∀ j, j < k → declsOk U.length (κU U) (O.getD j default).decls = true) ∧ wr.ownsRow w.heap.size 100 5 v k ((shps (κU U) (O.take k)).flatMap shcs) ∧ Below w.heap.size w wr) (fun _ i _ => n - (intOf i).toNat)
  case atStart => exact ⟨0, Nat.zero_le _, rfl, Lib.hid (fun j hj => by omega), hown, hb1⟩
  case round =>
    obtain ⟨k, hk, rfl, HALL, hown', hbel⟩ := hrel
    clear hown
    by_cases hlt : k < n
    · obtain ⟨g, o, A2, c2, rfl, _, hg, hc0, hc1, hc2, hc3, hc4, hh, _, _⟩ := op_at HH.out hlt
      have kw : ∀ x, w.cell? ⟨g, x, none⟩ = wr.cell? ⟨g, x, none⟩ := fun x => (hbel.cell (p := ⟨g, x, none⟩) hg).symm
      rw [kw] at hc0 hc1 hc2 hc3 hc4
      have hh2 := hh.below RD_steady (Nat.le_refl _) hbel
      have HB := Lib.hid (shps_take_succ (κU U) O k (by have := HN.out; omega))
      have HBAD : Hid (declsOk U.length (κU U) (O.getD k default).decls = false → r = false) := Lib.hid (fun hb => by
        rw [← hr, List.all_eq_false]
        have hk' : k < O.length := by have := HN.out; omega
        refine ⟨O[k], List.getElem_mem hk', ?_⟩
        have e : O.getD k default = O[k] := by simp [List.getD, List.getElem?_eq_getElem hk']
        rw [← e, hb]; simp)
      have HGOOD : Hid (declsOk U.length (κU U) (O.getD k default).decls = true → ∀ j, j < k + 1 → declsOk U.length (κU U) (O.getD j default).decls = true) := Lib.hid (fun hb j hj => by
        by_cases e : j = k
        · subst e; exact hb
        · exact HALL.out j (by omega))
      obtain ⟨⟨nm, D, a, b, u⟩, hd⟩ : ∃ d, d = O.getD k default := ⟨_, rfl⟩
      rw [← hd] at hc0 hc1 hc2 hc3 hc4 HB HBAD HGOOD hh2
      have HD2 := Lib.hid hh2
      have HOWN := Lib.hid hown'
      clear hh hd hown' kw hh2 hr
      cases hok : declsOk U.length (κU U) D with
      | false =>
        have HR := Lib.hid (HBAD.out hok)
        have HC := Lib.hid (fun va W hW hH => HCS.out D false va W hok hW hH)
        clear hok
        go_wp2_with fail
        refine (HC.out _ _ (hbel.alloc hbel.size _) (HD2.out.below RD_steady (Nat.le_refl _) ((Below.refl _ _).alloc (Nat.le_refl _) _))).mono ?_
        rintro e w2 ⟨he, hb2⟩
        rw [shpR, if_neg (by simp), zsh, shv_mk] at he
        subst he
        have hbw2 : Below w.heap.size w w2 := (hbel.alloc hbel.size _).trans (hb2.mono (by have := hbel.size; simp; omega))
        clear hb2
        go_wp2
        refine bodyPost_ret (v := .tuple #[.slice none 0 0, .bool false]) (by simp [results, Tryz.results146, go_sem]) rfl ?_
        exact ⟨_, by rw [HR.out], fun e => (by rw [HR.out] at e; cases e), fun _ => rfl, hbw2.alloc hbw2.size _⟩
      | true =>
        have HC := Lib.hid (fun va W hW hH => HCS.out D true va W hok hW hH)
        have HG := Lib.hid (HGOOD.out hok)
        obtain ⟨s, hs⟩ : ∃ s, s = shpR true (κU U) (hd0 D) := ⟨_, rfl⟩
        rw [← hs] at HC
        have hs' : s = shp (κU U) (hd0 D) := hs
        have HBS : Hid (shps (κU U) (O.take (k + 1)) = shps (κU U) (O.take k) ++ [s]) := Lib.hid (by rw [hs']; exact HB.out)
        obtain ⟨s0, s1, s2, s3, s4⟩ := s
        clear hok hs hs'
        go_wp2_with fail
        refine (HC.out _ _ (hbel.alloc hbel.size _) (HD2.out.below RD_steady (Nat.le_refl _) ((Below.refl _ _).alloc (Nat.le_refl _) _))).mono ?_
        rintro e w2 ⟨he, hb2⟩
        rw [shv_mk] at he
        subst he
        have hbw2 : Below w.heap.size w w2 := (hbel.alloc hbel.size _).trans (hb2.mono (by have := hbel.size; simp; omega))
        have HOWN1 := Lib.hid (own_below (own_below HOWN.out ((Below.refl _ _).alloc (Nat.le_refl _) _)) hb2)
        have HO := Lib.hid (own_block HOWN1.out)
        clear hb2
        go_wp2_with (at_builtin; refine wpList_append_own _ rfl _ _ 150 rfl w.heap.size 100 i0 _ 5 16 Tryz.underlying150 hi hz0 hz1 hz2 rfl (by decide) _ _ _ rfl (own_below HOWN1.out ?_) ⟨w2.heap.size + 1, 0, none⟩ 1 1 (shcs (s0, s1, s2, s3, s4)) rfl rfl ?_ (shcs_one _) (by unfold maxLen; omega) (by omega) (by have := hbw2.size; simp; omega) ?_)
        · repeat (first | exact Below.refl _ _ | refine Below.setCell ?_ (by simp) _ | refine Below.alloc ?_ (by simp) _)
        · intro j y hj
          have := five_cells (w2.alloc (.cells #[.int .i64 (s0 : Int), .int .u16 (s1 : Int), .int .u16 (s2 : Int), .int .u16 (s3 : Int), .int .u16 (s4 : Int)] 100)) _ _ _ _ _ 100 j y hj
          simpa using this
        intro v2 w3 hown2 hgrow2 _
        have HB2 : Below w.heap.size w w3 := Below.grown (w := _) (by repeat (first | exact hbw2 | refine Below.alloc ?_ (by first | exact hbw2.size | (have := hbw2.size; simp; omega)) _)) hgrow2 (by have := hbw2.size; simp; omega) HO.out
        have HOWN2 : w3.ownsRow w.heap.size 100 5 v2 (k + 1) ((shps (κU U) (O.take (k + 1))).flatMap shcs) := by
          rw [HBS.out, List.flatMap_append]; simpa using hown2
        clear hown2 hgrow2 hbel hbw2
        go_wp2
        go_roundw
        case rel => exact ⟨k + 1, by omega, by go_num, HG, HOWN2, HB2⟩
        case measure => simp [intOf]; omega
    · obtain rfl : k = n := by omega
      have HR : Hid (r = true) := Lib.hid (by
        rw [← hr, List.all_eq_true]
        intro o ho
        obtain ⟨j, hj, rfl⟩ := List.getElem_of_mem ho
        have := HALL.out j (by have := HN.out; omega)
        simpa [List.getD, List.getElem?_eq_getElem hj] using this)
      obtain ⟨A5, c5, rfl, _⟩ := own_slice hown'
      go_wp2
      refine bodyPost_ret (v := .tuple #[.slice A5 k c5, .bool true]) (by simp [results, Tryz.results146, go_sem]) rfl ?_
      refine ⟨_, by rw [HR.out], fun _ => ?_, fun e => (by rw [HR.out] at e; cases e), hbel⟩
      rw [List.take_of_length_le (by have := HN.out; omega)] at hown'
      exact HasT.of_own hown' (by rw [shps_len]; exact HN.out.symm)
end Go.Proofs.YtjejdcehlckfhaaGreat.sigk
