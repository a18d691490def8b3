/-
  THE WALK OF FnExactSubtermAt.
-/
import Derived.Test.YtiilamngcoegiaaOccn
import Derived.Test.YtiilamngcoegiaaOccm
import Derived.Test.YtiilamngcoegiaaTermop
namespace Go.Proofs.Ytiilamngcoegiaa.fnExactSubtermAt
open Go.ChangeShapes Go.WideShapes Go.ChangeAt Go.RowKit
open mem setm rowl trm trmv terml termb termt termu termx occm occn

abbrev Four (x : Nat) (v0 v1 v2 v3 : Value) (w : World) : Prop := w.cell? ⟨x, 0, none⟩ = some v0 ∧ w.cell? ⟨x, 1, none⟩ = some v1 ∧ w.cell? ⟨x, 2, none⟩ = some v2 ∧ w.cell? ⟨x, 3, none⟩ = some v3
theorem Four.below {x : Nat} {v0 v1 v2 v3 : Value} {w w' : World} (h : Four x v0 v1 v2 v3 w) (hb : Below w.heap.size w w') : Four x v0 v1 v2 v3 w' := by
  have k : ∀ {o : Nat} {v : Value}, w.cell? ⟨x, o, none⟩ = some v → w'.cell? ⟨x, o, none⟩ = some v := fun {o v} h => (hb.cell (p := ⟨x, o, none⟩) (World.block_lt_of_cell? w _ h)).trans h
  exact ⟨k h.1, k h.2.1, k h.2.2.1, k h.2.2.2⟩
theorem own_lt {w : World} {base n : Nat} {e : TypeId} {size : Nat} {v : Value} {xs : List Value} (h : w.ownsRow base e size v n xs) : ∀ k ∈ v.ownBlock.toList, base ≤ k ∧ k < w.heap.size := by
  rcases h.2 with ⟨rfl, _⟩ | ⟨g, cap, cur, rfl, hb, hg, _⟩
  · intro k hk; simp [Value.ownBlock] at hk
  · intro k hk
    simp [Value.ownBlock] at hk
    subst hk
    exact ⟨hb, (Array.getElem?_eq_some_iff.1 hg).1⟩
theorem chg_grown {w w' : World} {g : Nat} (h : w.grownBy w' (some g)) : Chg [g] w w' := ⟨h.os, h.tape, h.output, h.size, fun k hk hn => h.block k hk (fun e => hn (by injection e with e; simp [e]))⟩
/-- laws.markIntS, at any row of one's own -/
theorem mkI_any (N k base : Nat) (hN : N ≤ 2097152) (hk : k ≤ 1073741824) (v : Value) (xs : List Value) (w : World) (h : w.ownsRow base 3 1 v N xs) :
    Calls Try.prog 18 #[v, .int .i64 k] w fun e w' => e = .returned (.int .i64 ((k + N : Nat) : Int)) ∧ Chg v.ownBlock.toList w w' := by
  rcases h.2 with ⟨rfl, hx⟩ | ⟨g, cap, cur, rfl, hb, hg, hr⟩
  · subst hx
    refine (intl.marks_none k 0 none w).mono ?_
    rintro e w' ⟨rfl, rfl⟩
    exact ⟨rfl, Chg.refl _ _⟩
  · refine (intl.marks_any N k cap g hN hk xs w base h).mono ?_
    rintro e w' ⟨rfl, _, hgr⟩
    exact ⟨rfl, chg_grown hgr⟩
/-- laws.heldTerm -/
theorem heldTerm_any {n : Nat} (op : Int) (l : List UInt8) (s : Int) (L : List TermM) (v : Value) (w : World) {lo k : Nat} (h : HasTs n lo w v (mkL tx L k)) (hk : k + 3 * sizes L ≤ 1073741824) :
    Calls Try.prog 19 #[.agg #[.int .i64 op, .string (bstr l), .int .i64 s, v], .int .i64 k] w fun e w' => e = .returned (.int .i64 ((k + 3 * sizes L : Nat) : Int)) ∧ Below w.heap.size w w' := by
  have HM := Lib.hid (fun W (hW : Below w.heap.size w W) => heldTermS_any n L v W lo k (h.below (Nat.le_refl _) hW) hk)
  obtain ⟨A, c, rfl, _⟩ := HasR.shape h rfl
  obtain ⟨q, hq⟩ : ∃ q, q = (mkL tx L k).length := ⟨_, rfl⟩
  obtain ⟨r, hr⟩ : ∃ q, q = k + 3 * sizes L := ⟨_, rfl⟩
  rw [← hq] at HM ⊢
  rw [← hr] at HM ⊢
  have hrk := hr
  clear h hq hrk hr
  go_enter Try.func19, Try.ntmps19
  go_wp2_with fail
  refine (HM.out _ ((Below.refl _ _).alloc (Nat.le_refl _) _)).mono ?_
  rintro e w1 ⟨rfl, h1⟩
  have H1 := Lib.hid (((Below.refl _ _).alloc (Nat.le_refl _) _).trans (h1.mono (by simp)))
  clear h1
  have n2 : ¬ (r : Int) < 0 := by omega
  have n1 : decide ((r : Int) < 0) = false := decide_eq_false (by omega)
  go_wp2
  go_ret
  exact ⟨rfl, H1.out⟩
set_option maxHeartbeats 8000000 in
set_option maxRecDepth 100000 in
theorem go {n : Nat} (t : TermM) (va : Value) (p : List Int) (vp : Value) (w : World) (ht : HasTs n 0 w va t.args) (hB : Bnd t) (hp : Has w vp (ivs p)) :
    Calls Try.prog 4 #[aggT t va, vp] w fun e w' => e = .returned (.bool true) ∧ Below w.heap.size w w' := by
  have HSZ := Lib.hid (fun W (hW : Below w.heap.size w W) r (h0 : 0 ≤ r) (h1 : r ≤ 1048576) => szTerm_any t.op t.name t.sort t.args va W hB.1 (ht.below (Nat.le_refl _) hW) r h0 h1)
  have HTT := Lib.hid (fun W (hW : Below w.heap.size w W) (hs : sizes t.args ≤ 1048576) => toTerm_any t.op t.name t.sort t.args hs va W (ht.below (Nat.le_refl _) hW))
  have HTI := Lib.hid (fun W (hW : Below w.heap.size w W) (hN : p.length ≤ 1048576) => intl.to_any p hN vp W (hp.below (Nat.le_refl _) hW))
  have HSP := Lib.hid (fun v1 v2 W lo (h1 : HasTs (n + 1) lo W v1 t.args) (h2 : Has W v2 (ivs p)) (hN : p.length ≤ 1048576) (hs : sizes t.args ≤ 1048576) => sSub_any t v1 p v2 W h1 hB h2 hN hs)
  have HIM := Lib.hid (fun v1 v2 W lo (h1 : HasTs (n + 1) lo W v1 t.args) (h2 : Has W v2 (ivs p)) (hN : p.length ≤ 1048576) (hs : sizes t.args ≤ 1048576) => iSub_any t v1 p v2 W h1 hB h2 hN hs)
  have HTZ := Lib.hid (fun hs : sizes t.args ≤ 1048576 => subT_size (p := p) hs)
  obtain ⟨T, hT⟩ : ∃ T, T = subT t p := ⟨_, rfl⟩
  obtain ⟨z, hz⟩ : ∃ z, z = subOk t p := ⟨_, rfl⟩
  rw [← hT] at HSP HIM HTZ
  rw [← hz] at HSP HIM
  have HEX := Lib.hid (fun v1 v2 W l l' (h1 : HasTs (n + 1) l W v1 t.args) (h2 : HasTs (n + 1) l' W v2 t.args) => eqTerm_any t.op t.name t.sort t.args v1 v2 W h1 h2)
  have HEB := Lib.hid (fun v1 v2 W n1 n2 l l' (h1 : HasTs n1 l W v1 T.args) (h2 : HasTs n2 l' W v2 T.args) => eqTerm_any T.op T.name T.sort T.args v1 v2 W h1 h2)
  have HEI := Lib.hid (fun v1 v2 W (h1 : Has W v1 (ivs p)) (h2 : Has W v2 (ivs p)) => intl.eq_same p v1 v2 W h1 h2)
  have HMX := Lib.hid (fun v S W lo (hO : OT 40 (n + 1) lo W v t.args S) (hs : sizes t.args ≤ 1048576) => markTerm_any (k := 1) t.op t.name t.sort t.args v S W hO (by omega))
  have HMI := Lib.hid (fun (v : Value) (W : World) (base : Nat) (xs : List Value) (h : W.ownsRow base 3 1 v p.length xs) (hN : p.length ≤ 1048576) k (hk : k ≤ 1073741824) => mkI_any p.length k base (by omega) hk v xs W h)
  have HMT := Lib.hid (fun v S W lo n1 (hO : OT 40 n1 lo W v T.args S) (hs : sizes T.args ≤ 1048576) => markTerm_any (k := 1) T.op T.name T.sort T.args v S W hO (by omega))
  have HHT := Lib.hid (fun v W lo n1 (hO : HasTs n1 lo W v (mkL tx T.args 1)) (hs : sizes T.args ≤ 1048576) => heldTerm_any (k := 1) T.op T.name T.sort T.args v W hO (by omega))
  have HOS : Hid (∀ {W lo v S}, OT 40 (n + 1) lo W v t.args S → ∃ A c, v = .slice A t.args.length c) := Lib.hid (fun h => OT.shape h)
  have HTS : Hid (∀ {W n1 lo v}, HasTs n1 lo W v T.args → ∃ A c, v = .slice A T.args.length c) := Lib.hid (fun h => by
    obtain ⟨A, c, e, _⟩ := HasR.shape h rfl
    exact ⟨A, c, e⟩)
  have HIS : Hid (∀ {W : World} {base : Nat} {u : Value} {xs : List Value}, W.ownsRow base 3 1 u p.length xs → ∃ A c, u = .slice A p.length c) := Lib.hid (fun h => by
    obtain ⟨A, c, e, _⟩ := own_slice h
    exact ⟨A, c, e⟩)
  obtain ⟨A, c, rfl, _⟩ := HasR.shape ht rfl
  obtain ⟨Pp, cp, rfl, hp'⟩ := hp.shape (ivs_len p)
  have hNl := hp'.len.2
  unfold aggT at HSP HIM ⊢
  obtain ⟨to, hto⟩ : ∃ q, q = t.op := ⟨_, rfl⟩
  obtain ⟨tn, htn⟩ : ∃ q, q = t.name := ⟨_, rfl⟩
  obtain ⟨ts, hts⟩ : ∃ q, q = t.sort := ⟨_, rfl⟩
  obtain ⟨tl, htl⟩ : ∃ q, q = t.args.length := ⟨_, rfl⟩
  obtain ⟨tx1, htx⟩ : ∃ q, q = 1 + 3 * sizes t.args := ⟨_, rfl⟩
  obtain ⟨st, hst⟩ : ∃ q, q = sizes t.args := ⟨_, rfl⟩
  obtain ⟨Tq, hTq⟩ : ∃ q, q = T.op := ⟨_, rfl⟩
  obtain ⟨Tn, hTn⟩ : ∃ q, q = T.name := ⟨_, rfl⟩
  obtain ⟨Ts, hTs⟩ : ∃ q, q = T.sort := ⟨_, rfl⟩
  obtain ⟨Tl, hTl⟩ : ∃ q, q = T.args.length := ⟨_, rfl⟩
  obtain ⟨tz, htz⟩ : ∃ q, q = 1 + 3 * sizes T.args := ⟨_, rfl⟩
  obtain ⟨N, hN⟩ : ∃ q, q = p.length := ⟨_, rfl⟩
  have HTX : Hid (st ≤ 1048576 → tx1 ≤ 16777216) := Lib.hid (fun h => by omega)
  rw [← hto, ← htn, ← hts] at HSZ HTT HSP HIM HEX HMX ⊢
  rw [← htl] at HSZ HTT HOS ⊢
  rw [← htx] at HMX
  rw [← hst] at HSZ HTT HSP HIM HTZ HMX
  rw [← hTq, ← hTn, ← hTs] at HSP HIM HEB HMT HHT
  rw [← hTl] at HTS
  rw [← htz] at HMT HHT
  rw [← hN] at HTI HSP HIM HMI HIS hNl ⊢
  clear ht hB hp hp' hT hz hto htn hts htl htx hst hTq hTn hTs hTl htz hN
  obtain ⟨W, hW⟩ : ∃ W, W = w.alloc (.cells #[.int .i64 to, .string (bstr tn), .int .i64 ts, .slice A tl c] 37) := ⟨_, rfl⟩
  have hb0 : Below w.heap.size w W := by rw [hW]; exact (Below.refl _ _).alloc (Nat.le_refl _) _
  have hx0 : W.heap[w.heap.size]? = some (.cells #[.int .i64 to, .string (bstr tn), .int .i64 ts, .slice A tl c] 37 (0, 0)) := by rw [hW]; exact heap_at _ _ _ rfl
  have FC : Hid (∀ X, Below W.heap.size W X → Below w.heap.size w X ∧ Four w.heap.size (.int .i64 to) (.string (bstr tn)) (.int .i64 ts) (.slice A tl c) X) := Lib.hid (fun X hX => ⟨hb0.trans (hX.mono hb0.size), Four.below (four4 hx0) hX⟩)
  have HK0 := Lib.hid (Below.refl W.heap.size W)
  obtain ⟨_, x0, x1, x2, x3⟩ := FC.out W HK0.out
  clear hb0 hx0
  by_cases hN : N ≤ 1048576
  rotate_left
  · have hgt : decide ((N : Int) > 1048576) = true := decide_eq_true (by omega)
    have hgt2 : (1048576 : Int) < (N : Int) := by omega
    go_enter Try.func4, Try.ntmps4
    go_wp2
    rw [← hW]
    go_ret
    exact ⟨rfl, (FC.out W HK0.out).1⟩
  have hgt : decide ((N : Int) > 1048576) = false := decide_eq_false (by omega)
  have hgt2 : ¬ (1048576 : Int) < (N : Int) := by omega
  have HN := Lib.hid hN
  go_enter Try.func4, Try.ntmps4
  go_wp2_with fail
  rw [← hW]
  clear hW x0 x1 x2 x3 hgt hgt2
  refine (HSZ.out _ (FC.out W HK0.out).1 1048576 (by omega) (by omega)).mono ?_
  rintro e w1 ⟨r, rfl, hr, hr1, hr2, hb1⟩
  have HK1 : Hid (Below W.heap.size W w1) := Lib.hid hb1
  have HR := Lib.hid hr
  clear hb1 hr HSZ
  by_cases hneg : r < 0
  · go_wp2
    go_ret
    exact ⟨rfl, (FC.out w1 HK1.out).1⟩
  have HSM := Lib.hid (show st ≤ 1048576 by have := HR.out (by omega); omega)
  obtain ⟨_, x0, x1, x2, x3⟩ := FC.out w1 HK1.out
  clear HR hr1 hr2
  go_wp2_with fail
  refine (HTT.out w1 (FC.out w1 HK1.out).1 HSM.out).mono ?_
  rintro e w2 ⟨v2, S2, rfl, ho2, hb2⟩
  obtain ⟨D2, d2, rfl⟩ := HOS.out ho2
  have HK2 := Lib.hid (HK1.out.trans (hb2.mono HK1.out.size))
  have HO2 := Lib.hid ho2.has
  clear ho2 hb2 x0 x1 x2 x3 HK1
  go_wp2_with fail
  refine (HTI.out w2 (FC.out w2 HK2.out).1 HN.out).mono ?_
  rintro e w3 ⟨u3, rfl, hu3, hb3⟩
  obtain ⟨D3, d3, rfl⟩ := HIS.out hu3
  have HK3 := Lib.hid (HK2.out.trans (hb3.mono HK2.out.size))
  have HO23 := Lib.hid (HO2.out.below (Nat.le_refl _) hb3)
  have HU3 := Lib.hid (Has.of_own hu3)
  clear hu3 hb3 HK2 HO2
  go_wp2_with fail
  refine (HSP.out _ _ w3 _ HO23.out HU3.out HN.out HSM.out).mono ?_
  rintro e w4 ⟨v4, rfl, h4, hb4⟩
  obtain ⟨F, f, rfl⟩ := HTS.out h4
  have hK4 := HK3.out.trans (hb4.mono HK3.out.size)
  have HK4 := Lib.hid hK4
  have H4 := Lib.hid h4
  have hxx := fun ob => (FC.out (w4.alloc ob) (hK4.alloc hK4.size ob)).2
  have x0 := fun ob => (hxx ob).1
  have x1 := fun ob => (hxx ob).2.1
  have x2 := fun ob => (hxx ob).2.2.1
  have x3 := fun ob => (hxx ob).2.2.2
  clear h4 hb4 hK4 hxx HK3 HO23 HU3 HSP
  go_wp2_with fail
  clear x0 x1 x2 x3
  obtain ⟨W5, hW5⟩ : ∃ X, X = w4.alloc (.cells #[.int .i64 Tq, .string (bstr Tn), .int .i64 Ts, .slice F Tl f] 40) := ⟨_, rfl⟩
  have hb5 : Below w4.heap.size w4 W5 := by rw [hW5]; exact (Below.refl _ _).alloc (Nat.le_refl _) _
  have HY5 := Lib.hid (show W5.heap[w4.heap.size]? = some (.cells #[.int .i64 Tq, .string (bstr Tn), .int .i64 Ts, .slice F Tl f] 40 (0, 0)) by rw [hW5]; exact heap_at _ _ _ rfl)
  have HK5 := Lib.hid (HK4.out.trans (hb5.mono HK4.out.size))
  have H5 := Lib.hid (H4.out.below (Nat.le_refl _) hb5)
  rw [← hW5]
  clear hW5 hb5 H4 HK4
  -- what stays as long as nothing below W5's size changes
  have F5 : Hid (∀ X, Below W5.heap.size W5 X → Below w.heap.size w X ∧ Four w.heap.size (.int .i64 to) (.string (bstr tn)) (.int .i64 ts) (.slice A tl c) X ∧ Four w4.heap.size (.int .i64 Tq) (.string (bstr Tn)) (.int .i64 Ts) (.slice F Tl f) X ∧ HasTs (n + 1) w3.heap.size X (.slice F Tl f) T.args) := Lib.hid (fun X hX => by
    have h := FC.out X (HK5.out.trans (hX.mono HK5.out.size))
    exact ⟨h.1, h.2, Four.below (four4 HY5.out) hX, H5.out.below (Nat.le_refl _) hX⟩)
  have hy5 := (Array.getElem?_eq_some_iff.1 HY5.out).1
  clear H5 HY5 FC HK0
  refine (HTT.out W5 (F5.out W5 (Below.refl _ _)).1 HSM.out).mono ?_
  rintro e w6 ⟨v6, S6, rfl, ho6, hb6⟩
  obtain ⟨G, g, rfl⟩ := HOS.out ho6
  have HB6 : Hid (Below W5.heap.size W5 w6) := Lib.hid hb6
  have HO6 := Lib.hid ho6
  have HS6 : Hid (∀ k ∈ S6, W5.heap.size ≤ k ∧ k < w6.heap.size) := Lib.hid (fun k hk => ho6.lt k hk)
  have hz6 := hb6.size
  clear ho6 hb6
  go_wp2_with fail
  obtain ⟨W7, hW7⟩ : ∃ X, X = w6.alloc (.cells #[.int .i64 to, .string (bstr tn), .int .i64 ts, .slice G tl g] 40) := ⟨_, rfl⟩
  have hb7 : Below w6.heap.size w6 W7 := by rw [hW7]; exact (Below.refl _ _).alloc (Nat.le_refl _) _
  have hy7 : W7.heap[w6.heap.size]? = some (.cells #[.int .i64 to, .string (bstr tn), .int .i64 ts, .slice G tl g] 40 (0, 0)) := by rw [hW7]; exact heap_at _ _ _ rfl
  have HB7 := Lib.hid (HB6.out.trans (hb7.mono hz6))
  have HO7 := Lib.hid (HO6.out.below hb7)
  have HX7 : Hid (Four w6.heap.size (.int .i64 to) (.string (bstr tn)) (.int .i64 ts) (.slice G tl g) W7 ) := Lib.hid (four4 hy7)
  have hz7 : w6.heap.size < W7.heap.size := (Array.getElem?_eq_some_iff.1 hy7).1
  rw [← hW7]
  clear hW7 hb7 hy7 HB6 HO6
  refine (HTI.out W7 (F5.out W7 HB7.out).1 HN.out).mono ?_
  rintro e w8 ⟨u8, rfl, hu8, hb8⟩
  obtain ⟨E8, e8, rfl⟩ := HIS.out hu8
  have HB8 := Lib.hid (HB7.out.trans (hb8.mono HB7.out.size))
  have HO8 := Lib.hid (HO7.out.below hb8)
  have HU8 := Lib.hid hu8
  have HS8 := Lib.hid (own_lt hu8)
  have HX8 : Hid (Four w6.heap.size (.int .i64 to) (.string (bstr tn)) (.int .i64 ts) (.slice G tl g) w8 ) := Lib.hid (Four.below HX7.out hb8)
  have hz8 := hb8.size
  obtain ⟨x0, x1, x2, x3⟩ := HX8.out
  clear hu8 hb8 HB7 HO7 HX7
  go_wp2_with fail
  clear x0 x1 x2 x3
  refine (HIM.out _ _ w8 _ HO8.out.has (Has.of_own HU8.out) HN.out HSM.out).mono ?_
  rintro e w9 ⟨v9, S9, rfl, ho9, hb9⟩
  obtain ⟨H, h, rfl⟩ := HTS.out ho9.has
  have HB9 := Lib.hid (HB8.out.trans (hb9.mono HB8.out.size))
  have HO9 := Lib.hid (HO8.out.below hb9)
  have HU9 := Lib.hid (own_below HU8.out hb9)
  have HX9 : Hid (Four w6.heap.size (.int .i64 to) (.string (bstr tn)) (.int .i64 ts) (.slice G tl g) w9 ) := Lib.hid (Four.below HX8.out hb9)
  have HG9 := Lib.hid ho9
  have HS9 : Hid (∀ k ∈ S9, w8.heap.size ≤ k ∧ k < w9.heap.size) := Lib.hid (fun k hk => ho9.lt k hk)
  have hz9 := hb9.size
  have hyy := fun ob => (F5.out (w9.alloc ob) (HB9.out.alloc HB9.out.size ob)).2.2.1
  have y0 := fun ob => (hyy ob).1
  have y1 := fun ob => (hyy ob).2.1
  have y2 := fun ob => (hyy ob).2.2.1
  have y3 := fun ob => (hyy ob).2.2.2
  have hne : w4.heap.size ≠ w9.heap.size := by omega
  clear ho9 hb9 HB8 HO8 HU8 HX8 hyy
  go_wp2_with fail
  clear y0 y1 y2 y3 hne
  obtain ⟨V, hV⟩ : ∃ X, X = w9.alloc (.cells #[.int .i64 Tq, .string (bstr Tn), .int .i64 Ts, .slice H Tl h] 40) := ⟨_, rfl⟩
  have hbV : Below w9.heap.size w9 V := by rw [hV]; exact (Below.refl _ _).alloc (Nat.le_refl _) _
  have hyV : V.heap[w9.heap.size]? = some (.cells #[.int .i64 Tq, .string (bstr Tn), .int .i64 Ts, .slice H Tl h] 40 (0, 0)) := by rw [hV]; exact heap_at _ _ _ rfl
  have hzV : V.heap.size = w9.heap.size + 1 := by rw [hV]; simp
  rw [← hV]
  have HBV := Lib.hid (HB9.out.trans (hbV.mono HB9.out.size))
  have HYV := Lib.hid hyV
  have GC : Hid (∀ X, Below V.heap.size V X → Below W5.heap.size W5 X ∧ Four w6.heap.size (.int .i64 to) (.string (bstr tn)) (.int .i64 ts) (.slice G tl g) X ∧ Four w9.heap.size (.int .i64 Tq) (.string (bstr Tn)) (.int .i64 Ts) (.slice H Tl h) X ∧ OT 40 (n + 1) W5.heap.size X (.slice G tl g) t.args S6 ∧ X.ownsRow W7.heap.size 3 1 (.slice E8 N e8) N (ivs p) ∧ OT 40 (depth T) w8.heap.size X (.slice H Tl h) T.args S9) := Lib.hid (fun X hX => by
    have h9 := hbV.trans (hX.mono hbV.size)
    exact ⟨HBV.out.trans (hX.mono HBV.out.size), Four.below HX9.out h9, Four.below (four4 hyV) hX, HO9.out.below h9, own_below HU9.out h9, HG9.out.below h9⟩)
  have HV0 := Lib.hid (Below.refl V.heap.size V)
  have nz : (z != z) = false := by simp
  clear hV hbV hyV HO9 HU9 HX9 HG9 HB9
  refine (HEB.out _ _ V _ _ _ _ (GC.out V HV0.out).2.2.2.2.2.has (F5.out V HBV.out).2.2.2).mono ?_
  rintro e w10 ⟨rfl, hb10⟩
  have HV10 : Hid (Below V.heap.size V w10) := Lib.hid hb10
  have GS : ∀ X, Below V.heap.size V X → (fun X => Four w6.heap.size (.int .i64 to) (.string (bstr tn)) (.int .i64 ts) (.slice G tl g) X ∧ Four w.heap.size (.int .i64 to) (.string (bstr tn)) (.int .i64 ts) (.slice A tl c) X) X := fun X hX => ⟨(GC.out X hX).2.1, (F5.out X (GC.out X hX).1).2.1⟩
  clear hb10 HV0
  go_wp2_with fail
  refine wp_region_noPanic ?_
  refine wp_region_held_drew (S := (fun X => Four w6.heap.size (.int .i64 to) (.string (bstr tn)) (.int .i64 ts) (.slice G tl g) X ∧ Four w.heap.size (.int .i64 to) (.string (bstr tn)) (.int .i64 ts) (.slice A tl c) X)) (by kernel_rfl) ?_ (fun hHd0 => ?_)
  · exact GS _ HV10.out.drew
  refine wpAnyH_take (i := 0) (v := ?_) rfl (by kernel_rfl) (by kernel_rfl) (by kernel_rfl) (fun _ _ _ h => h) (Or.inl ⟨by rfl, ?_⟩) (by with_reducible assumption) ?_
  rotate_left
  · intro w hSw; (try dsimp only at hSw); go_simp <;> with_reducible rfl
  (try simp only [Act.put]); (try simp only [List.setIfInBounds_toArray]); (try simp only [List.set_cons_succ, List.set_cons_zero])
  refine wpAnyH_take (i := 1) (v := ?_) rfl (by kernel_rfl) (by kernel_rfl) (by kernel_rfl) (fun _ _ _ h => h) (Or.inl ⟨by rfl, ?_⟩) (by with_reducible assumption) ?_
  rotate_left
  · intro w hSw; (try dsimp only at hSw); go_simp <;> with_reducible rfl
  (try simp only [Act.put]); (try simp only [List.setIfInBounds_toArray]); (try simp only [List.set_cons_succ, List.set_cons_zero])
  refine wpAnyH_ready (rs := [2]) (by kernel_rfl) (by simp) ?_
  refine AllReadyH.cons (o := _) rfl (fun K hK => ?_) ?_
  · (go_simp; refine (HTT.out w10.drew (F5.out _ (GC.out w10.drew HV10.out.drew).1).1 HSM.out).mono ?_; rintro e w11 ⟨v11, S11, rfl, ho11, hb11⟩; obtain ⟨J, j, rfl⟩ := HOS.out ho11; have hV11 : Below V.heap.size V w11 := HV10.out.drew.trans (hb11.mono HV10.out.drew.size); have hX11 := (show (fun X => Four w6.heap.size (.int .i64 to) (.string (bstr tn)) (.int .i64 ts) (.slice G tl g) X ∧ Four w.heap.size (.int .i64 to) (.string (bstr tn)) (.int .i64 ts) (.slice A tl c) X) w11 from GS w11 hV11); (try dsimp only))
    refine hK.out _ _ ?_ (fun hHd1 => ?_)
    · (try dsimp only); first | (with_reducible assumption) | (exact hX11) | (exact hX12)
    clear hK K hHd0
    (try simp only [Act.put]); (try simp only [List.setIfInBounds_toArray]); (try simp only [List.set_cons_succ, List.set_cons_zero])
    refine wpAnyH_ready (rs := [3]) (by kernel_rfl) (by simp) ?_
    refine AllReadyH.cons (o := _) rfl (fun K hK => ?_) ?_
    · (go_simp; refine (HEX.out _ _ w11 _ _ (GC.out w11 hV11).2.2.2.1.has ho11.has).mono ?_; rintro e w12 ⟨rfl, hb12⟩; have hV12 : Below V.heap.size V w12 := hV11.trans (hb12.mono hV11.size); have hX12 := (show (fun X => Four w6.heap.size (.int .i64 to) (.string (bstr tn)) (.int .i64 ts) (.slice G tl g) X ∧ Four w.heap.size (.int .i64 to) (.string (bstr tn)) (.int .i64 ts) (.slice A tl c) X) w12 from GS w12 hV12); (try dsimp only))
      refine hK.out _ _ ?_ (fun hHd2 => ?_)
      · (try dsimp only); first | (with_reducible assumption) | (exact hX11) | (exact hX12)
      clear hK K hHd1
      (try simp only [Act.put]); (try simp only [List.setIfInBounds_toArray]); (try simp only [List.set_cons_succ, List.set_cons_zero])
      refine wpAnyH_ready (rs := [4]) (by kernel_rfl) (by simp) ?_
      refine AllReadyH.cons (o := _) rfl (fun K hK => ?_) ?_
      · go_simp
        refine hK.out _ _ ?_ (fun hHd3 => ?_)
        · (try dsimp only); first | (with_reducible assumption) | (exact hX11) | (exact hX12)
        clear hK K hHd2
        (try simp only [Act.put]); (try simp only [List.setIfInBounds_toArray]); (try simp only [List.set_cons_succ, List.set_cons_zero])
        refine wpAnyH_done (by kernel_rfl) ?_ _
        refine NoPanic.normal ?_
        have HV12 := Lib.hid hV12
        clear hX11 hX12 hb11 hb12 hV11 hV12 ho11 GS
        go_wp2_with fail
        refine (HTI.out w12 (F5.out _ (GC.out w12 HV12.out).1).1 HN.out).mono ?_
        rintro e w13 ⟨u13, rfl, hu13, hb13⟩
        obtain ⟨K1, k1, rfl⟩ := HIS.out hu13
        have HV13 : Hid (Below V.heap.size V w13) := Lib.hid (HV12.out.trans (hb13.mono HV12.out.size))
        have HU13 := Lib.hid (Has.of_own hu13)
        clear hu13 hb13 HV12
        go_wp2_with fail
        refine (HEI.out _ _ w13 (Has.of_own (GC.out w13 HV13.out).2.2.2.2.1) HU13.out).mono ?_
        rintro e w14 ⟨rfl, hb14⟩
        have HV14 : Hid (Below V.heap.size V w14) := Lib.hid (HV13.out.trans (hb14.mono HV13.out.size))
        obtain ⟨x0, x1, x2, x3⟩ := (GC.out w14 HV14.out).2.1
        clear hb14 HU13 HV13
        -- marks in the arguments
        go_wp2_with fail
        clear x0 x1 x2 x3
        refine (HMX.out _ S6 w14 _ (GC.out w14 HV14.out).2.2.2.1 HSM.out).mono ?_
        rintro e w15 ⟨rfl, _, hc15⟩
        have hz14 := HV14.out.size
        have hz15 := hc15.size
        have HU15 := Lib.hid ((hc15.own (GC.out w14 HV14.out).2.2.2.2.1 (fun q hq hm => by have h1 := HS8.out q (by rw [hq]; simp); have h2 := HS6.out q hm; omega)))
        have HC15 := Lib.hid hc15
        clear hc15
        go_wp2_with fail
        refine (HMI.out _ w15 _ _ HU15.out HN.out tx1 (by have := HTX.out HSM.out; omega)).mono ?_
        rintro e w16 ⟨rfl, hc16⟩
        have hz16 := hc16.size
        have hB16 : Below W5.heap.size W5 w16 := (((GC.out w14 HV14.out).1).trans (HC15.out.below (by omega) (fun k hk => (HS6.out k hk).1))).trans (hc16.below (by omega) (fun k hk => by have := HS8.out k hk; omega))
        have hG16 : OT 40 (depth T) w8.heap.size w16 (.slice H Tl h) T.args S9 := ((GC.out w14 HV14.out).2.2.2.2.2.chg HC15.out (fun k hk hm => by have h1 := HS9.out k hk; have h2 := HS6.out k hm; omega)).chg hc16 (fun k hk hm => by have h1 := HS9.out k hk; have h2 := HS8.out k hm; omega)
        have hy14 := (HV14.out.block w9.heap.size (by omega)).trans HYV.out
        have hy16 : w16.heap[w9.heap.size]? = some (.cells #[.int .i64 Tq, .string (bstr Tn), .int .i64 Ts, .slice H Tl h] 40 (0, 0)) := (hc16.block _ (by omega) (fun hm => by have h2 := HS8.out _ hm; omega)).trans ((HC15.out.block _ (by omega) (fun hm => by have h2 := HS6.out _ hm; omega)).trans hy14)
        have HY16 := Lib.hid hy16
        have DC : Hid (∀ X, Below w16.heap.size w16 X → Below W5.heap.size W5 X ∧ Four w9.heap.size (.int .i64 Tq) (.string (bstr Tn)) (.int .i64 Ts) (.slice H Tl h) X ∧ OT 40 (depth T) w8.heap.size X (.slice H Tl h) T.args S9) := Lib.hid (fun X hX => ⟨hB16.trans (hX.mono hB16.size), Four.below (four4 hy16) hX, hG16.below hX⟩)
        have HD16 := Lib.hid (Below.refl w16.heap.size w16)
        have n16 : decide (((tx1 + N : Nat) : Int) < 0) = false := decide_eq_false (by omega)
        have n16' : ¬ ((tx1 + N : Nat) : Int) < 0 := by omega
        obtain ⟨x0, x1, x2, x3⟩ := (DC.out w16 HD16.out).2.1
        obtain ⟨y0, y1, y2, y3⟩ := (F5.out w16 (DC.out w16 HD16.out).1).2.2.1
        clear hc16 hB16 hG16 hy14 hy16 HU15 HC15 HV14 GC HBV HYV HS6 HS8
        go_wp2_with fail
        clear x0 x1 x2 x3 y0 y1 y2 y3
        refine (HEB.out _ _ w16 _ _ _ _ (DC.out w16 HD16.out).2.2.has (F5.out w16 (DC.out w16 HD16.out).1).2.2.2).mono ?_
        rintro e w17 ⟨rfl, hb17⟩
        have HD17 : Hid (Below w16.heap.size w16 w17) := Lib.hid hb17
        obtain ⟨x0, x1, x2, x3⟩ := (DC.out w17 HD17.out).2.1
        clear hb17 HD16
        -- marks in the answer
        go_wp2_with fail
        clear x0 x1 x2 x3
        refine (HMT.out _ S9 w17 _ _ (DC.out w17 HD17.out).2.2 (HTZ.out HSM.out)).mono ?_
        rintro e w18 ⟨rfl, ho18, hc18⟩
        have hz17 := HD17.out.size
        have hz18 := hc18.size
        have hB18 : Below W5.heap.size W5 w18 := ((DC.out w17 HD17.out).1).trans (hc18.below (by omega) (fun k hk => by have := HS9.out k hk; omega))
        have hy18 : w18.heap[w9.heap.size]? = some (.cells #[.int .i64 Tq, .string (bstr Tn), .int .i64 Ts, .slice H Tl h] 40 (0, 0)) := (hc18.block _ (by omega) (fun hm => by have h2 := HS9.out _ hm; omega)).trans ((HD17.out.block _ (by omega)).trans HY16.out)
        have EC : Hid (∀ X, Below w18.heap.size w18 X → Below W5.heap.size W5 X ∧ Four w9.heap.size (.int .i64 Tq) (.string (bstr Tn)) (.int .i64 Ts) (.slice H Tl h) X ∧ HasTs (depth T) w8.heap.size X (.slice H Tl h) (mkL tx T.args 1)) := Lib.hid (fun X hX => ⟨hB18.trans (hX.mono hB18.size), Four.below (four4 hy18) hX, ho18.has.below (Nat.le_refl _) hX⟩)
        have HE18 := Lib.hid (Below.refl w18.heap.size w18)
        have m20 : ((tz : Int) != (tz : Int)) = false := by simp
        have m20' : (tz != tz) = false := by simp
        have n20 : decide ((tz : Int) < 0) = false := decide_eq_false (by omega)
        have n20' : ¬ (tz : Int) < 0 := by omega
        obtain ⟨x0, x1, x2, x3⟩ := (EC.out w18 HE18.out).2.1
        clear ho18 hc18 hB18 hy18 HD17 DC HY16 HS9 n16 n16'
        go_wp2_with fail
        clear x0 x1 x2 x3
        refine (HHT.out _ w18 _ _ (EC.out w18 HE18.out).2.2 (HTZ.out HSM.out)).mono ?_
        rintro e w19 ⟨rfl, hb19⟩
        have HE19 : Hid (Below w18.heap.size w18 w19) := Lib.hid hb19
        obtain ⟨x0, x1, x2, x3⟩ := (F5.out w19 (EC.out w19 HE19.out).1).2.1
        clear hb19 HE18
        -- once more
        go_wp2_with fail
        clear x0 x1 x2 x3
        refine (HTT.out w19 (F5.out w19 (EC.out w19 HE19.out).1).1 HSM.out).mono ?_
        rintro e w20 ⟨v20, S20, rfl, ho20, hb20⟩
        obtain ⟨J, j, rfl⟩ := HOS.out ho20
        have HE20 : Hid (Below w18.heap.size w18 w20) := Lib.hid (HE19.out.trans (hb20.mono HE19.out.size))
        have HO20 := Lib.hid ho20.has
        clear ho20 hb20 HE19
        go_wp2_with fail
        refine (HTI.out w20 (F5.out w20 (EC.out w20 HE20.out).1).1 HN.out).mono ?_
        rintro e w21 ⟨u21, rfl, hu21, hb21⟩
        obtain ⟨K2, k2, rfl⟩ := HIS.out hu21
        have HE21 : Hid (Below w18.heap.size w18 w21) := Lib.hid (HE20.out.trans (hb21.mono HE20.out.size))
        have HO21 := Lib.hid (HO20.out.below (Nat.le_refl _) hb21)
        have HU21 := Lib.hid (Has.of_own hu21)
        clear hu21 hb21 HE20 HO20
        go_wp2_with fail
        refine (HIM.out _ _ w21 _ HO21.out HU21.out HN.out HSM.out).mono ?_
        rintro e w22 ⟨v22, S22, rfl, ho22, hb22⟩
        obtain ⟨Q, q, rfl⟩ := HTS.out ho22.has
        have hE22 := HE21.out.trans (hb22.mono HE21.out.size)
        have HE22 := Lib.hid hE22
        have HO22 := Lib.hid ho22
        have hyy := fun ob => (F5.out _ (EC.out (w22.alloc ob) (hE22.alloc hE22.size ob)).1).2.2.1
        have y0 := fun ob => (hyy ob).1
        have y1 := fun ob => (hyy ob).2.1
        have y2 := fun ob => (hyy ob).2.2.1
        have y3 := fun ob => (hyy ob).2.2.2
        have hz22 := hE22.size
        have hne : w4.heap.size ≠ w22.heap.size := by omega
        have HE23 : Hid (∀ ob, Below w18.heap.size w18 (w22.alloc ob) ∧ OT 40 (depth T) w21.heap.size (w22.alloc ob) (.slice Q Tl q) T.args S22) := Lib.hid (fun ob => ⟨HE22.out.alloc HE22.out.size ob, HO22.out.below ((Below.refl _ _).alloc (Nat.le_refl _) ob)⟩)
        clear ho22 hb22 hE22 hyy HE21 HO21 HU21
        go_wp2_with fail
        clear y0 y1 y2 y3 hne
        refine (HEB.out _ _ _ _ _ _ _ (HE23.out _).2.has (F5.out _ (EC.out _ (HE23.out _).1).1).2.2.2).mono ?_
        rintro e w24 ⟨rfl, hb24⟩
        have HE24 : Hid (Below w18.heap.size w18 w24) := Lib.hid ((HE23.out _).1.trans (hb24.mono (HE23.out _).1.size))
        obtain ⟨x0, x1, x2, x3⟩ := (EC.out w24 HE24.out).2.1
        clear hb24 HE23 HE22 HO22
        go_wp2_with fail
        clear x0 x1 x2 x3
        refine (HHT.out _ w24 _ _ (EC.out w24 HE24.out).2.2 (HTZ.out HSM.out)).mono ?_
        rintro e w25 ⟨rfl, hb25⟩
        have HF : Hid (Below w.heap.size w w25) := Lib.hid (F5.out w25 (EC.out w25 (HE24.out.trans (hb25.mono HE24.out.size))).1).1
        clear hb25
        go_wp2
        go_ret
        exact ⟨rfl, HF.out⟩
      exact AllReadyH.nil
    exact AllReadyH.nil
  exact AllReadyH.nil
set_option maxRecDepth 100000 in
theorem walk {H : Type} {enc : TypeId × Value → H} {W : World} {base base' : Nat} {v v' : Value} {d d' : DataW H} {p p' : List MemPlace}
    (hval : Value.okWide Try.prog W .any base 37 v) (hd : DataW.Trod enc Try.prog W 0 (fun _ => true) true 37 v d p) (_hlt : ∀ x ∈ p, x.block < W.heap.size)
    (hval' : Value.okWide Try.prog W .any base' 22 v') (hd' : DataW.Trod enc Try.prog W 0 (fun _ => true) true 22 v' d' p') (_hlt' : ∀ x ∈ p', x.block < W.heap.size) :
    Calls Try.prog 4 #[v, v'] W fun e w' => e = .returned (.bool true) ∧ Below W.heap.size W w' := by
  obtain ⟨n, t, va, rfl, h, hB⟩ := termop.has_term hval hd
  obtain ⟨L, hL, _⟩ := intl.has_ints hval' hd'
  exact go t va L v' W h hB hL
end Go.Proofs.Ytiilamngcoegiaa.fnExactSubtermAt
