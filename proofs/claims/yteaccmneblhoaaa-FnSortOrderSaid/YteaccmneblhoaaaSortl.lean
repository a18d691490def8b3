/-
  THE WALK OF FnSortOrder.
-/
import Derived.Test.YteaccmneblhoaaaSorte
import Derived.Test.YteaccmneblhoaaaSortq
import Derived.Test.YteaccmneblhoaaaLaw
namespace Go.Proofs.Yteaccmneblhoaaa.fnSortOrder
open Go.ChangeShapes Go.WideShapes Go.ChangeAt Go.RowKit
open mem split strl subs sortn setm sets sortm sortp sorti sortf sortu sorts sortg sortq draw sortd sorte

theorem keep_two {wr w0 w1 : World} {p q : Addr} {a b : Value} (h : (w0.cell? p = some a ∧ w0.cell? q = some b) ∧ Below wr.heap.size wr w0) (hp : p.block < wr.heap.size ∧ q.block < wr.heap.size) (hb : Below w0.heap.size w0 w1) :
    (w1.cell? p = some a ∧ w1.cell? q = some b) ∧ Below wr.heap.size wr w1 := by
  have hs := h.2.size
  exact ⟨⟨(hb.cell (by omega)).trans h.1.1, (hb.cell (by omega)).trans h.1.2⟩, h.2.trans (hb.mono hs)⟩
/-- s lies in its box as it was laid there -/
structure SBox (w1 : World) (va vb : Value) (w' : World) : Prop where
  a : w'.cell? ⟨w1.heap.size, 0, none⟩ = some va
  b : w'.cell? ⟨w1.heap.size, 1, none⟩ = some vb
  bel : Below (w1.alloc (.cells #[va, vb] 27)).heap.size (w1.alloc (.cells #[va, vb] 27)) w'
theorem SBox.keep {w1 w0 w' : World} {va vb : Value} (h : SBox w1 va vb w0) (hb : Below w0.heap.size w0 w') : SBox w1 va vb w' := by
  have hs := h.bel.size
  simp at hs
  exact ⟨(hb.cell (by show w1.heap.size < _; omega)).trans h.a, (hb.cell (by show w1.heap.size < _; omega)).trans h.b, h.bel.trans (hb.mono (by simp; omega))⟩
theorem SBox.drew {w1 w0 : World} {va vb : Value} (h : SBox w1 va vb w0) : SBox w1 va vb w0.drew := ⟨h.a, h.b, h.bel.drew⟩
/-- a world in which s lies so -/
structure BoxW (w1 : World) (va vb : Value) where
  W : World
  h : SBox w1 va vb W
theorem region_box {P : Program} {w1 : World} {va vb : Value} {id : Nat} {Q : Exit → Act → World → Prop} {a : Act} {w : World} {l : List Oper} (hm : P.follows .mixedOrders = true) (hB : Region.lexB .any l.toArray = true) (hC : SBox w1 va vb w)
    (h : wpQuiet P l.toArray (fun w' => ∃ t : BoxW w1 va vb, w' = t.W) (fun a' => ∀ w', (∃ t : BoxW w1 va vb, w' = t.W) → Q .normal a' w') l a) : (Code.region id l.toArray true).wp P Q a w :=
  wp_region_quiet (C := fun w' => ∃ t : BoxW w1 va vb, w' = t.W) hm hB ⟨⟨_, hC.drew⟩, rfl⟩ (by simpa using h)
/-- what is not a sort has nothing above, nothing below, no kind -/
theorem none_of {P : List (List UInt8)} {Q : List (Int × Int)} {x : Int} (h : okS P Q = false ∨ ¬ (0 ≤ x ∧ x < P.length)) : aboveI P Q x = 0 ∧ belowI P Q x = 0 ∧ kindI P Q x = -1 := by
  have hx : ¬ (0 ≤ x ∧ x < (ordU P Q).length) := by
    rw [ordU_len]
    cases hok : okS P Q with
    | false => first | (simp; done) | (simp; omega)
    | true => simp only [if_true]; rcases h with h | h
              · rw [hok] at h; cases h
              · exact h
  exact ⟨atU_out _ _ hx, by rw [belowI, belowX, if_neg hx], by rw [kindI, if_neg hx]⟩
/-- what a sort has -/
theorem some_of {P : List (List UInt8)} {Q : List (Int × Int)} (h : okS P Q = true) {k : Nat} (hk : k < P.length) :
    (aboveI P Q (k : Int)).testBit k = true ∧ aboveI P Q (k : Int) < 65536 ∧ ∀ i, i < P.length →
      (belowI P Q (i : Int)).testBit k = (aboveI P Q (k : Int)).testBit i ∧ belowI P Q (i : Int) < 65536 ∧ aboveI P Q (i : Int) < 65536 ∧
      ((aboveI P Q (k : Int)).testBit i = true → sub (aboveI P Q (i : Int)) (aboveI P Q (k : Int)) = true ∧ kindI P Q (i : Int) = kindI P Q (k : Int) ∧ (i ≠ k → (aboveI P Q (i : Int)).testBit k = false)) := by
  have O := ord_of h
  obtain ⟨h1, h2, h3, h4, h5, h6⟩ := ok_facts h
  have hl := ordU_lim P Q
  have ha : ∀ j : Nat, aboveI P Q (j : Int) = (ordU P Q).getD j 0 := fun j => by rw [aboveI, atU_nat]
  have hb : ∀ j : Nat, j < P.length → belowI P Q (j : Int) = belowU (ordU P Q) j := fun j hj => by rw [belowI, belowX, if_pos (by rw [h6]; omega)]; rfl
  refine ⟨by rw [ha]; exact O.refl k (by omega), by rw [ha]; exact hl.lt k, fun i hi => ⟨?_, ?_, by rw [ha]; exact hl.lt i, fun hki => ⟨?_, ?_, fun hne => ?_⟩⟩⟩
  · rw [hb i hi, ha, belowU_bit]; simp [h6, hk]
  · rw [hb i hi]; exact lim16 hl (belowU_lt _ _)
  · rw [ha, ha, sub_iff]
    rw [ha] at hki
    exact fun j hj => O.trans k i j (by omega) hki hj
  · rw [ha] at hki
    exact kind_same h hi hk hki
  · rw [ha] at hki ⊢
    cases hb2 : ((ordU P Q).getD i 0).testBit k with
    | false => rfl
    | true => exact absurd (O.anti k i (by omega) hki hb2).symm hne


set_option maxHeartbeats 8000000 in
set_option maxRecDepth 20000 in
theorem walk {H : Type} {enc : TypeId × Value → H} {W : World} {base : Nat} {v : Value} {d : DataW H} {p : List MemPlace}
    (hval : Value.okWide Try.prog W .any base 22 v) (hd : DataW.Trod enc Try.prog W 0 (fun _ => true) true 22 v d p) (_hlt : ∀ x ∈ p, x.block < W.heap.size) :
    Calls Try.prog 3 #[v] W fun e w' => e = .returned (.bool true) ∧ Below W.heap.size W w' := by
  obtain ⟨A, n, cap, rfl, hn, hcode⟩ := code_open hval hd
  clear hval hd _hlt
  have HCODE := Lib.hid hcode
  clear hcode
  by_cases hbig : 1048576 < n
  · have CB := Lib.hid (big_any (A := A) (cap := cap) hn W)
    have hd : decide (1048576 < n) = true := by simpa using hbig
    rw [hd] at CB
    clear hd
    go_enter Try.func3, Try.ntmps3
    go_wp2_with fail
    refine CB.out.mono ?_; rintro e w1 ⟨rfl, rfl⟩
    go_wp2
    go_ret
    exact ⟨rfl, Below.refl _ _⟩
  have CB := Lib.hid (big_any (A := A) (cap := cap) hn W)
  have hd : decide (1048576 < n) = false := by simpa using hbig
  rw [hd] at CB
  clear hd
  have HC := Lib.hid (HCODE.out (by omega))
  clear HCODE
  go_enter Try.func3, Try.ntmps3
  go_wp2_with fail
  refine CB.out.mono ?_; rintro e w1 ⟨rfl, rfl⟩
  clear CB
  go_wp2_with fail
  refine (drawAbove_any HC.out _ (Below.refl _ _)).mono ?_; rintro e w1 ⟨va, vb, P, Q, x, rfl, hS, hx0, hx1, hb1⟩
  obtain ⟨A1, c1, B1, c2, rfl, rfl, hla, hlb, hS'⟩ := hS.shape
  have HS := Lib.hid hS'
  have HB1 := Lib.hid hb1
  clear hS hS' hb1 HC hbig hn
  have hb64 : -9223372036854775808 ≤ x ∧ x ≤ 9223372036854775807 := by omega
  obtain ⟨hx64, hx65⟩ := hb64
  obtain ⟨r, hr⟩ : ∃ r, okS P Q = r := ⟨_, rfl⟩
  have HR := Lib.hid hr
  clear hr
  -- the world behind the draw, with s in its box
  have HHS : Hid (∀ W', Below (w1.alloc (.cells #[.slice A1 P.length c1, .slice B1 Q.length c2] 27)).heap.size (w1.alloc (.cells #[.slice A1 P.length c1, .slice B1 Q.length c2] 27)) W' → HasS W' (.slice A1 P.length c1) (.slice B1 Q.length c2) P Q) := Lib.hid (fun W' hW' => HS.out.below (Nat.le_refl _) (((Below.refl _ _).alloc (Nat.le_refl _) _).trans (hW'.mono (by simp))))
  have CIS : Hid (∀ W', Below (w1.alloc (.cells #[.slice A1 P.length c1, .slice B1 Q.length c2] 27)).heap.size (w1.alloc (.cells #[.slice A1 P.length c1, .slice B1 Q.length c2] 27)) W' → Calls Try.prog 11 #[.agg #[.slice A1 P.length c1, .slice B1 Q.length c2]] W' fun e w' => e = .returned (.bool r) ∧ Below W'.heap.size W' w') := Lib.hid (fun W' hW' => iIsSorts_any P Q _ _ r HR.out _ (HHS.out _ hW'))
  have CSS : Hid (∀ W', Below (w1.alloc (.cells #[.slice A1 P.length c1, .slice B1 Q.length c2] 27)).heap.size (w1.alloc (.cells #[.slice A1 P.length c1, .slice B1 Q.length c2] 27)) W' → Calls Try.prog 12 #[.agg #[.slice A1 P.length c1, .slice B1 Q.length c2]] W' fun e w' => e = .returned (.bool r) ∧ Below W'.heap.size W' w') := Lib.hid (fun W' hW' => sIsSorts_any P Q _ _ r HR.out _ (HHS.out _ hW'))
  have CAB : Hid (∀ (z : Int), -9223372036854775808 ≤ z → z ≤ 9223372036854775807 → ∀ W', Below (w1.alloc (.cells #[.slice A1 P.length c1, .slice B1 Q.length c2] 27)).heap.size (w1.alloc (.cells #[.slice A1 P.length c1, .slice B1 Q.length c2] 27)) W' → Calls Try.prog 13 #[.agg #[.slice A1 P.length c1, .slice B1 Q.length c2], .int .i64 z] W' fun e w' => e = .returned (.int .i64 ((aboveI P Q z : Nat) : Int)) ∧ Below W'.heap.size W' w') := Lib.hid (fun z h1 h2 W' hW' => iAbove_any P Q _ _ z h1 h2 _ (HHS.out _ hW'))
  have CBE : Hid (∀ (z : Int), -9223372036854775808 ≤ z → z ≤ 9223372036854775807 → ∀ W', Below (w1.alloc (.cells #[.slice A1 P.length c1, .slice B1 Q.length c2] 27)).heap.size (w1.alloc (.cells #[.slice A1 P.length c1, .slice B1 Q.length c2] 27)) W' → Calls Try.prog 14 #[.agg #[.slice A1 P.length c1, .slice B1 Q.length c2], .int .i64 z] W' fun e w' => e = .returned (.int .i64 ((belowI P Q z : Nat) : Int)) ∧ Below W'.heap.size W' w') := Lib.hid (fun z h1 h2 W' hW' => iBelow_any P Q _ _ z h1 h2 _ (HHS.out _ hW'))
  have CKI : Hid (∀ (z : Int), -9223372036854775808 ≤ z → z ≤ 9223372036854775807 → ∀ W', Below (w1.alloc (.cells #[.slice A1 P.length c1, .slice B1 Q.length c2] 27)).heap.size (w1.alloc (.cells #[.slice A1 P.length c1, .slice B1 Q.length c2] 27)) W' → Calls Try.prog 15 #[.agg #[.slice A1 P.length c1, .slice B1 Q.length c2], .int .i64 z] W' fun e w' => e = .returned (.int .i64 (kindI P Q z)) ∧ Below W'.heap.size W' w') := Lib.hid (fun z h1 h2 W' hW' => iKind_any P Q _ _ z h1 h2 _ (HHS.out _ hW'))
  go_wp2
  go_region_held3 (fun w' => (w'.cell? ⟨w1.heap.size, 0, none⟩ = some (.slice A1 P.length c1) ∧ w'.cell? ⟨w1.heap.size, 1, none⟩ = some (.slice B1 Q.length c2)) ∧ Below (w1.alloc (.cells #[.slice A1 P.length c1, .slice B1 Q.length c2] 27)).heap.size (w1.alloc (.cells #[.slice A1 P.length c1, .slice B1 Q.length c2] 27)) w')
    (first | (refine ⟨⟨?_, ?_⟩, (Below.refl _ _).drew⟩ <;> simp) | (go_split_ands; exact keep_two (p := ⟨w1.heap.size, 0, none⟩) (q := ⟨w1.heap.size, 1, none⟩) ⟨⟨by assumption, by assumption⟩, by assumption⟩ (by simp) (by assumption)))
    (first | (go_at_call 11; refine (CIS.out _ (by go_split_ands; assumption)).mono ?_; rintro e w2 ⟨rfl, hb2⟩) | (go_at_call 12; refine (CSS.out _ (by go_split_ands; assumption)).mono ?_; rintro e w2 ⟨rfl, hb2⟩))
  have hh : (w2.cell? ⟨w1.heap.size, 0, none⟩ = some (.slice A1 P.length c1) ∧ w2.cell? ⟨w1.heap.size, 1, none⟩ = some (.slice B1 Q.length c2)) ∧ Below (w1.alloc (.cells #[.slice A1 P.length c1, .slice B1 Q.length c2] 27)).heap.size (w1.alloc (.cells #[.slice A1 P.length c1, .slice B1 Q.length c2] 27)) w2 := by assumption
  have c02 := hh.1.1
  have c12 := hh.1.2
  have hB2 := hh.2
  have hs2 : w1.heap.size < w2.heap.size := by have := hB2.size; simp at this; omega
  clear hh
  by_cases hbad : r = false ∨ ¬ (0 ≤ x ∧ x < P.length)
  · obtain ⟨n1, n2, n3⟩ := none_of (P := P) (Q := Q) (x := x) (by rw [HR.out]; exact hbad)
    have KAB := Lib.hid (CAB.out x hx64 hx65)
    have KBE := Lib.hid (CBE.out x hx64 hx65)
    have KKI := Lib.hid (CKI.out x hx64 hx65)
    rw [n1] at KAB
    rw [n2] at KBE
    rw [n3] at KKI
    clear n1 n2 n3
    go_wp2_with fail
    refine (KAB.out _ hB2).mono ?_; rintro e w3 ⟨rfl, hb3⟩
    have c03 : w3.cell? ⟨w1.heap.size, 0, none⟩ = some (.slice A1 P.length c1) := (hb3.cell (by exact hs2)).trans c02
    have c13 : w3.cell? ⟨w1.heap.size, 1, none⟩ = some (.slice B1 Q.length c2) := (hb3.cell (by exact hs2)).trans c12
    have hB3 : Below (w1.alloc (.cells #[.slice A1 P.length c1, .slice B1 Q.length c2] 27)).heap.size (w1.alloc (.cells #[.slice A1 P.length c1, .slice B1 Q.length c2] 27)) w3 := hB2.trans (hb3.mono hB2.size)
    have hs3 : w1.heap.size < w3.heap.size := Nat.lt_of_lt_of_le hs2 hb3.size
    clear c02 c12 hs2 hb3 hB2
    go_wp2_with fail
    refine (CSS.out _ hB3).mono ?_; rintro e w4 ⟨rfl, hb4⟩
    have c04 : w4.cell? ⟨w1.heap.size, 0, none⟩ = some (.slice A1 P.length c1) := (hb4.cell (by exact hs3)).trans c03
    have c14 : w4.cell? ⟨w1.heap.size, 1, none⟩ = some (.slice B1 Q.length c2) := (hb4.cell (by exact hs3)).trans c13
    have hB4 : Below (w1.alloc (.cells #[.slice A1 P.length c1, .slice B1 Q.length c2] 27)).heap.size (w1.alloc (.cells #[.slice A1 P.length c1, .slice B1 Q.length c2] 27)) w4 := hB3.trans (hb4.mono hB3.size)
    have hs4 : w1.heap.size < w4.heap.size := Nat.lt_of_lt_of_le hs3 hb4.size
    clear c03 c13 hs3 hb4 hB3
    have hcase : r = false ∨ (r = true ∧ x < 0) ∨ (r = true ∧ 0 ≤ x ∧ (P.length : Int) ≤ x) := by
      cases r with
      | false => exact .inl rfl
      | true =>
        right
        rcases hbad with h | h
        · cases h
        · by_cases hxn : x < 0
          · exact .inl ⟨rfl, hxn⟩
          · exact .inr ⟨rfl, by omega, by omega⟩
    clear hbad
    rcases hcase with rfl | ⟨rfl, hxn⟩ | ⟨rfl, hxn, hxp⟩
    · go_wp2_with fail
      refine (KBE.out _ hB4).mono ?_; rintro e w5 ⟨rfl, hb5⟩
      have c05 : w5.cell? ⟨w1.heap.size, 0, none⟩ = some (.slice A1 P.length c1) := (hb5.cell (by exact hs4)).trans c04
      have c15 : w5.cell? ⟨w1.heap.size, 1, none⟩ = some (.slice B1 Q.length c2) := (hb5.cell (by exact hs4)).trans c14
      have hB5 : Below (w1.alloc (.cells #[.slice A1 P.length c1, .slice B1 Q.length c2] 27)).heap.size (w1.alloc (.cells #[.slice A1 P.length c1, .slice B1 Q.length c2] 27)) w5 := hB4.trans (hb5.mono hB4.size)
      have hs5 : w1.heap.size < w5.heap.size := Nat.lt_of_lt_of_le hs4 hb5.size
      clear c04 c14 hs4 hb5 hB4
      go_wp2_with fail
      refine (KKI.out _ hB5).mono ?_; rintro e w6 ⟨rfl, hb6⟩
      have c06 : w6.cell? ⟨w1.heap.size, 0, none⟩ = some (.slice A1 P.length c1) := (hb6.cell (by exact hs5)).trans c05
      have c16 : w6.cell? ⟨w1.heap.size, 1, none⟩ = some (.slice B1 Q.length c2) := (hb6.cell (by exact hs5)).trans c15
      have hB6 : Below (w1.alloc (.cells #[.slice A1 P.length c1, .slice B1 Q.length c2] 27)).heap.size (w1.alloc (.cells #[.slice A1 P.length c1, .slice B1 Q.length c2] 27)) w6 := hB5.trans (hb6.mono hB5.size)
      have hs6 : w1.heap.size < w6.heap.size := Nat.lt_of_lt_of_le hs5 hb6.size
      clear c05 c15 hs5 hb6 hB5
      go_wp2
      go_ret
      exact ⟨rfl, HB1.out.trans ((((Below.refl _ _).alloc (Nat.le_refl _) _).trans (hB6.mono (by simp))).mono HB1.out.size)⟩
    · have hd1 : decide (x < 0) = true := by simpa using hxn
      go_wp2_with fail
      refine (KBE.out _ hB4).mono ?_; rintro e w5 ⟨rfl, hb5⟩
      have c05 : w5.cell? ⟨w1.heap.size, 0, none⟩ = some (.slice A1 P.length c1) := (hb5.cell (by exact hs4)).trans c04
      have c15 : w5.cell? ⟨w1.heap.size, 1, none⟩ = some (.slice B1 Q.length c2) := (hb5.cell (by exact hs4)).trans c14
      have hB5 : Below (w1.alloc (.cells #[.slice A1 P.length c1, .slice B1 Q.length c2] 27)).heap.size (w1.alloc (.cells #[.slice A1 P.length c1, .slice B1 Q.length c2] 27)) w5 := hB4.trans (hb5.mono hB4.size)
      have hs5 : w1.heap.size < w5.heap.size := Nat.lt_of_lt_of_le hs4 hb5.size
      clear c04 c14 hs4 hb5 hB4
      go_wp2_with fail
      refine (KKI.out _ hB5).mono ?_; rintro e w6 ⟨rfl, hb6⟩
      have c06 : w6.cell? ⟨w1.heap.size, 0, none⟩ = some (.slice A1 P.length c1) := (hb6.cell (by exact hs5)).trans c05
      have c16 : w6.cell? ⟨w1.heap.size, 1, none⟩ = some (.slice B1 Q.length c2) := (hb6.cell (by exact hs5)).trans c15
      have hB6 : Below (w1.alloc (.cells #[.slice A1 P.length c1, .slice B1 Q.length c2] 27)).heap.size (w1.alloc (.cells #[.slice A1 P.length c1, .slice B1 Q.length c2] 27)) w6 := hB5.trans (hb6.mono hB5.size)
      have hs6 : w1.heap.size < w6.heap.size := Nat.lt_of_lt_of_le hs5 hb6.size
      clear c05 c15 hs5 hb6 hB5
      go_wp2
      go_ret
      exact ⟨rfl, HB1.out.trans ((((Below.refl _ _).alloc (Nat.le_refl _) _).trans (hB6.mono (by simp))).mono HB1.out.size)⟩
    · have hd1 : decide (x < 0) = false := by simp; omega
      have hd2 : decide ((P.length : Int) ≤ x) = true := by simpa using hxp
      go_wp2_with fail
      refine (KBE.out _ hB4).mono ?_; rintro e w5 ⟨rfl, hb5⟩
      have c05 : w5.cell? ⟨w1.heap.size, 0, none⟩ = some (.slice A1 P.length c1) := (hb5.cell (by exact hs4)).trans c04
      have c15 : w5.cell? ⟨w1.heap.size, 1, none⟩ = some (.slice B1 Q.length c2) := (hb5.cell (by exact hs4)).trans c14
      have hB5 : Below (w1.alloc (.cells #[.slice A1 P.length c1, .slice B1 Q.length c2] 27)).heap.size (w1.alloc (.cells #[.slice A1 P.length c1, .slice B1 Q.length c2] 27)) w5 := hB4.trans (hb5.mono hB4.size)
      have hs5 : w1.heap.size < w5.heap.size := Nat.lt_of_lt_of_le hs4 hb5.size
      clear c04 c14 hs4 hb5 hB4
      go_wp2_with fail
      refine (KKI.out _ hB5).mono ?_; rintro e w6 ⟨rfl, hb6⟩
      have c06 : w6.cell? ⟨w1.heap.size, 0, none⟩ = some (.slice A1 P.length c1) := (hb6.cell (by exact hs5)).trans c05
      have c16 : w6.cell? ⟨w1.heap.size, 1, none⟩ = some (.slice B1 Q.length c2) := (hb6.cell (by exact hs5)).trans c15
      have hB6 : Below (w1.alloc (.cells #[.slice A1 P.length c1, .slice B1 Q.length c2] 27)).heap.size (w1.alloc (.cells #[.slice A1 P.length c1, .slice B1 Q.length c2] 27)) w6 := hB5.trans (hb6.mono hB5.size)
      have hs6 : w1.heap.size < w6.heap.size := Nat.lt_of_lt_of_le hs5 hb6.size
      clear c05 c15 hs5 hb6 hB5
      go_wp2
      go_ret
      exact ⟨rfl, HB1.out.trans ((((Below.refl _ _).alloc (Nat.le_refl _) _).trans (hB6.mono (by simp))).mono HB1.out.size)⟩
  · have hgood : r = true ∧ 0 ≤ x ∧ x < P.length := by
      cases r with
      | false => exact absurd (.inl rfl) hbad
      | true => exact ⟨rfl, by omega⟩
    obtain ⟨rfl, hg0, hg1⟩ := hgood
    obtain ⟨k, rfl⟩ : ∃ k : Nat, x = (k : Int) := ⟨x.toNat, by omega⟩
    have hk : k < P.length := by omega
    obtain ⟨m1, m2, m3⟩ := some_of HR.out hk
    have HM3 := Lib.hid m3
    have HM1 := Lib.hid m1
    obtain ⟨up, hup⟩ : ∃ up, up = aboveI P Q (k : Int) := ⟨_, rfl⟩
    have KAB := Lib.hid (CAB.out (k : Int) hx64 hx65)
    rw [← hup] at KAB HM1 HM3 m2
    clear hbad m1 m3 hup
    go_wp2_with fail
    refine (KAB.out _ hB2).mono ?_; rintro e w3 ⟨rfl, hb3⟩
    have c03 : w3.cell? ⟨w1.heap.size, 0, none⟩ = some (.slice A1 P.length c1) := (hb3.cell (by exact hs2)).trans c02
    have c13 : w3.cell? ⟨w1.heap.size, 1, none⟩ = some (.slice B1 Q.length c2) := (hb3.cell (by exact hs2)).trans c12
    have hB3 : Below (w1.alloc (.cells #[.slice A1 P.length c1, .slice B1 Q.length c2] 27)).heap.size (w1.alloc (.cells #[.slice A1 P.length c1, .slice B1 Q.length c2] 27)) w3 := hB2.trans (hb3.mono hB2.size)
    have hs3 : w1.heap.size < w3.heap.size := Nat.lt_of_lt_of_le hs2 hb3.size
    clear c02 c12 hs2 hb3 hB2
    go_wp2_with fail
    refine (CSS.out _ hB3).mono ?_; rintro e w4 ⟨rfl, hb4⟩
    have c04 : w4.cell? ⟨w1.heap.size, 0, none⟩ = some (.slice A1 P.length c1) := (hb4.cell (by exact hs3)).trans c03
    have c14 : w4.cell? ⟨w1.heap.size, 1, none⟩ = some (.slice B1 Q.length c2) := (hb4.cell (by exact hs3)).trans c13
    have hB4 : Below (w1.alloc (.cells #[.slice A1 P.length c1, .slice B1 Q.length c2] 27)).heap.size (w1.alloc (.cells #[.slice A1 P.length c1, .slice B1 Q.length c2] 27)) w4 := hB3.trans (hb4.mono hB3.size)
    have hs4 : w1.heap.size < w4.heap.size := Nat.lt_of_lt_of_le hs3 hb4.size
    clear c03 c13 hs3 hb4 hB3
    have hd1 : decide ((k : Int) < 0) = false := by simp
    have hd2 : decide ((P.length : Int) ≤ (k : Int)) = false := by simp; omega
    have hd3 : decide (P.length ≤ k) = false := by simp; omega
    go_wp2
    go_loopw [6] (fun i wr => ∃ j : Nat, j ≤ P.length ∧ i = .int .i64 j ∧ (wr.cell? ⟨w1.heap.size, 0, none⟩ = some (.slice A1 P.length c1) ∧ wr.cell? ⟨w1.heap.size, 1, none⟩ = some (.slice B1 Q.length c2)) ∧ Below (w1.alloc (.cells #[.slice A1 P.length c1, .slice B1 Q.length c2] 27)).heap.size (w1.alloc (.cells #[.slice A1 P.length c1, .slice B1 Q.length c2] 27)) wr) (fun i _ => P.length - (intOf i).toNat)
    case atStart => exact ⟨0, Nat.zero_le _, rfl, ⟨c04, c14⟩, hB4⟩
    case round =>
      obtain ⟨j, hj, rfl, ⟨c0r, c1r⟩, hBr⟩ := hrel
      clear c04 c14 hB4 hs4 hd1 hd2 hd3
      by_cases hlt : j < P.length
      · obtain ⟨q1, q2, q3, q4⟩ := HM3.out j hlt
        have hj16 : j < 16 := by have := okS_parts HR.out; omega
        have hk16 : k < 16 := by have := okS_parts HR.out; omega
        have HJ : Hid (hasI (up : Int) (j : Int) = up.testBit j) := Lib.hid (hasI_nat up j hj16)
        have hSd : SBox w1 (.slice A1 P.length c1) (.slice B1 Q.length c2) wr.drew := SBox.drew ⟨c0r, c1r, hBr⟩
        have KBE : Hid (∀ W', SBox w1 (.slice A1 P.length c1) (.slice B1 Q.length c2) W' → Calls Try.prog 14 #[.agg #[.slice A1 P.length c1, .slice B1 Q.length c2], .int .i64 (j : Int)] W' fun e w' => e = .returned (.int .i64 ((belowI P Q (j : Int) : Nat) : Int)) ∧ SBox w1 (.slice A1 P.length c1) (.slice B1 Q.length c2) w') := Lib.hid (fun W' hW' => (CBE.out (j : Int) (by omega) (by omega) W' hW'.bel).mono (fun e w' h => ⟨h.1, hW'.keep h.2⟩))
        have KABJ : Hid (∀ W', SBox w1 (.slice A1 P.length c1) (.slice B1 Q.length c2) W' → Calls Try.prog 13 #[.agg #[.slice A1 P.length c1, .slice B1 Q.length c2], .int .i64 (j : Int)] W' fun e w' => e = .returned (.int .i64 ((aboveI P Q (j : Int) : Nat) : Int)) ∧ SBox w1 (.slice A1 P.length c1) (.slice B1 Q.length c2) w') := Lib.hid (fun W' hW' => (CAB.out (j : Int) (by omega) (by omega) W' hW'.bel).mono (fun e w' h => ⟨h.1, hW'.keep h.2⟩))
        have HB16 := Lib.hid (hasI_nat (belowI P Q (j : Int)) k hk16)
        have HA16 := Lib.hid (hasI_nat (aboveI P Q (j : Int)) k hk16)
        obtain ⟨bj, hbj⟩ : ∃ b, b = belowI P Q (j : Int) := ⟨_, rfl⟩
        rw [← hbj] at q1 q2 KBE HB16
        obtain ⟨aj, haj⟩ : ∃ b, b = aboveI P Q (j : Int) := ⟨_, rfl⟩
        rw [← haj] at q3 q4 KABJ HA16
        clear hbj haj
        have HQ1 := Lib.hid q1
        have HQ4 := Lib.hid q4
        clear q1 q4
        cases hA : up.testBit j with
        | false =>
          have HM := Lib.hid (HJ.out.trans hA)
          have M1 : Hid (hasI (bj : Int) (k : Int) = false) := Lib.hid (HB16.out.trans (HQ1.out.trans hA))
          clear hA
          go_wp2_with (go_at_call 16; refine (member_any _ _ _ HM.out _).mono ?_; rintro e w5 ⟨rfl, rfl⟩)
          refine region_box (w1 := w1) (va := .slice A1 P.length c1) (vb := .slice B1 Q.length c2) (by kernel_rfl) (by kernel_rfl) ⟨c0r, c1r, hBr⟩ ?_
          have nb : Nonempty (BoxW w1 (.slice A1 P.length c1) (.slice B1 Q.length c2)) := ⟨⟨_, ⟨c0r, c1r, hBr⟩⟩⟩
          have q0 : ∀ t : BoxW w1 (.slice A1 P.length c1) (.slice B1 Q.length c2), t.W.cell? ⟨w1.heap.size, 0, none⟩ = some (.slice A1 P.length c1) := fun t => t.h.a
          have q1 : ∀ t : BoxW w1 (.slice A1 P.length c1) (.slice B1 Q.length c2), t.W.cell? ⟨w1.heap.size, 1, none⟩ = some (.slice B1 Q.length c2) := fun t => t.h.b
          repeat (go_big_quiet_step (first | (go_at_call 14; exact (KBE.out _ (BoxW.h _)).mono (fun _ _ h => ⟨h.1, ⟨_, h.2⟩, rfl⟩)) | (go_at_call 16; exact (member_any _ _ _ M1.out _).mono (fun _ _ h => ⟨h.1, _, by first | exact h.2 | exact h.2.symm⟩))))
          refine wpQuiet_nil ?_
          rintro w5 ⟨t5, rfl⟩
          have hS5 := t5.h
          go_wp2
          go_roundw
          case rel => exact ⟨j + 1, by omega, by go_num, ⟨hS5.a, hS5.b⟩, hS5.bel⟩
          case measure => simp [intOf]; omega
        | true =>
          have HM := Lib.hid (HJ.out.trans hA)
          have M1 : Hid (hasI (bj : Int) (k : Int) = true) := Lib.hid (HB16.out.trans (HQ1.out.trans hA))
          obtain ⟨t1, t2, t3⟩ := HQ4.out hA
          have HSU : Hid (subI (aj : Int) (up : Int) = true) := Lib.hid (by
            have o1 : ok (aj : Int) = true := by simp [ok]; omega
            have o2 : ok (up : Int) = true := by simp [ok]; omega
            simp only [subI, o1, o2, Int.toNat_natCast, t1]; rfl)
          obtain ⟨K, hK⟩ : ∃ K, K = kindI P Q (k : Int) := ⟨_, rfl⟩
          have HKK : Hid (∀ (z : Int) W', z = (j : Int) ∨ z = (k : Int) → SBox w1 (.slice A1 P.length c1) (.slice B1 Q.length c2) W' → Calls Try.prog 15 #[.agg #[.slice A1 P.length c1, .slice B1 Q.length c2], .int .i64 z] W' fun e w' => e = .returned (.int .i64 K) ∧ SBox w1 (.slice A1 P.length c1) (.slice B1 Q.length c2) w') := Lib.hid (fun z W' hz hW' => by
            rcases hz with rfl | rfl
            · have := CKI.out (j : Int) (by omega) (by omega) W' hW'.bel
              rw [t2, ← hK] at this; exact this.mono (fun e w' h => ⟨h.1, hW'.keep h.2⟩)
            · have := CKI.out (k : Int) (by omega) (by omega) W' hW'.bel
              rw [← hK] at this; exact this.mono (fun e w' h => ⟨h.1, hW'.keep h.2⟩))
          have HT3 := Lib.hid t3
          clear hA t1 t2 t3 hK
          by_cases hjk : j = k
          · have hd5 : ((j : Int) != (k : Int)) = false := by simp; omega
            clear hjk
            go_wp2_with (go_at_call 16; refine (member_any _ _ _ HM.out _).mono ?_; rintro e w5 ⟨rfl, rfl⟩)
            refine region_box (w1 := w1) (va := .slice A1 P.length c1) (vb := .slice B1 Q.length c2) (by kernel_rfl) (by kernel_rfl) ⟨c0r, c1r, hBr⟩ ?_
            have nb : Nonempty (BoxW w1 (.slice A1 P.length c1) (.slice B1 Q.length c2)) := ⟨⟨_, ⟨c0r, c1r, hBr⟩⟩⟩
            have q0 : ∀ t : BoxW w1 (.slice A1 P.length c1) (.slice B1 Q.length c2), t.W.cell? ⟨w1.heap.size, 0, none⟩ = some (.slice A1 P.length c1) := fun t => t.h.a
            have q1 : ∀ t : BoxW w1 (.slice A1 P.length c1) (.slice B1 Q.length c2), t.W.cell? ⟨w1.heap.size, 1, none⟩ = some (.slice B1 Q.length c2) := fun t => t.h.b
            repeat (go_big_quiet_step (first | (go_at_call 14; exact (KBE.out _ (BoxW.h _)).mono (fun _ _ h => ⟨h.1, ⟨_, h.2⟩, rfl⟩)) | (go_at_call 16; exact (member_any _ _ _ M1.out _).mono (fun _ _ h => ⟨h.1, _, by first | exact h.2 | exact h.2.symm⟩)) | (go_at_call 13; exact (KABJ.out _ (BoxW.h _)).mono (fun _ _ h => ⟨h.1, ⟨_, h.2⟩, rfl⟩)) | (go_at_call 15; exact (HKK.out _ _ (by simp) (BoxW.h _)).mono (fun _ _ h => ⟨h.1, ⟨_, h.2⟩, rfl⟩)) | (go_at_call 17; exact (iSub_any _ _ _ HSU.out _).mono (fun _ _ h => ⟨h.1, _, by first | exact h.2 | exact h.2.symm⟩))))
            refine wpQuiet_nil ?_
            rintro w5 ⟨t5, rfl⟩
            have hS5 := t5.h
            go_wp2
            go_roundw
            case rel => exact ⟨j + 1, by omega, by go_num, ⟨hS5.a, hS5.b⟩, hS5.bel⟩
            case measure => simp [intOf]; omega
          · have hd5 : ((j : Int) != (k : Int)) = true := by simp; omega
            have M2 : Hid (hasI (aj : Int) (k : Int) = false) := Lib.hid (HA16.out.trans (HT3.out hjk))
            clear hjk
            go_wp2_with (go_at_call 16; refine (member_any _ _ _ HM.out _).mono ?_; rintro e w5 ⟨rfl, rfl⟩)
            refine region_box (w1 := w1) (va := .slice A1 P.length c1) (vb := .slice B1 Q.length c2) (by kernel_rfl) (by kernel_rfl) ⟨c0r, c1r, hBr⟩ ?_
            have nb : Nonempty (BoxW w1 (.slice A1 P.length c1) (.slice B1 Q.length c2)) := ⟨⟨_, ⟨c0r, c1r, hBr⟩⟩⟩
            have q0 : ∀ t : BoxW w1 (.slice A1 P.length c1) (.slice B1 Q.length c2), t.W.cell? ⟨w1.heap.size, 0, none⟩ = some (.slice A1 P.length c1) := fun t => t.h.a
            have q1 : ∀ t : BoxW w1 (.slice A1 P.length c1) (.slice B1 Q.length c2), t.W.cell? ⟨w1.heap.size, 1, none⟩ = some (.slice B1 Q.length c2) := fun t => t.h.b
            repeat (go_big_quiet_step (first | (go_at_call 14; exact (KBE.out _ (BoxW.h _)).mono (fun _ _ h => ⟨h.1, ⟨_, h.2⟩, rfl⟩)) | (go_at_call 16; exact Calls.mono (member_any _ _ _ (by first | exact M1.out | exact M2.out) _) (fun _ _ h => ⟨h.1, _, by first | exact h.2 | exact h.2.symm⟩)) | (go_at_call 13; exact (KABJ.out _ (BoxW.h _)).mono (fun _ _ h => ⟨h.1, ⟨_, h.2⟩, rfl⟩)) | (go_at_call 15; exact (HKK.out _ _ (by simp) (BoxW.h _)).mono (fun _ _ h => ⟨h.1, ⟨_, h.2⟩, rfl⟩)) | (go_at_call 17; exact (iSub_any _ _ _ HSU.out _).mono (fun _ _ h => ⟨h.1, _, by first | exact h.2 | exact h.2.symm⟩))))
            refine wpQuiet_nil ?_
            rintro w5 ⟨t5, rfl⟩
            have hS5 := t5.h
            go_wp2
            go_roundw
            case rel => exact ⟨j + 1, by omega, by go_num, ⟨hS5.a, hS5.b⟩, hS5.bel⟩
            case measure => simp [intOf]; omega
      · obtain rfl : j = P.length := by omega
        have hk16 : k < 16 := by have := okS_parts HR.out; omega
        have HK := Lib.hid ((hasI_nat up k hk16).trans HM1.out)
        go_wp2_with (go_at_call 16; refine (member_any _ _ _ HK.out _).mono ?_; rintro e w5 ⟨rfl, rfl⟩)
        go_ret
        exact ⟨rfl, HB1.out.trans ((((Below.refl _ _).alloc (Nat.le_refl _) _).trans (hBr.mono (by simp))).mono HB1.out.size)⟩
end Go.Proofs.Yteaccmneblhoaaa.fnSortOrder
