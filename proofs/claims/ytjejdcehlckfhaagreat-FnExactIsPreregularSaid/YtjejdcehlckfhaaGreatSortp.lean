/-
  THE ORDER OF SORTS AS A MAP: what a map of sets reads as, and the contracts of isIndex, areSubs, closePairs, haveCircle, hasSort.
-/
import Derived.Test.YtjejdcehlckfhaaGreatSortn
import Derived.Test.YtjejdcehlckfhaaGreatSortm
import Derived.Maps.OwnSet
import Derived.Maps.OwnOps
import Derived.Maps.Views
namespace Go.Proofs.YtjejdcehlckfhaaGreat.sortp
open Go.ChangeShapes Go.WideShapes Go.ChangeAt Go.RowKit
open Go.Maps (Keyed)
open mem split strl subs sortn setm sets sortm

/-! ### valid pairs -/
def subOk (n : Nat) (p : Int × Int) : Bool := decide (0 ≤ p.1 ∧ p.1 < n) && decide (0 ≤ p.2 ∧ p.2 < n) && decide (p.1 ≠ p.2)
def subsTo (n : Nat) (Q : List (Int × Int)) (k : Nat) : Bool := (Q.take k).all (subOk n)
def subsOk (n : Nat) (Q : List (Int × Int)) : Bool := decide (Q.length ≤ 16) && Q.all (subOk n)
def prs (Q : List (Int × Int)) : List (Nat × Nat) := Q.map fun p => (p.1.toNat, p.2.toNat)
theorem prs_len (Q : List (Int × Int)) : (prs Q).length = Q.length := by simp [prs]
theorem prs_get (Q : List (Int × Int)) (k : Nat) : (prs Q).getD k (0, 0) = ((Q.getD k (0, 0)).1.toNat, (Q.getD k (0, 0)).2.toNat) := by
  by_cases h : k < Q.length
  · simp [prs, List.getD, List.getElem?_eq_getElem h]
  · simp [prs, List.getD, List.getElem?_eq_none (Nat.le_of_not_lt h)]
theorem subsTo_succ (n : Nat) (Q : List (Int × Int)) (k : Nat) (h : k < Q.length) : subsTo n Q (k + 1) = (subsTo n Q k && subOk n (Q.getD k (0, 0))) := by
  rw [subsTo, takeP Q k h, List.all_append]; simp [subsTo]
theorem subs_bad (n : Nat) (Q : List (Int × Int)) (k : Nat) (h : k < Q.length) (hb : subOk n (Q.getD k (0, 0)) = false) : Q.all (subOk n) = false := by
  simp only [List.all_eq_false]
  exact ⟨Q[k], List.getElem_mem h, by simpa [List.getD, List.getElem?_eq_getElem h] using hb⟩
/-- all pairs lie in range (they may be equal) -/
def PIn (n : Nat) (Q : List (Int × Int)) : Prop := ∀ p ∈ Q, (0 ≤ p.1 ∧ p.1 < n) ∧ (0 ≤ p.2 ∧ p.2 < n)
theorem PIn.get {n : Nat} {Q : List (Int × Int)} (h : PIn n Q) {k : Nat} (hk : k < Q.length) : (0 ≤ (Q.getD k (0, 0)).1 ∧ (Q.getD k (0, 0)).1 < n) ∧ (0 ≤ (Q.getD k (0, 0)).2 ∧ (Q.getD k (0, 0)).2 < n) := by
  have := h _ (List.getElem_mem hk)
  simpa [List.getD, List.getElem?_eq_getElem hk] using this
theorem PIn.inR {n : Nat} {Q : List (Int × Int)} (h : PIn n Q) : InR n (prs Q) := by
  intro p hp
  obtain ⟨q, hq, rfl⟩ := List.mem_map.1 hp
  have := h q hq
  exact ⟨by show q.1.toNat < n; omega, by show q.2.toNat < n; omega⟩
theorem subsOk_pin {n : Nat} {Q : List (Int × Int)} (h : subsOk n Q = true) : PIn n Q ∧ Q.length ≤ 16 := by
  simp only [subsOk, subOk, Bool.and_eq_true, decide_eq_true_eq, List.all_eq_true] at h
  exact ⟨fun p hp => ⟨(h.2 p hp).1.1, (h.2 p hp).1.2⟩, h.1⟩
def circ (n : Nat) (U : List Nat) : Bool := (List.range n).any fun h => (List.range h).any fun l => (U.getD l 0).testBit h && (U.getD h 0).testBit l
theorem circ_true {n : Nat} {U : List Nat} {h l : Nat} (hh : h < n) (hl : l < h) (h1 : (U.getD l 0).testBit h = true) (h2 : (U.getD h 0).testBit l = true) : circ n U = true := by
  simp only [circ, List.any_eq_true, List.mem_range, Bool.and_eq_true]
  exact ⟨h, hh, l, hl, h1, h2⟩
theorem circ_false {n : Nat} {U : List Nat} (h : ∀ h l, h < n → l < h → ¬ ((U.getD l 0).testBit h = true ∧ (U.getD h 0).testBit l = true)) : circ n U = false := by
  cases hc : circ n U with
  | false => rfl
  | true =>
    simp only [circ, List.any_eq_true, List.mem_range, Bool.and_eq_true] at hc
    obtain ⟨a, ha, b, hb, h1, h2⟩ := hc
    exact absurd ⟨h1, h2⟩ (h a b ha hb)
def okS (P : List (List UInt8)) (Q : List (Int × Int)) : Bool := namesOk P && subsOk P.length Q && !circ P.length (clo P.length (prs Q))
theorem okS_parts {P : List (List UInt8)} {Q : List (Int × Int)} (h : okS P Q = true) : 1 ≤ P.length ∧ P.length ≤ 8 ∧ PIn P.length Q ∧ Q.length ≤ 16 ∧ circ P.length (clo P.length (prs Q)) = false := by
  simp only [okS, namesOk, Bool.and_eq_true, decide_eq_true_eq, Bool.not_eq_true'] at h
  obtain ⟨⟨⟨h1, _⟩, h2⟩, h3⟩ := h
  obtain ⟨h4, h5⟩ := subsOk_pin h2
  exact ⟨h1.1, h1.2, h4, h5, h3⟩

/-! ### maps of sets -/
theorem mlaw : Keyed Tryz.prog 3 := Maps.int_keyed Tryz.underlying3
theorem mzero (w : World) : (zeroValue 75).run Tryz.prog w = .ok (.int .u16 0) w := by kernel_rfl
def lk (x : Int) : Lit := .int .i64 x
def lv (n : Nat) : DataW Unit := .lit (.int .u16 (n : Int))
/-- D reads as the list U: the keys are the numbers below its length -/
def Fits (D : DataW Unit) (U : List Nat) : Prop :=
  Maps.Tidy D ∧ Maps.size D = U.length ∧ (∀ i : Nat, i < U.length → Maps.has D (lk i) = true ∧ ∀ z, D.atKey (lk i) z = lv (U.getD i 0)) ∧ ∀ x : Int, ¬ (0 ≤ x ∧ x < U.length) → Maps.has D (lk x) = false
theorem lk_key (x : Int) : WideAt.IsKeyLit (lk x) := trivial
theorem lk_ne {x y : Int} (h : x ≠ y) : lk x ≠ lk y := fun e => h (by simpa [lk] using e)
theorem fits_nil : Fits (.map []) [] := ⟨Maps.tidy_empty, rfl, fun i h => by simp at h, fun x _ => rfl⟩
theorem fits_push {D : DataW Unit} {U : List Nat} (h : Fits D U) (v : Nat) : Fits (D.put (lk U.length) (lv v)) (U ++ [v]) := by
  obtain ⟨h1, h2, h3, h4⟩ := h
  have hno : Maps.has D (lk U.length) = false := h4 _ (by omega)
  refine ⟨h1.put (lk_key _) _, ?_, fun i hi => ?_, fun x hx => ?_⟩
  · rw [Maps.size_put h1, hno, h2]; simp
  · by_cases hi2 : i = U.length
    · subst hi2
      refine ⟨Maps.has_put_same h1.isMap (lk_key _) _, fun z => ?_⟩
      rw [Maps.atKey_put_same h1.isMap (lk_key _)]; simp [List.getD]
    · have hne : lk (i : Int) ≠ lk (U.length : Int) := lk_ne (by omega)
      have hlt : i < U.length := by simp at hi; omega
      refine ⟨by rw [Maps.has_put_other hne]; exact (h3 i hlt).1, fun z => ?_⟩
      rw [Maps.atKey_put_other hne, (h3 i hlt).2 z]; simp [List.getD, List.getElem?_append_left hlt]
  · simp at hx
    rw [Maps.has_put_other (lk_ne (by omega))]
    exact h4 x (by omega)
theorem fits_set {D : DataW Unit} {U : List Nat} (h : Fits D U) (k : Nat) (hk : k < U.length) (v : Nat) : Fits (D.put (lk k) (lv v)) (U.set k v) := by
  obtain ⟨h1, h2, h3, h4⟩ := h
  refine ⟨h1.put (lk_key _) _, ?_, fun i hi => ?_, fun x hx => ?_⟩
  · rw [Maps.size_put h1, (h3 k hk).1, h2]; simp
  · rw [List.length_set] at hi
    rw [getD_set _ _ hk]
    by_cases hi2 : i = k
    · subst hi2
      rw [if_pos rfl]
      exact ⟨Maps.has_put_same h1.isMap (lk_key _) _, fun z => Maps.atKey_put_same h1.isMap (lk_key _) _ _⟩
    · have hne : lk (i : Int) ≠ lk (k : Int) := lk_ne (by omega)
      rw [if_neg hi2]
      exact ⟨by rw [Maps.has_put_other hne]; exact (h3 i hi).1, fun z => by rw [Maps.atKey_put_other hne]; exact (h3 i hi).2 z⟩
  · rw [List.length_set] at hx
    rw [Maps.has_put_other (lk_ne (by omega))]
    exact h4 x hx
/-- v is a map (nil let in) that reads as U -/
def MapU (w : World) (v : Value) (U : List Nat) : Prop :=
  (v = .map none ∧ U = []) ∨ ∃ b n D, v = .map (some b) ∧ w.ownsMap Tryz.prog 3 (plainElem (H := Unit) Tryz.prog 75) b n D ∧ Fits D U
def atU (U : List Nat) (x : Int) : Nat := if 0 ≤ x then U.getD x.toNat 0 else 0
theorem atU_nat (U : List Nat) (k : Nat) : atU U (k : Int) = U.getD k 0 := by simp [atU]
theorem atU_out (U : List Nat) (x : Int) (h : ¬ (0 ≤ x ∧ x < U.length)) : atU U x = 0 := by
  unfold atU
  split
  · rw [List.getD, List.getElem?_eq_none (by omega)]; rfl
  · rfl
theorem fits_at {D : DataW Unit} {U : List Nat} (h : Fits D U) (x : Int) : D.atKey (lk x) (lv 0) = lv (atU U x) := by
  obtain ⟨h1, h2, h3, h4⟩ := h
  by_cases hx : 0 ≤ x ∧ x < U.length
  · have e : x = ((x.toNat : Nat) : Int) := by omega
    rw [e, (h3 x.toNat (by omega)).2, atU_nat]
  · rw [Maps.atKey_of_not_has (h4 x hx), atU_out U x hx]
theorem fits_has {D : DataW Unit} {U : List Nat} (h : Fits D U) (x : Int) : Maps.has D (lk x) = decide (0 ≤ x ∧ x < U.length) := by
  obtain ⟨h1, h2, h3, h4⟩ := h
  by_cases hx : 0 ≤ x ∧ x < U.length
  · have e : x = ((x.toNat : Nat) : Int) := by omega
    rw [e, (h3 x.toNat (by omega)).1]
    simp; omega
  · rw [h4 x hx]; simp; omega
theorem key_int {x : Int} (h1 : -9223372036854775808 ≤ x) (h2 : x ≤ 9223372036854775807) : keyOf Tryz.prog 3 (.int .i64 x) = some (lk x) := Maps.keyOf_int_mk Tryz.underlying3 (WalkArith.wf_i64 (by omega))
theorem MapU.look {w : World} {v : Value} {U : List Nat} (h : MapU w v U) {x : Int} (h1 : -9223372036854775808 ≤ x) (h2 : x ≤ 9223372036854775807) :
    (Instr.lookup 77 v (.int .i64 x) false).run Tryz.prog w = .ok (.int .u16 ((atU U x : Nat) : Int)) w := by
  rcases h with ⟨rfl, rfl⟩ | ⟨b, n, D, rfl, hown, hF⟩
  · rw [Maps.look_nil false mlaw Tryz.underlying77 (mzero w) (key_int h1 h2)]
    simp [atU]
  · obtain ⟨c, hrun, hat, hwc⟩ := hown.lookup_int mlaw Tryz.underlying77 Tryz.underlying75 (mzero w) (key_int h1 h2)
    rw [hrun]
    have := (fits_at hF x).symm.trans hat
    simp only [lv, DataW.lit.injEq, Lit.int.injEq, true_and] at this
    rw [this]
theorem MapU.look_ok {w : World} {v : Value} {U : List Nat} (h : MapU w v U) {x : Int} (h1 : -9223372036854775808 ≤ x) (h2 : x ≤ 9223372036854775807) :
    (Instr.lookup 77 v (.int .i64 x) true).run Tryz.prog w = .ok (.tuple #[.int .u16 ((atU U x : Nat) : Int), .bool (decide (0 ≤ x ∧ x < U.length))]) w := by
  rcases h with ⟨rfl, rfl⟩ | ⟨b, n, D, rfl, hown, hF⟩
  · rw [Maps.look_nil true mlaw Tryz.underlying77 (mzero w) (key_int h1 h2)]
    have : decide (0 ≤ x ∧ x < (([] : List Nat).length : Int)) = false := by first | (simp; done) | (simp; omega)
    rw [this]
    simp [atU]
  · obtain ⟨v, ps, hrun, hv⟩ := hown.look_ok mlaw Tryz.underlying77 (mzero w) (plainElem_int Tryz.underlying75 (by decide)) (key_int h1 h2)
    obtain ⟨c, rfl, hc, hwc⟩ := plainElem_int_inv Tryz.underlying75 hv
    rw [hrun, fits_has hF]
    have := (fits_at hF x).symm.trans (congrArg Prod.fst hc)
    simp only [lv, DataW.lit.injEq, Lit.int.injEq, true_and] at this
    rw [this]
theorem MapU.len {w : World} {v : Value} {U : List Nat} (h : MapU w v U) (ty : TypeId) : (Builtin.len_ #[77] ty #[v]).run Tryz.prog w = .ok (.int .i64 (U.length : Nat)) w := by
  rcases h with ⟨rfl, rfl⟩ | ⟨b, n, D, rfl, hown, hF⟩
  · rw [Maps.len_nil Tryz.underlying77]; rfl
  · rw [hown.len Tryz.underlying77, hF.2.1]
theorem owns_below {w w' : World} {P : Program} {k : TypeId} {R : Value → Option (DataW Unit × List MemPlace)} {b n : Nat} {D : DataW Unit} (h : w.ownsMap P k R b n D) (hb : Below w.heap.size w w') : w'.ownsMap P k R b n D :=
  h.kept (row := none) ⟨hb.os, hb.tape, hb.output, hb.size, fun k hk _ => hb.block k hk⟩ (by simp)
theorem MapU.below {w w' : World} {v : Value} {U : List Nat} (h : MapU w v U) (hb : Below w.heap.size w w') : MapU w' v U := by
  rcases h with ⟨rfl, rfl⟩ | ⟨b, n, D, rfl, hown, hF⟩
  · exact .inl ⟨rfl, rfl⟩
  · exact .inr ⟨b, n, D, rfl, owns_below hown hb, hF⟩
/-- impl.isIndex -/
theorem isIndex_any (x : Int) (n : Nat) (r : Bool) (hr : decide (0 ≤ x ∧ x < n) = r) (w : World) :
    Calls Tryz.prog 175 #[.int .i64 x, .int .i64 n] w fun e w' => e = .returned (.bool r) ∧ w = w' := by
  have HR := Lib.hid hr
  clear hr
  by_cases h1 : 0 ≤ x
  · by_cases h2 : x < n
    · have HQ : Hid (r = true) := Lib.hid (by rw [← HR.out]; simp; omega)
      go_enter Tryz.func175, Tryz.ntmps175
      go_wp2
      go_ret
      exact ⟨ret_bool (by first | exact HQ.out.symm | (rw [HQ.out]; simp; omega)), rfl⟩
    · have HQ : Hid (r = false) := Lib.hid (by rw [← HR.out]; simp; omega)
      go_enter Tryz.func175, Tryz.ntmps175
      go_wp2
      go_ret
      exact ⟨ret_bool (by first | exact HQ.out.symm | (rw [HQ.out]; simp; omega)), rfl⟩
  · have HQ : Hid (r = false) := Lib.hid (by rw [← HR.out]; simp; omega)
    go_enter Tryz.func175, Tryz.ntmps175
    go_wp2
    go_ret
    exact ⟨ret_bool (by first | exact HQ.out.symm | (rw [HQ.out]; simp; omega)), rfl⟩
/-- impl.areSubs -/
theorem areSubs_any (n : Nat) (_hn : n ≤ 1000) (Q : List (Int × Int)) (h64 : In64 Q) (v : Value) (r : Bool) (hr : subsOk n Q = r) (w : World) (h : HasP w v Q) :
    Calls Tryz.prog 135 #[v, .int .i64 n] w fun e w' => e = .returned (.bool r) ∧ Below w.heap.size w w' := by
  obtain ⟨m, hm⟩ : ∃ m, m = Q.length := ⟨_, rfl⟩
  obtain ⟨A, c, rfl, h⟩ := h.shape hm.symm
  have hl := h.len.2
  have HH := Lib.hid h
  have HR := Lib.hid hr
  have HM := Lib.hid hm
  have H64 := Lib.hid h64
  clear h hr hm h64
  by_cases hbig : 16 < m
  · have HQ : Hid (r = false) := Lib.hid (by rw [← HR.out]; have := HM.out; simp [subsOk]; omega)
    go_enter Tryz.func135, Tryz.ntmps135
    go_wp2
    go_ret
    exact ⟨ret_bool HQ.out.symm, Below.refl _ _⟩
  · have hdb : decide ((16 : Int) < (m : Int)) = false := by simp; omega
    go_enter Tryz.func135, Tryz.ntmps135
    go_wp2
    go_loopw [6, 12] (fun _ i wr => ∃ k : Nat, k ≤ m ∧ i = .int .i64 k ∧ Hid (subsTo n Q k = true) ∧ Below w.heap.size w wr) (fun _ i _ => m - (intOf i).toNat)
    case atStart => exact ⟨0, Nat.zero_le _, rfl, Lib.hid rfl, Below.refl _ _⟩
    case round =>
      obtain ⟨k, hk, rfl, HX, hbel⟩ := hrel
      by_cases hlt : k < m
      · obtain ⟨g, o, rfl, hg, hcell, hcell2⟩ := HH.out.cellAt hlt
        rw [← hbel.cell (p := ⟨g, o + k * 2, none⟩) hg] at hcell
        rw [← hbel.cell (p := ⟨g, o + k * 2 + 1, none⟩) hg] at hcell2
        have hin := H64.out.get k
        have HB : Hid (subOk n (Q.getD k (0, 0)) = false → r = false) := Lib.hid (by intro h; rw [← HR.out, subsOk, subs_bad n Q k (by have := HM.out; omega) h]; simp)
        have HG : Hid (subOk n (Q.getD k (0, 0)) = true → subsTo n Q (k + 1) = true) := Lib.hid (by intro h; rw [subsTo_succ n Q k (by have := HM.out; omega), HX.out, h]; rfl)
        have HS : Hid (subOk n (Q.getD k (0, 0)) = (decide (0 ≤ (Q.getD k (0, 0)).1 ∧ (Q.getD k (0, 0)).1 < n) && decide (0 ≤ (Q.getD k (0, 0)).2 ∧ (Q.getD k (0, 0)).2 < n) && decide ((Q.getD k (0, 0)).1 ≠ (Q.getD k (0, 0)).2))) := Lib.hid rfl
        obtain ⟨s, hs⟩ : ∃ s, s = subOk n (Q.getD k (0, 0)) := ⟨_, rfl⟩
        rw [← hs] at HB HG HS
        obtain ⟨x, hx⟩ : ∃ x, x = (Q.getD k (0, 0)).1 := ⟨_, rfl⟩
        obtain ⟨y, hy⟩ : ∃ y, y = (Q.getD k (0, 0)).2 := ⟨_, rfl⟩
        rw [← hx, ← hy] at hin HS
        rw [← hx] at hcell
        rw [← hy] at hcell2
        clear hs hx hy
        cases h1 : decide (0 ≤ x ∧ x < (n : Int)) with
        | false =>
          have HI := Lib.hid (fun W => isIndex_any x n false h1 W)
          have HQ : Hid (r = false) := Lib.hid (HB.out (by rw [HS.out, h1]; rfl))
          clear h1
          go_wp2_with (go_at_call 175; refine (HI.out _).mono ?_; rintro e w1 ⟨rfl, rfl⟩)
          go_ret
          refine ⟨ret_bool HQ.out.symm, ?_⟩
          (repeat (first | exact hbel | refine Below.setCell ?_ (by first | exact hbel.size | (have := hbel.size; simp; omega)) _ | refine Below.alloc ?_ (by first | exact hbel.size | (have := hbel.size; simp; omega)) _))
        | true =>
          have HI := Lib.hid h1
          cases h2 : decide (0 ≤ y ∧ y < (n : Int)) with
          | false =>
            have HI2 := Lib.hid h2
            have HQ : Hid (r = false) := Lib.hid (HB.out (by rw [HS.out, h1, h2]; rfl))
            clear h1 h2
            go_wp2_with (go_at_call 175; refine (isIndex_any _ n _ (by first | exact HI.out | exact HI2.out) _).mono ?_; rintro e w1 ⟨rfl, rfl⟩)
            go_ret
            refine ⟨ret_bool HQ.out.symm, ?_⟩
            (repeat (first | exact hbel | refine Below.setCell ?_ (by first | exact hbel.size | (have := hbel.size; simp; omega)) _ | refine Below.alloc ?_ (by first | exact hbel.size | (have := hbel.size; simp; omega)) _))
          | true =>
            have HI2 := Lib.hid h2
            by_cases h3 : x = y
            · have HQ : Hid (r = false) := Lib.hid (HB.out (by rw [HS.out, h1, h2, h3]; simp))
              have he : (x == y) = true := by simpa using h3
              clear h1 h2 h3
              go_wp2_with (go_at_call 175; refine (isIndex_any _ n _ (by first | exact HI.out | exact HI2.out) _).mono ?_; rintro e w1 ⟨rfl, rfl⟩)
              go_ret
              refine ⟨ret_bool HQ.out.symm, ?_⟩
              (repeat (first | exact hbel | refine Below.setCell ?_ (by first | exact hbel.size | (have := hbel.size; simp; omega)) _ | refine Below.alloc ?_ (by first | exact hbel.size | (have := hbel.size; simp; omega)) _))
            · have HX2 : Hid (subsTo n Q (k + 1) = true) := Lib.hid (HG.out (by rw [HS.out, h1, h2]; simpa using h3))
              have he : (x == y) = false := by simpa using h3
              clear h1 h2 h3
              go_wp2_with (go_at_call 175; refine (isIndex_any _ n _ (by first | exact HI.out | exact HI2.out) _).mono ?_; rintro e w1 ⟨rfl, rfl⟩)
              go_roundw
              case rel =>
                refine ⟨k + 1, by omega, by go_num, HX2, ?_⟩
                (repeat (first | exact hbel | refine Below.setCell ?_ (by first | exact hbel.size | (have := hbel.size; simp; omega)) _ | refine Below.alloc ?_ (by first | exact hbel.size | (have := hbel.size; simp; omega)) _))
              case measure => simp [intOf]; omega
      · obtain rfl : k = m := by omega
        have HQ : Hid (r = true) := Lib.hid (by
          rw [← HR.out, subsOk]
          have h := HX.out
          rw [subsTo, List.take_of_length_le (by have := HM.out; omega)] at h
          rw [h, ← HM.out]; simp; omega)
        go_wp2
        go_ret
        exact ⟨ret_bool HQ.out.symm, hbel⟩
/-- a look-up at the operation -/
theorem wpList_lookupU (w : World) {ops : Array Oper} {rest : List Oper} {o : Oper} {a : Act} {Q : Exit → Act → World → Prop}
    (hg : o.guard = none) (m x : Operand) (hop : o.op = Op.lookup 77 m x false) {v : Value} {U : List Nat} (hm : a.eval m = v) (hM : MapU w v U)
    (key : Int) (hx : a.eval x = .int .i64 key) (h1 : -9223372036854775808 ≤ key) (h2 : key ≤ 9223372036854775807)
    (hK : wpList Tryz.prog ops Q rest (a.put o.dst (.int .u16 ((atU U key : Nat) : Int))) w) : wpList Tryz.prog ops Q (o :: rest) a w := by
  refine wpList_plain hg fun K' hK' => ?_
  have hrun := hM.look h1 h2
  unfold Oper.wp
  simp [execOp, hop, hm, hx, hrun, Result.andThen]
  exact hK' _ _ hK
theorem pe_u16 (n : Nat) (h : n < 65536) : plainElem (H := Unit) Tryz.prog 75 (.int .u16 (n : Int)) = some (lv n, []) := plainElem_int Tryz.underlying75 (WalkArith.wf_u16 (by omega))
theorem ident_succ (k : Nat) : ident (k + 1) = ident k ++ [2 ^ k] := by simp [ident, List.range_succ]
/-- impl.closePairs -/
theorem closePairs_any (n : Nat) (hn : n ≤ 16) (Q : List (Int × Int)) (hQ : Q.length ≤ 32) (hin : PIn n Q) (v : Value) (w : World) (h : HasP w v Q) :
    Calls Tryz.prog 136 #[.int .i64 n, v] w fun e w' => ∃ b, e = .returned (.map (some b)) ∧ MapU w' (.map (some b)) (clo n (prs Q)) ∧ Below w.heap.size w w' := by
  obtain ⟨m, hm⟩ : ∃ m, m = Q.length := ⟨_, rfl⟩
  obtain ⟨A, c, rfl, h⟩ := h.shape hm.symm
  have hl := h.len.2
  rw [← hm] at hQ
  have HH := Lib.hid h
  have HM := Lib.hid hm
  have HIN := Lib.hid hin
  have HWID := Lib.hid (fun k (hk : k < 16) W => nwith_any 0 k (by omega) hk W)
  clear h hm hin
  have hmm := @run_makeMap Tryz.prog
  go_enter Tryz.func136, Tryz.ntmps136
  go_wp2
  clear hmm
  go_loopw [6, 11] (fun _ i wr => ∃ k : Nat, k ≤ n ∧ i = .int .i64 k ∧ (∃ D, wr.ownsMap Tryz.prog 3 (plainElem (H := Unit) Tryz.prog 75) w.heap.size k D ∧ Fits D (ident k)) ∧ Below w.heap.size w wr) (fun _ i _ => n - (intOf i).toNat)
  case atStart => exact ⟨0, Nat.zero_le _, rfl, ⟨_, World.ownsMap_made _ _ _ _, fits_nil⟩, (Below.refl _ _).alloc (Nat.le_refl _) _⟩
  case round =>
    obtain ⟨k, hk, rfl, ⟨D, hown, hF⟩, hbel⟩ := hrel
    by_cases hlt : k < n
    · have hp : 2 ^ k < 65536 := pow_lt (by omega)
      have HOWN := Lib.hid hown
      clear hown
      go_wp2_with (first
        | (go_at_call 95; refine (HWID.out k (by omega) _).mono ?_; rintro e w1 ⟨rfl, rfl⟩)
        | (at_mapUpdate; refine wpList_mapUpdate_own _ rfl _ _ _ 77 rfl 3 75 mlaw Tryz.underlying77 _ w.heap.size k _ rfl HOWN.out (by unfold maxLen; omega) _ _ _ rfl rfl (key_int (by omega) (by omega)) (lv (2 ^ k)) [] ?_ ?_))
      · show plainElem _ _ (Value.int .u16 ((2 : Int) ^ k)) = _
        rw [show ((2 : Int) ^ k) = ((2 ^ k : Nat) : Int) by simp]; exact pe_u16 _ hp
      intro w2 hown2 hgrow2
      have HB := hbel.grown hgrow2 hbel.size (by intro j hj; cases hj; exact Nat.le_refl _)
      have HF2 : Hid (Fits (D.put (lk k) (lv (2 ^ k))) (ident (k + 1))) := Lib.hid (by
        have := fits_push hF (2 ^ k)
        rw [ident_len] at this
        rw [ident_succ]; exact this)
      clear hgrow2 hbel
      go_wp2
      go_roundw
      case rel => exact ⟨k + 1, by omega, by go_num, ⟨_, hown2, HF2.out⟩, HB⟩
      case measure => simp [intOf]; omega
    · obtain rfl : k = n := by omega
      clear hlt
      go_wp2
      go_loopw [8, 20, 22, 23, 24, 25, 26, 27, 28, 29, 30, 31, 32, 33, 34, 35, 36, 37] (fun _ i _ _ _ _ _ _ _ _ _ _ _ _ _ _ _ _ wr => ∃ t : Nat, t ≤ k ∧ i = .int .i64 t ∧ (∃ D q, q ≤ 16 + t * 32 ∧ wr.ownsMap Tryz.prog 3 (plainElem (H := Unit) Tryz.prog 75) w.heap.size q D ∧ Fits D (iterU (prs Q) (ident k) t)) ∧ Below w.heap.size w wr) (fun _ i _ _ _ _ _ _ _ _ _ _ _ _ _ _ _ _ _ => k - (intOf i).toNat)
      case atStart => exact ⟨0, Nat.zero_le _, rfl, ⟨D, k, by omega, hown, hF⟩, hbel⟩
      case round =>
        obtain ⟨t, ht, rfl, ⟨D2, q, hq, hown2, hF2⟩, hbel2⟩ := hrel
        clear hown hF hbel
        by_cases hlt : t < k
        · go_wp2
          go_loopw [8, 24, 25, 26, 27, 28, 29, 30, 31, 32, 33, 34, 35, 36, 37] (fun _ i _ _ _ _ _ _ _ _ _ _ _ _ _ wx => ∃ j : Nat, j ≤ m ∧ i = .int .i64 j ∧ (∃ D q, q ≤ 16 + t * 32 + j ∧ wx.ownsMap Tryz.prog 3 (plainElem (H := Unit) Tryz.prog 75) w.heap.size q D ∧ Fits D (midU k (prs Q) t j)) ∧ Below w.heap.size w wx) (fun _ i _ _ _ _ _ _ _ _ _ _ _ _ _ _ => m - (intOf i).toNat)
          case atStart => exact ⟨0, Nat.zero_le _, rfl, ⟨D2, q, by omega, hown2, by rw [midU_zero]; exact hF2⟩, hbel2⟩
          case round =>
            obtain ⟨j, hj, rfl, ⟨D3, q3, hq3, hown3, hF3⟩, hbel3⟩ := hrel
            clear hown2 hF2 hbel2
            by_cases hlt3 : j < m
            · obtain ⟨g, o, rfl, hg, hcell, hcell2⟩ := HH.out.cellAt hlt3
              rw [← hbel3.cell (p := ⟨g, o + j * 2, none⟩) hg] at hcell
              rw [← hbel3.cell (p := ⟨g, o + j * 2 + 1, none⟩) hg] at hcell2
              have hin := HIN.out.get (k := j) (by have := HM.out; omega)
              have hs := midU_succ k (prs Q) t j (by rw [prs_len]; have := HM.out; omega)
              rw [prs_get] at hs
              have hl1 := midU_lt HIN.out.inR t j (Q.getD j (0, 0)).1.toNat
              have hl2 := midU_lt HIN.out.inR t j (Q.getD j (0, 0)).2.toNat
              have hpk : 2 ^ k ≤ 65536 := Nat.pow_le_pow_right (n := 2) (by decide) (show k ≤ 16 by omega)
              have HLEN := Lib.hid (midU_len k (prs Q) t j)
              obtain ⟨x, hx⟩ : ∃ x, x = (Q.getD j (0, 0)).1 := ⟨_, rfl⟩
              obtain ⟨y, hy⟩ : ∃ y, y = (Q.getD j (0, 0)).2 := ⟨_, rfl⟩
              rw [← hx, ← hy] at hin hs
              rw [← hx] at hcell hl1
              rw [← hy] at hcell2 hl2
              obtain ⟨x', rfl⟩ : ∃ x' : Nat, x = (x' : Int) := ⟨x.toNat, by omega⟩
              obtain ⟨y', rfl⟩ : ∃ y' : Nat, y = (y' : Int) := ⟨y.toNat, by omega⟩
              simp only [Int.toNat_natCast] at hs hl1 hl2
              obtain ⟨U, hU⟩ : ∃ U, U = midU k (prs Q) t j := ⟨_, rfl⟩
              rw [← hU] at hs hl1 hl2 hF3 HLEN
              have HS : Hid (midU k (prs Q) t (j + 1) = U.set x' (U.getD x' 0 ||| U.getD y' 0)) := Lib.hid (by rw [hs, stepU])
              have hor := or_u16 (U.getD x' 0) (U.getD y' 0) (by omega) (by omega)
              have hM : MapU wr (.map (some w.heap.size)) U := .inr ⟨_, _, _, rfl, hown3, hF3⟩
              have HMU := Lib.hid hM
              have HOWN := Lib.hid hown3
              have hax := atU_nat U x'
              have hay := atU_nat U y'
              obtain ⟨a, ha⟩ : ∃ a, a = U.getD x' 0 := ⟨_, rfl⟩
              obtain ⟨b, hb⟩ : ∃ b, b = U.getD y' 0 := ⟨_, rfl⟩
              rw [← ha, ← hb] at hor HS
              rw [← ha] at hl1 hax
              rw [← hb] at hl2 hay
              have hab : a ||| b < 65536 := Nat.or_lt_two_pow (n := 16) (by omega) (by omega)
              clear hx hy hs hU ha hb hM hown3
              go_wp2_with (first
                | (at_lookup; refine wpList_lookupU _ rfl _ _ rfl rfl (HMU.out.below (by (repeat (first | exact Below.refl _ _ | refine Below.setCell ?_ (by simp) _ | refine Below.alloc ?_ (by simp) _)))) _ rfl (by omega) (by omega) ?_)
                | (at_mapUpdate; refine wpList_mapUpdate_own _ rfl _ _ _ 77 rfl 3 75 mlaw Tryz.underlying77 _ w.heap.size q3 _ rfl (owns_below HOWN.out (by (repeat (first | exact Below.refl _ _ | refine Below.setCell ?_ (by simp) _ | refine Below.alloc ?_ (by simp) _)))) (by unfold maxLen; omega) _ _ _ rfl rfl (key_int (by omega) (by omega)) (lv (a ||| b)) [] ?_ ?_))
              · show plainElem _ _ (Value.int .u16 ((a ||| b : Nat) : Int)) = _
                exact pe_u16 _ hab
              intro w2 hown4 hgrow2
              have HB : Below w.heap.size w w2 := Below.grown (w := _) (by repeat (first | exact hbel3 | refine Below.setCell ?_ (by first | exact hbel3.size | (have := hbel3.size; simp; omega)) _ | refine Below.alloc ?_ (by first | exact hbel3.size | (have := hbel3.size; simp; omega)) _)) hgrow2 (by have := hbel3.size; simp; omega) (by intro j hj; cases hj; exact Nat.le_refl _)
              have HF4 : Hid (Fits (D3.put (lk x') (lv (a ||| b))) (midU k (prs Q) t (j + 1))) := Lib.hid (by rw [HS.out]; exact fits_set hF3 x' (by have := HLEN.out; omega) _)
              clear hgrow2 hF3
              go_wp2
              go_roundw
              case rel => exact ⟨j + 1, by omega, by go_num, ⟨_, _, by omega, hown4, HF4.out⟩, HB⟩
              case measure => simp [intOf]; omega
            · obtain rfl : j = m := by omega
              have HF4 : Hid (Fits D3 (iterU (prs Q) (ident k) (t + 1))) := Lib.hid (by rw [← midU_last, prs_len, ← HM.out]; exact hF3)
              clear hF3
              go_wp2
              go_roundw
              case rel => exact ⟨t + 1, by omega, by go_num, ⟨_, q3, by omega, hown3, HF4.out⟩, hbel3⟩
              case measure => simp [intOf]; omega
        · obtain rfl : t = k := by omega
          go_wp2
          go_ret
          exact ⟨_, rfl, .inr ⟨_, _, _, rfl, hown2, hF2⟩, hbel2⟩
end Go.Proofs.YtjejdcehlckfhaaGreat.sortp
