/-
  THE DRAWS: the cursor, and what its functions give: some number in a range, some element of a list.
-/
import Derived.Test.YtkkmjaggebjcbaaMem
import Derived.Deep.RegionHeld3
import Derived.Deep.QuietTactic
import Derived.BigQuiet
import Derived.OpenShut
import Derived.ChangeSlices
namespace Go.Proofs.Ytkkmjaggebjcbaa.draw
open Go.ChangeShapes Go.WideShapes Go.ChangeAt Go.RowKit
open mem

theorem and30 (n : Int) : bits .and .i64 n 1073741823 = n % 1073741824 := by
  have h255 : (BitVec.ofInt 64 1073741823).toNat = 2 ^ 30 - 1 := by decide
  have key : (BitVec.ofInt 64 n &&& BitVec.ofInt 64 1073741823).toNat = (n % ((2 ^ 64 : Nat) : Int)).toNat % 2 ^ 30 := by
    rw [BitVec.toNat_and, BitVec.toNat_ofInt, h255, Nat.and_two_pow_sub_one_eq_mod]
  show IntKind.i64.wrap ((BitVec.ofInt 64 n &&& BitVec.ofInt 64 1073741823).toNat : Nat) = n % 1073741824
  rw [key, IntKind.wrap_i64]
  omega
theorem and255 (n : Int) : bits .and .i64 n 255 = n % 256 := by
  have h255 : (BitVec.ofInt 64 255).toNat = 2 ^ 8 - 1 := by decide
  have key : (BitVec.ofInt 64 n &&& BitVec.ofInt 64 255).toNat = (n % ((2 ^ 64 : Nat) : Int)).toNat % 2 ^ 8 := by
    rw [BitVec.toNat_and, BitVec.toNat_ofInt, h255, Nat.and_two_pow_sub_one_eq_mod]
  show IntKind.i64.wrap ((BitVec.ofInt 64 n &&& BitVec.ofInt 64 255).toNat : Nat) = n % 256
  rw [key, IntKind.wrap_i64]
  omega

/-- the bytes of a draw: they lie below B -/
def Code (B : Nat) (W0 : World) (v : Value) (n : Nat) : Prop :=
  ∃ A cap, v = .slice A n cap ∧ n ≤ 1048576 ∧ n ≤ cap ∧ ∀ j, j < n → ∃ g o b, A = some ⟨g, o, none⟩ ∧ g < B ∧ W0.cell? ⟨g, o + j, none⟩ = some (.int .u8 b) ∧ 0 ≤ b ∧ b ≤ 255
/-- the cursor in block g -/
def Cur (B : Nat) (W0 : World) (v : Value) (n : Nat) (g : Nat) (w : World) : Prop :=
  B ≤ g ∧ Below B W0 w ∧ ∃ (i : Nat) (h : Int), i ≤ n ∧ w.heap[g]? = some (.cells #[v, .int .i64 i, .int .i64 h] 54 (0, 0))

theorem cells_set {w : World} {g : Nat} {cs : Array Value} {t : TypeId} (h : w.heap[g]? = some (.cells cs t (0, 0))) (j : Nat) (u : Value) (n : Nat) :
    ((w.setCell ⟨g, j, none⟩ u).drewN n).heap[g]? = some (.cells (cs.setIfInBounds j u) t (0, 0)) := heap_setCell_same w g j cs t u h
theorem grown_drewN {a w : World} {row : Option Nat} (h : a.grownBy w row) (n : Nat) : a.grownBy (w.drewN n) row := ⟨h.os, h.tape, h.output, h.size, h.block⟩
theorem Cur.below {B n g : Nat} {W0 w : World} {v : Value} (h : Cur B W0 v n g w) : Below B W0 w := h.2.1
theorem Cur.keep {B n g : Nat} {W0 w w' : World} {v : Value} (h : Cur B W0 v n g w) (hb : Below w.heap.size w w') (hB : B ≤ w.heap.size) : Cur B W0 v n g w' := by
  obtain ⟨h1, h2, i, hh, hi, hg⟩ := h
  exact ⟨h1, h2.trans (hb.mono hB), i, hh, hi, (hb.block g (Array.getElem?_eq_some_iff.1 hg).1).trans hg⟩
theorem Cur.lt {B n g : Nat} {W0 w : World} {v : Value} (h : Cur B W0 v n g w) : B ≤ g ∧ g < w.heap.size := by
  obtain ⟨h1, h2, i, hh, hi, hg⟩ := h
  exact ⟨h1, (Array.getElem?_eq_some_iff.1 hg).1⟩

/-- spec.l1Byte -/
theorem byte_any {B n g : Nat} {W0 : World} {v : Value} (hcode : Code B W0 v n) (w : World) (h : Cur B W0 v n g w) :
    Calls Try.prog 41 #[.pointer (some ⟨g, 0, none⟩)] w fun e w' => ∃ x : Int, e = .returned (.int .i64 x) ∧ 0 ≤ x ∧ x ≤ 255 ∧ Cur B W0 v n g w' ∧ w.grownBy w' (some g) := by
  obtain ⟨A, cap, rfl, hn, hnc, hcells⟩ := hcode
  obtain ⟨hBg, hbel, i, hh, hi, hheap⟩ := h
  have c0 : w.cell? ⟨g, 0, none⟩ = some (.slice A n cap) := cell_of_row w g 0 _ _ _ hheap
  have c1 : w.cell? ⟨g, 1, none⟩ = some (.int .i64 i) := cell_of_row w g 1 _ _ _ hheap
  have c2 : w.cell? ⟨g, 2, none⟩ = some (.int .i64 hh) := cell_of_row w g 2 _ _ _ hheap
  have f0 : w.frozen? ⟨g, 0, none⟩ = false := frozen_of_row w g 0 _ _ hheap
  have f1 : w.frozen? ⟨g, 1, none⟩ = false := frozen_of_row w g 1 _ _ hheap
  have f2 : w.frozen? ⟨g, 2, none⟩ = false := frozen_of_row w g 2 _ _ hheap
  have ha := and255
  have HH := Lib.hid hheap
  clear hheap
  go_enter Try.func41, Try.ntmps41
  by_cases hlt : i < n
  · obtain ⟨gc, oc, b, rfl, hgc, hcb, hb0, hb1⟩ := hcells i hlt
    rw [← hbel.cell (p := ⟨gc, oc + i, none⟩) hgc] at hcb
    have hne : gc ≠ g := by omega
    have hne2 : g ≠ gc := by omega
    clear hcells
    go_wp2
    go_quiet (fail)
    go_wp2
    go_quiet (fail)
    go_wp2
    go_quiet (fail)
    go_wp2
    go_ret
    refine ⟨_, rfl, by omega, by omega, ⟨hBg, ?_, i + 1, _, by omega, cells_set (cells_set HH.out _ _ _) _ _ 0⟩, ?_⟩
    · repeat (first | exact hbel | refine below_drewN ?_ _ | refine Below.setCell ?_ hBg _)
    · repeat (first | exact World.grownBy.refl _ _ | refine grown_set ?_ _ _ | refine grown_drewN ?_ _)
  · clear hcells
    have hge : decide (i < n) = false := by simp; omega
    go_wp2
    go_quiet (fail)
    go_wp2
    go_quiet (fail)
    go_wp2
    go_ret
    refine ⟨_, rfl, by omega, by omega, ⟨hBg, ?_, i, _, by omega, cells_set HH.out _ _ 0⟩, ?_⟩
    · repeat (first | exact hbel | refine below_drewN ?_ _ | refine Below.setCell ?_ hBg _)
    · repeat (first | exact World.grownBy.refl _ _ | refine grown_set ?_ _ _ | refine grown_drewN ?_ _)

/-- what a step of the cursor leaves -/
def Step (B : Nat) (W0 : World) (v : Value) (n g : Nat) (w w' : World) : Prop := Cur B W0 v n g w' ∧ w.grownBy w' (some g)
theorem Step.trans {B n g : Nat} {W0 a b c : World} {v : Value} (h : Step B W0 v n g a b) (k : Step B W0 v n g b c) : Step B W0 v n g a c :=
  ⟨k.1, ⟨k.2.os.trans h.2.os, k.2.tape.trans h.2.tape, k.2.output.trans h.2.output, Nat.le_trans h.2.size k.2.size, fun i hi hne => (k.2.block i (Nat.lt_of_lt_of_le hi h.2.size) hne).trans (h.2.block i hi hne)⟩⟩

theorem Step.alloc {B n g : Nat} {W0 a b : World} {v : Value} (h : Step B W0 v n g a b) (o : Obj) : Step B W0 v n g a (b.alloc o) := by
  have hk := h.1.lt
  have hb : Below b.heap.size b (b.alloc o) := (Below.refl _ _).alloc (Nat.le_refl _) o
  exact ⟨h.1.keep hb (by omega), grown_below h.2 hb⟩
theorem Step.refl {B n g : Nat} {W0 a : World} {v : Value} (h : Cur B W0 v n g a) : Step B W0 v n g a a := ⟨h, World.grownBy.refl _ _⟩
/-- all that lay below the cursor is as it was -/
theorem Step.below {B n g : Nat} {W0 a b : World} {v : Value} (h : Step B W0 v n g a b) {C : Nat} (h1 : C ≤ g) (h2 : C ≤ a.heap.size) : Below C a b := below_grown h.2 h1 h2

/-- spec.l1Below -/
theorem below_any {B n g : Nat} {W0 : World} {v : Value} (hcode : Code B W0 v n) (m : Int) (hm : 0 < m) (hm2 : m ≤ 1000000000) (w : World) (h : Cur B W0 v n g w) :
    Calls Try.prog 33 #[.pointer (some ⟨g, 0, none⟩), .int .i64 m] w fun e w' => ∃ x : Int, e = .returned (.int .i64 x) ∧ 0 ≤ x ∧ x < m ∧ Step B W0 v n g w w' := by
  have CB := Lib.hid (fun W hW => byte_any (g := g) hcode W hW)
  have HC := Lib.hid h
  clear h hcode
  by_cases h256 : m ≤ 256
  · go_enter Try.func33, Try.ntmps33
    go_wp2_with fail
    refine (CB.out _ HC.out).mono ?_; rintro e w1 ⟨x, rfl, hx0, hx1, hc1, hg1⟩
    have HS : Hid (Step B W0 v n g w w1) := Lib.hid ⟨hc1, hg1⟩
    clear hc1 hg1
    have hmod0 := Int.emod_nonneg x (show m ≠ 0 by omega)
    have hmod1 := Int.emod_lt_of_pos x hm
    have hmz : (m == 0) = false := by simp; omega
    go_wp2
    go_ret
    refine ⟨_, rfl, ?_, ?_, HS.out⟩
    · first | exact hmod0 | (rw [Int.tmod_eq_emod_of_nonneg hx0]; exact hmod0)
    · first | exact hmod1 | (rw [Int.tmod_eq_emod_of_nonneg hx0]; exact hmod1)
  · go_enter Try.func33, Try.ntmps33
    go_wp2_with fail
    refine (CB.out _ HC.out).mono ?_; rintro e w1 ⟨x1, rfl, hx0, hx1, hc1, hg1⟩
    have HS1 : Hid (Step B W0 v n g w w1) := Lib.hid ⟨hc1, hg1⟩
    clear hc1 hg1
    go_wp2_with fail
    refine (CB.out _ HS1.out.1).mono ?_; rintro e w2 ⟨x2, rfl, hx20, hx21, hc2, hg2⟩
    have HS2 : Hid (Step B W0 v n g w w2) := Lib.hid (HS1.out.trans ⟨hc2, hg2⟩)
    clear hc2 hg2
    go_wp2_with fail
    refine (CB.out _ HS2.out.1).mono ?_; rintro e w3 ⟨x3, rfl, hx30, hx31, hc3, hg3⟩
    have HS3 : Hid (Step B W0 v n g w w3) := Lib.hid (HS2.out.trans ⟨hc3, hg3⟩)
    clear hc3 hg3
    go_wp2_with fail
    refine (CB.out _ HS3.out.1).mono ?_; rintro e w4 ⟨x4, rfl, hx40, hx41, hc4, hg4⟩
    have HS4 : Hid (Step B W0 v n g w w4) := Lib.hid (HS3.out.trans ⟨hc4, hg4⟩)
    clear hc4 hg4
    have hs0 : 0 ≤ x1 * 16777216 + x2 * 65536 + x3 * 256 + x4 := by omega
    have hmod0 := Int.emod_nonneg (x1 * 16777216 + x2 * 65536 + x3 * 256 + x4) (show m ≠ 0 by omega)
    have hmod1 := Int.emod_lt_of_pos (x1 * 16777216 + x2 * 65536 + x3 * 256 + x4) hm
    have hmz : (m == 0) = false := by simp; omega
    go_wp2
    go_ret
    refine ⟨_, rfl, ?_, ?_, HS4.out⟩
    · first | exact hmod0 | (rw [Int.tmod_eq_emod_of_nonneg hs0]; exact hmod0)
    · first | exact hmod1 | (rw [Int.tmod_eq_emod_of_nonneg hs0]; exact hmod1)

set_option maxRecDepth 20000 in
/-- spec.l1New -/
theorem new_any {B n : Nat} {W0 : World} {v : Value} (hcode : Code B W0 v n) (w : World) (hb : Below B W0 w) (hB : B ≤ w.heap.size) :
    Calls Try.prog 17 #[v] w fun e w' => ∃ g, e = .returned (.pointer (some ⟨g, 0, none⟩)) ∧ w.heap.size ≤ g ∧ Cur B W0 v n g w' ∧ Below w.heap.size w w' := by
  obtain ⟨A, cap, rfl, hn, hnc, hcells⟩ := hcode
  have ha := and30
  go_enter Try.func17, Try.ntmps17
  go_wp2
  go_loop [3, 4] (fun h i => ∃ (k : Nat) (H : Int), k ≤ n ∧ i = .int .i64 k ∧ h = .int .i64 H ∧ 0 ≤ H ∧ H ≤ 2147483647) (fun _ i => n - (intOf i).toNat)
  case atStart => exact ⟨0, _, Nat.zero_le _, rfl, rfl, by omega, by omega⟩
  case round =>
    obtain ⟨k, H, hk, rfl, rfl, hH0, hH1⟩ := hrel
    by_cases hlt : k < n
    · obtain ⟨gc, oc, b, rfl, hgc, hcb, hb0, hb1⟩ := hcells k hlt
      rw [← hb.cell (p := ⟨gc, oc + k, none⟩) hgc] at hcb
      clear hcells
      have HB := Lib.hid hb
      clear hb
      by_cases h4 : k < 4000
      · have hd1 : decide ((k : Int) < 4000) = true := by simp; omega
        go_wp2_with fail
        go_round
        case rel => exact ⟨k + 1, _, by omega, by go_num, rfl, by omega, by omega⟩
        case measure => simp [intOf]; omega
      · have hd1 : decide ((k : Int) < 4000) = false := by simp; omega
        go_wp2
        go_ret
        exact ⟨w.heap.size, rfl, Nat.le_refl _, ⟨hB, HB.out.alloc hB _, 0, H, Nat.zero_le _, heap_alloc_new w _⟩, (Below.refl _ _).alloc (Nat.le_refl _) _⟩
    · have HB := Lib.hid hb
      clear hb hcells
      go_wp2
      go_ret
      exact ⟨w.heap.size, rfl, Nat.le_refl _, ⟨hB, HB.out.alloc hB _, 0, H, Nat.zero_le _, heap_alloc_new w _⟩, (Below.refl _ _).alloc (Nat.le_refl _) _⟩

/-- spec.l1Once -/
theorem once_any {B n g : Nat} {W0 : World} {v : Value} (hcode : Code B W0 v n) (m : Int) (hm : 0 < m) (hm2 : m ≤ 1000000000) (w : World) (h : Cur B W0 v n g w) :
    Calls Try.prog 19 #[.pointer (some ⟨g, 0, none⟩), .int .i64 m] w fun e w' => ∃ x : Bool, e = .returned (.bool x) ∧ Step B W0 v n g w w' := by
  have CB := Lib.hid (fun W hW => below_any (g := g) hcode m hm hm2 W hW)
  have HC := Lib.hid h
  clear h hcode
  go_enter Try.func19, Try.ntmps19
  go_wp2_with fail
  refine (CB.out _ HC.out).mono ?_; rintro e w1 ⟨x, rfl, hx0, hx1, hs⟩
  have HS := Lib.hid hs
  clear hs
  go_wp2
  go_ret
  exact ⟨_, rfl, HS.out⟩

/-- spec.l1Pick -/
theorem pick_any {B n g : Nat} {W0 : World} {v : Value} (hcode : Code B W0 v n) (L : List Value) (hL : ∀ x ∈ L, ∃ s, x = .string s) (m : Nat) (hm0 : 0 < m) (hm : m ≤ 1000000) (u : Value) (base : Nat) (hgb : g < base) (w : World) (h : Cur B W0 v n g w)
    (hown : w.ownsRow base 9 1 u m L) :
    Calls Try.prog 32 #[.pointer (some ⟨g, 0, none⟩), u] w fun e w' => ∃ x, e = .returned x ∧ x ∈ L ∧ Step B W0 v n g w w' := by
  have CB := Lib.hid (fun W hW => below_any (g := g) hcode (m : Int) (by omega) (by omega) W hW)
  have HC := Lib.hid h
  have HO := Lib.hid hown
  clear h hcode
  obtain ⟨A, cap, rfl, hcap⟩ := own_slice hown
  clear hown
  go_enter Try.func32, Try.ntmps32
  go_wp2_with fail
  refine (CB.out _ HC.out).mono ?_; rintro e w1 ⟨x, rfl, hx0, hx1, hs⟩
  have HS := Lib.hid hs
  have hown1 := own_grown HO.out hs.2 hgb
  clear hs
  obtain ⟨k, rfl⟩ : ∃ k : Nat, x = k := ⟨x.toNat, by omega⟩
  have hlen : L.length = m := by have := HO.out.1; omega
  have hkm : k < L.length := by omega
  obtain ⟨gl, o, rfl, hgl, hc⟩ := (Has.of_own hown1).cellAt (j := k) (by omega)
  have HLEN := Lib.hid hlen
  clear hown1 hlen
  obtain ⟨s, hs⟩ := hL _ (List.getElem_mem hkm)
  have he : L.getD k undef = .string s := by simp [List.getD, List.getElem?_eq_getElem hkm, hs]
  have HM : Hid (Value.string s ∈ L) := Lib.hid (by rw [← hs]; exact List.getElem_mem hkm)
  rw [he] at hc
  have HLL := Lib.hid hL
  clear he hs hL
  go_wp2
  go_ret
  exact ⟨_, rfl, HM.out, HS.out⟩






/-- laws.big -/
theorem big_any {n : Nat} {A : Option Addr} {cap : Nat} (hn : n ≤ 9223372036854775807) (w : World) :
    Calls Try.prog 5 #[.slice A n cap] w fun e w' => e = .returned (.bool (decide (1048576 < n))) ∧ w = w' := by
  by_cases h : 1048576 < n
  · have hd : decide (1048576 < n) = true := by simpa using h
    rw [hd]
    clear hd
    go_enter Try.func5, Try.ntmps5
    go_wp2
    go_ret
    exact ⟨ret_bool (by simp; omega), rfl⟩
  · have hd : decide (1048576 < n) = false := by simpa using h
    rw [hd]
    clear hd
    go_enter Try.func5, Try.ntmps5
    go_wp2
    go_ret
    exact ⟨ret_bool (by simp; omega), rfl⟩

set_option maxRecDepth 100000 in
/-- the argument 'code' of a law -/
theorem code_open {H : Type} {enc : TypeId × Value → H} {W : World} {base : Nat} {v : Value} {d : DataW H} {p : List MemPlace}
    (hval : Value.okWide Try.prog W .any base 22 v) (hd : DataW.Trod enc Try.prog W 0 (fun _ => true) true 22 v d p) :
    ∃ A n cap, v = .slice A n cap ∧ n ≤ 9223372036854775807 ∧ (n ≤ 1048576 → Code W.heap.size W v n) := by
  obtain ⟨a0, len, cap, rfl⟩ := okWide_slice Try.underlying22 hval
  obtain ⟨fuel, hf⟩ := hd
  rcases open_ints Try.underlying22 Try.underlying5 (by kernel_rfl) hf with ⟨hcs, hx⟩ | ⟨a, len', cap', zs, hcs, _, hl, hm, hz, hx, hcell, hwz⟩
  · simp [Value.cells] at hcs
    obtain ⟨rfl, rfl, rfl⟩ := hcs
    exact ⟨none, 0, 0, rfl, by omega, fun _ => ⟨none, 0, rfl, by omega, Nat.le_refl _, fun j hj => by omega⟩⟩
  · simp [Value.cells] at hcs
    obtain ⟨rfl, rfl, rfl⟩ := hcs
    simp only [if_true] at hz
    unfold maxLen at hm
    refine ⟨some a, len, cap, rfl, by omega, fun hn => ⟨some a, cap, rfl, hn, hl, fun j hj => ?_⟩⟩
    have hc0 := hcell 0 (by omega)
    have hcj := hcell j (by omega)
    obtain ⟨b, o, sp⟩ := a
    have hsp : sp = none := by simpa [Addr.add] using World.cell?_spot hc0
    subst hsp
    rw [Addr.add_lit] at hcj
    have hw := hwz (zs.getD j 0) (by simp only [List.getD, List.getElem?_eq_getElem (show j < zs.length by omega), Option.getD_some]; exact List.getElem_mem _)
    have hr : 0 ≤ zs.getD j 0 ∧ zs.getD j 0 ≤ 255 := by simpa [Lit.wf, IntKind.min, IntKind.max, IntKind.signed, IntKind.bits] using hw
    exact ⟨b, o, _, rfl, World.block_lt_of_cell? W _ hc0, hcj, hr.1, hr.2⟩
end Go.Proofs.Ytkkmjaggebjcbaa.draw
