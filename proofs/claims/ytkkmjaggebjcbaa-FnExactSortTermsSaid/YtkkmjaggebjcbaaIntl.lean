/-
  CONTRACTS OF THE LAWS' OWN FUNCTIONS ON []int, and a []int that came in.
-/
import Derived.Test.YtkkmjaggebjcbaaSetm
import Derived.Test.YtkkmjaggebjcbaaSets
import Derived.Deep.QuietTactic
import Derived.BigQuiet
import Derived.OpenShut
import Derived.ChangeSlices
namespace Go.Proofs.Ytkkmjaggebjcbaa.intl
open Go.ChangeShapes Go.WideShapes Go.ChangeAt Go.RowKit
open mem setm

theorem takeI (L : List Int) (k : Nat) (h : k < L.length) : L.take (k + 1) = L.take k ++ [L.getD k 0] := by
  rw [List.take_succ_eq_append_getElem h]; simp [List.getD, List.getElem?_eq_getElem h]
theorem made_i64 (n : Nat) : (madeCells #[Value.int .i64 0] n).toList = ivs (List.replicate n 0) := by
  simp [ivs, madeCells, Nat.mod_one, List.map_const']


/-- the numbers k, k + 1, .. -/
def imarks (k n : Nat) : List Int := (List.range n).map fun i => ((k + i : Nat) : Int)
theorem imarks_len (k n : Nat) : (imarks k n).length = n := by simp [imarks]
theorem imarks_get (k n i : Nat) (h : i < n) : (imarks k n).getD i 0 = ((k + i : Nat) : Int) := by
  simp [imarks, List.getD, h]

set_option maxRecDepth 100000 in
/-- a []int that came in -/
theorem has_ints {H : Type} {enc : TypeId × Value → H} {W : World} {base : Nat} {v : Value} {d : DataW H} {p : List MemPlace}
    (hval : Value.okWide Try.prog W .any base 70 v) (hd : DataW.Trod enc Try.prog W 0 (fun _ => true) true 70 v d p) :
    ∃ L : List Int, Has W v (ivs L) ∧ ∀ x ∈ L, (Lit.int .i64 x).wf = true := by
  obtain ⟨a0, len, cap, rfl⟩ := okWide_slice Try.underlying70 hval
  obtain ⟨fuel, hf⟩ := hd
  rcases open_ints Try.underlying70 Try.underlying3 (by kernel_rfl) hf with ⟨hcs, hx⟩ | ⟨a, len', cap', zs, hcs, _, hl, hm, hz, hx, hcell, hwz⟩
  · simp [Value.cells] at hcs
    obtain ⟨rfl, rfl, rfl⟩ := hcs
    exact ⟨[], ⟨none, 0, rfl, Nat.le_refl _, by unfold maxLen; omega, fun j u hu => by simp [ivs] at hu⟩, fun x hx => by simp at hx⟩
  · simp [Value.cells] at hcs
    obtain ⟨rfl, rfl, rfl⟩ := hcs
    simp only [if_true] at hz
    have hlen : (zs.take len).length = len := by simp; omega
    refine ⟨zs.take len, ⟨some a, cap, by rw [ivs_len, hlen], by rw [ivs_len, hlen]; exact hl, hm, fun j u hu => ?_⟩, fun x hx => hwz x (List.mem_of_mem_take hx)⟩
    have hj : j < len := by have := (List.getElem?_eq_some_iff.1 hu).1; rw [ivs_len, hlen] at this; exact this
    have hc0 := hcell 0 (by omega)
    have hcj := hcell j (by omega)
    obtain ⟨b, o, sp⟩ := a
    have hsp : sp = none := by simpa [Addr.add] using World.cell?_spot hc0
    subst hsp
    have hu' : u = .int .i64 (zs.getD j 0) := by
      simp only [ivs, List.getElem?_map, List.getElem?_take, if_pos hj, List.getElem?_eq_getElem (show j < zs.length by omega)] at hu
      simp only [Option.map_some, Option.some.injEq] at hu
      rw [← hu]
      simp [List.getD, List.getElem?_eq_getElem (show j < zs.length by omega)]
    subst hu'
    refine ⟨b, o, rfl, World.block_lt_of_cell? W _ hc0, ?_⟩
    rw [Addr.add_lit] at hcj
    exact hcj
end Go.Proofs.Ytkkmjaggebjcbaa.intl
