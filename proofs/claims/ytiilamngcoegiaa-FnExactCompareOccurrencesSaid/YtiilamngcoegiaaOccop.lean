/-
  OCCURRENCES THAT CAME IN: from what the row's hypothesis reads to 'HasOc'.
-/
import Derived.Test.YtiilamngcoegiaaBndop
import Derived.Test.YtiilamngcoegiaaOccm
set_option maxRecDepth 100000
namespace Go.Proofs.Ytiilamngcoegiaa.occop
open Go.Joins Go.ChangeShapes Go.WideShapes Go.ChangeAt Go.RowKit Go.Deep
open mem setm rowl trm trmv terml termt termx termop bndl bndop occm

section
variable {H : Type} {enc : TypeId × Value → H} {W : World} {base : Nat}
/-- numbers, from the reading of a slice's header -/
theorem ints_of {n : Nat} {v : Value} {y : DataW H × List MemPlace} (hf : DataW.trod enc Try.prog W base (fun _ => true) true n 22 [v] = some y) :
    ∃ L : List Int, HasL 0 W v (ivs L) := by
  rcases open_ints Try.underlying22 Try.underlying3 (by kernel_rfl) hf with ⟨hcs, hx⟩ | ⟨a, len, cap, zs, hcs, _, hl, hm, hz, hx, hcell, hwz⟩
  · simp at hcs
    subst hcs
    exact ⟨[], none, 0, rfl, Nat.le_refl _, by unfold maxLen; omega, fun j u hu => by simp [ivs] at hu⟩
  · simp at hcs
    subst hcs
    simp only [if_true] at hz
    have hlen : (zs.take len).length = len := by simp; omega
    refine ⟨zs.take len, some a, cap, by rw [ivs_len, hlen], by rw [ivs_len, hlen]; exact hl, hm, fun j u hu => ?_⟩
    have hj : j < len := by have := (List.getElem?_eq_some_iff.1 hu).1; rw [ivs_len, hlen] at this; exact this
    have hc0 := hcell 0 (by omega)
    have hcj := hcell j (by omega)
    obtain ⟨b, o, sp⟩ := a
    have hsp : sp = none := by simpa [Addr.add] using World.cell?_spot hc0
    subst hsp
    have hu' : u = .int .i64 (zs.getD j 0) := by
      simp only [ivs, List.getElem?_map, List.getElem?_take, if_pos hj, List.getElem?_eq_getElem (show j < zs.length by omega)] at hu
      simp only [Option.map_some, Option.some.injEq] at hu
      rw [← hu]
      simp [List.getD, List.getElem?_eq_getElem (show j < zs.length by omega)]
    subst hu'
    refine ⟨b, o, rfl, Nat.zero_le _, World.block_lt_of_cell? W _ hc0, ?_⟩
    rw [Addr.add_lit] at hcj
    exact hcj
/-- four cells that read as an occurrence -/
theorem occ_of {n : Nat} {cs : List Value} {y : DataW H × List MemPlace} (ht : DataW.trod enc Try.prog W base (fun _ => true) true n 26 cs = some y) :
    ∃ (c0 c1 c2 c3 : Value) (m : Nat) (o : OccM), cs = [c0, c1, c2, c3] ∧ HasOc m 0 W c0 c1 c2 c3 o := by
  have hCi : Try.prog.cellsOf 22 = 1 := by kernel_rfl
  have hCt : Try.prog.cellsOf 23 = 1 := by kernel_rfl
  have hCb : Try.prog.cellsOf 24 = 1 := by kernel_rfl
  have hC : Try.prog.cellsOf 26 = 4 := by kernel_rfl
  obtain ⟨xs, n', hn, _, hl, hlen, hf⟩ := DataW.trod_struct Try.underlying26 ht
  rw [hC] at hl
  obtain ⟨c0, c1, c2, c3, rfl⟩ : ∃ c0 c1 c2 c3, cs = [c0, c1, c2, c3] := by
    match cs, hl with
    | [c0, c1, c2, c3], _ => exact ⟨c0, c1, c2, c3, rfl⟩
  obtain ⟨y0, y1, y2, y3, rfl⟩ : ∃ y0 y1 y2 y3, xs = [y0, y1, y2, y3] := by
    match xs, hlen with
    | [y0, y1, y2, y3], _ => exact ⟨y0, y1, y2, y3, rfl⟩
  have h0 : DataW.trod enc Try.prog W base (fun _ => true) true n' 22 (([c0, c1, c2, c3].drop 0).take (Try.prog.cellsOf 22)) = some y0 := hf 0 _ rfl
  have h1 : DataW.trod enc Try.prog W base (fun _ => true) true n' 23 (([c0, c1, c2, c3].drop 1).take (Try.prog.cellsOf 23)) = some y1 := hf 1 _ rfl
  have h2 : DataW.trod enc Try.prog W base (fun _ => true) true n' 23 (([c0, c1, c2, c3].drop 2).take (Try.prog.cellsOf 23)) = some y2 := hf 2 _ rfl
  have h3 : DataW.trod enc Try.prog W base (fun _ => true) true n' 24 (([c0, c1, c2, c3].drop 3).take (Try.prog.cellsOf 24)) = some y3 := hf 3 _ rfl
  rw [hCi] at h0
  rw [hCt] at h1 h2
  rw [hCb] at h3
  simp only [List.drop_zero, List.take_succ_cons, List.take_zero, List.drop_succ_cons] at h0 h1 h2 h3
  obtain ⟨L0, hL0⟩ := ints_of h0
  obtain ⟨L1, hL1⟩ := terms_of n' h1
  obtain ⟨L2, hL2⟩ := terms_of n' h2
  obtain ⟨L3, hL3⟩ := binds_of n' h3
  exact ⟨c0, c1, c2, c3, n', ⟨L0, L1, L2, L3⟩, rfl, hL0, hL1, hL2, hL3⟩
end
/-- an Occurrence that came in -/
theorem has_occ {H : Type} {enc : TypeId × Value → H} {W : World} {base : Nat} {v : Value} {d : DataW H} {p : List MemPlace}
    (hval : Value.okWide Try.prog W .any base 26 v) (hd : DataW.Trod enc Try.prog W 0 (fun _ => true) true 26 v d p) :
    ∃ (n : Nat) (v0 v1 v2 v3 : Value) (o : OccM), v = .agg #[v0, v1, v2, v3] ∧ HasOc n 0 W v0 v1 v2 v3 o := by
  obtain ⟨cs, rfl, hsz⟩ := okWide_struct Try.underlying26 hval
  obtain ⟨fuel, hf⟩ := hd
  obtain ⟨c0, c1, c2, c3, m, o, hcs, h⟩ := occ_of hf
  refine ⟨m, c0, c1, c2, c3, o, ?_, h⟩
  have : cs = #[c0, c1, c2, c3] := by
    simp only [Value.cells] at hcs
    exact Array.ext' (by rw [hcs])
  rw [this]
end Go.Proofs.Ytiilamngcoegiaa.occop
