/-
  BINDINGS THAT CAME IN: from what the row's hypothesis reads to 'HasBs'.
-/
import Derived.Test.YtiilamngcoegiaaTermop
import Derived.Test.YtiilamngcoegiaaBndl
set_option maxRecDepth 100000
namespace Go.Proofs.Ytiilamngcoegiaa.bndop
open Go.Joins Go.ChangeShapes Go.WideShapes Go.ChangeAt Go.RowKit Go.Deep
open mem rowl trm trmv terml termt termx termop bndl

section
variable {H : Type} {enc : TypeId × Value → H} {W : World} {base : Nat}
theorem eight_of {n : Nat} {cs : List Value} {y : DataW H × List MemPlace} (ht : DataW.trod enc Try.prog W base (fun _ => true) true n 67 cs = some y) : ∃ b : BindM, RB n 0 W cs b := by
  have hCt : Try.prog.cellsOf 37 = 4 := by kernel_rfl
  have hC : Try.prog.cellsOf 67 = 8 := by kernel_rfl
  obtain ⟨xs, n', hn, _, hl, hlen, hf⟩ := DataW.trod_struct Try.underlying67 ht
  rw [hC] at hl
  obtain ⟨c0, c1, c2, c3, c4, c5, c6, c7, rfl⟩ : ∃ c0 c1 c2 c3 c4 c5 c6 c7, cs = [c0, c1, c2, c3, c4, c5, c6, c7] := by
    match cs, hl with
    | [c0, c1, c2, c3, c4, c5, c6, c7], _ => exact ⟨c0, c1, c2, c3, c4, c5, c6, c7, rfl⟩
  obtain ⟨y0, y1, rfl⟩ : ∃ y0 y1, xs = [y0, y1] := by
    match xs, hlen with
    | [y0, y1], _ => exact ⟨y0, y1, rfl⟩
  have h0 : DataW.trod enc Try.prog W base (fun _ => true) true n' 37 (([c0, c1, c2, c3, c4, c5, c6, c7].drop 0).take (Try.prog.cellsOf 37)) = some y0 := hf 0 _ rfl
  have h1 : DataW.trod enc Try.prog W base (fun _ => true) true n' 37 (([c0, c1, c2, c3, c4, c5, c6, c7].drop 4).take (Try.prog.cellsOf 37)) = some y1 := hf 1 _ rfl
  rw [hCt] at h0 h1
  simp only [List.drop_zero, List.take_succ_cons, List.take_zero, List.drop_succ_cons] at h0 h1
  obtain ⟨op, s, so, va, m1, y0', e1, hcs1, hs1, i1, i2, t1⟩ := four_of h0
  obtain ⟨op', s', so', vb, m2, y1', e2, hcs2, hs2, i3, i4, t2⟩ := four_of h1
  obtain ⟨L1, hL1⟩ := terms_of m1 t1
  obtain ⟨L2, hL2⟩ := terms_of m2 t2
  simp only [List.cons.injEq, and_true] at hcs1 hcs2
  obtain ⟨rfl, rfl, rfl, rfl⟩ := hcs1
  obtain ⟨rfl, rfl, rfl, rfl⟩ := hcs2
  refine ⟨⟨.mk op s.data.toList so L1, .mk op' s'.data.toList so' L2⟩, c3, c7, ?_, hL1.up (by omega), hL2.up (by omega), ⟨by show (s.data.toList).length ≤ _; rw [← bstr_size, bstr_data]; exact hs1, i1, i2⟩, by show (s'.data.toList).length ≤ _; rw [← bstr_size, bstr_data]; exact hs2, i3, i4⟩
  show _ = [_, Value.string (bstr s.data.toList), _, _, _, Value.string (bstr s'.data.toList), _, _]
  rw [bstr_data, bstr_data]
  rfl
/-- bindings, from the reading of a slice's header -/
theorem binds_of (n : Nat) {v : Value} {y : DataW H × List MemPlace} (hf : DataW.trod enc Try.prog W base (fun _ => true) true n 24 [v] = some y) : ∃ L : List BindM, HasBs n 0 W v L := by
  have hC : Try.prog.cellsOf 67 = 8 := by kernel_rfl
  rcases DataW.trod_slice Try.underlying24 hf with ⟨hcs, hx⟩ | ⟨a, len, cap, elems, rest, k, hn, hcs, hx, hb, hl, hm, hlen, hel, _, _⟩
  · simp at hcs
    subst hcs
    exact ⟨[], HasR.nil _ _ _ (by unfold maxLen; omega) _⟩
  · simp at hcs
    subst hcs
    rw [hC] at hel
    refine row_of (by omega) hl hm (fun j hj => ?_)
    have he := hel j hj
    rw [List.getElem?_eq_getElem (by omega)] at he
    obtain ⟨cs, hc, ht⟩ := Option.bind_eq_some_iff.1 he
    obtain ⟨b, hb⟩ := eight_of ht
    have hb' := hb
    obtain ⟨va, vb, rfl, _⟩ := hb'
    obtain ⟨_, hcl, hat⟩ := World.cells?_some hc
    refine ⟨b, _, fun i hi => ?_, (by
      obtain ⟨va, vb, e, h1, h2, r⟩ := hb
      exact ⟨va, vb, e, h1.up (by omega), h2.up (by omega), r⟩)⟩
    rw [hat i (by simpa using hi)]
    match i, hi with
    | 0, _ => rfl
    | 1, _ => rfl
    | 2, _ => rfl
    | 3, _ => rfl
    | 4, _ => rfl
    | 5, _ => rfl
    | 6, _ => rfl
    | 7, _ => rfl
end
/-- a []Binding that came in -/
theorem has_binds {H : Type} {enc : TypeId × Value → H} {W : World} {base : Nat} {v : Value} {d : DataW H} {p : List MemPlace}
    (hval : Value.okWide Try.prog W .any base 24 v) (hd : DataW.Trod enc Try.prog W 0 (fun _ => true) true 24 v d p) : ∃ (n : Nat) (L : List BindM), HasBs n 0 W v L := by
  obtain ⟨a0, len, cap, rfl⟩ := okWide_slice Try.underlying24 hval
  obtain ⟨fuel, hf⟩ := hd
  obtain ⟨L, hL⟩ := binds_of fuel (v := .slice a0 len cap) hf
  exact ⟨fuel, L, hL⟩
end Go.Proofs.Ytiilamngcoegiaa.bndop
