/-
  TERMS THAT CAME IN: from what the row's hypothesis reads to 'HasTs'.
-/
import Derived.Test.YtiilamngcoegiaaTermx
import Derived.Lib.SmallJoins
import Derived.ChangeArms
set_option maxRecDepth 100000
namespace Go.Proofs.Ytiilamngcoegiaa.termop
open Go.Joins Go.ChangeShapes Go.WideShapes Go.ChangeAt Go.RowKit Go.Deep
open mem rowl trm trmv terml termt termx

section
variable {H : Type} {enc : TypeId × Value → H} {W : World} {base : Nat}
theorem i64b {x : Int} (h : (Lit.int .i64 x).wf = true) : I64 x := by
  simp only [Lit.wf, Bool.and_eq_true, decide_eq_true_eq] at h
  exact h
/-- a row, from the reading of each of its elements -/
theorem row_of {α : Type} [Inhabited α] {R : Reads α} {k : Nat} (hk : 0 < k) {a : Addr} {len m : Nat} (hl : len ≤ m) (hm : m ≤ maxLen)
    (h : ∀ j, j < len → ∃ (x : α) (cs : List Value), (∀ i, i < k → W.cell? ((a.add (j * k)).add i) = some (cs.getD i undef)) ∧ R 0 W cs x) :
    ∃ L : List α, HasR R k 0 W (.slice (some a) len m) L := by
  let f : Nat → α := fun j => if h' : j < len then Classical.choose (h j h') else default
  have hf : ∀ j, j < len → ∃ cs : List Value, (∀ i, i < k → W.cell? ((a.add (j * k)).add i) = some (cs.getD i undef)) ∧ R 0 W cs (f j) := by
    intro j hj
    have := Classical.choose_spec (h j hj)
    simpa only [f, dif_pos hj] using this
  refine ⟨(List.range len).map f, some a, m, by simp, by simpa using hl, hm, fun j hj => ?_⟩
  have hj' : j < len := by simpa using hj
  obtain ⟨cs, h1, h2⟩ := hf j hj'
  have hget : ((List.range len).map f).getD j default = f j := by simp [List.getD, hj']
  obtain ⟨cs0, h01, _⟩ := hf 0 (by omega)
  have hc0 := h01 0 hk
  obtain ⟨b, o, sp⟩ := a
  have hsp : sp = none := by simpa [Addr.add] using World.cell?_spot hc0
  subst hsp
  have hcj : ∀ i, i < k → W.cell? ⟨b, o + j * k + i, none⟩ = some (cs.getD i undef) := by
    intro i hi
    have := h1 i hi
    rw [Addr.add_lit, Addr.add_lit] at this
    exact this
  exact ⟨b, o, cs, rfl, Nat.zero_le _, World.block_lt_of_cell? W _ (hcj 0 hk), hcj, by rw [hget]; exact h2⟩
/-- four cells that read as a term -/
theorem four_of {n : Nat} {cs : List Value} {y : DataW H × List MemPlace} (ht : DataW.trod enc Try.prog W base (fun _ => true) true n 37 cs = some y) :
    ∃ (op : Int) (s : ByteArray) (so : Int) (va : Value) (n' : Nat) (y' : DataW H × List MemPlace), n = n' + 1 ∧ cs = [.int .i64 op, .string s, .int .i64 so, va] ∧ s.size ≤ maxLen ∧ I64 op ∧ I64 so ∧ DataW.trod enc Try.prog W base (fun _ => true) true n' 23 [va] = some y' := by
  have hCi : Try.prog.cellsOf 3 = 1 := by kernel_rfl
  have hCs : Try.prog.cellsOf 9 = 1 := by kernel_rfl
  have hCd : Try.prog.cellsOf 23 = 1 := by kernel_rfl
  have hC : Try.prog.cellsOf 37 = 4 := by kernel_rfl
  obtain ⟨xs, n', hn, _, hl, hlen, hf⟩ := DataW.trod_struct Try.underlying37 ht
  rw [hC] at hl
  obtain ⟨c0, c1, c2, c3, rfl⟩ : ∃ c0 c1 c2 c3, cs = [c0, c1, c2, c3] := by
    match cs, hl with
    | [c0, c1, c2, c3], _ => exact ⟨c0, c1, c2, c3, rfl⟩
  obtain ⟨y0, y1, y2, y3, rfl⟩ : ∃ y0 y1 y2 y3, xs = [y0, y1, y2, y3] := by
    match xs, hlen with
    | [y0, y1, y2, y3], _ => exact ⟨y0, y1, y2, y3, rfl⟩
  have h0 : DataW.trod enc Try.prog W base (fun _ => true) true n' 3 (([c0, c1, c2, c3].drop 0).take (Try.prog.cellsOf 3)) = some y0 := hf 0 _ rfl
  have h1 : DataW.trod enc Try.prog W base (fun _ => true) true n' 9 (([c0, c1, c2, c3].drop 1).take (Try.prog.cellsOf 9)) = some y1 := hf 1 _ rfl
  have h2 : DataW.trod enc Try.prog W base (fun _ => true) true n' 3 (([c0, c1, c2, c3].drop 2).take (Try.prog.cellsOf 3)) = some y2 := hf 2 _ rfl
  have h3 : DataW.trod enc Try.prog W base (fun _ => true) true n' 23 (([c0, c1, c2, c3].drop 3).take (Try.prog.cellsOf 23)) = some y3 := hf 3 _ rfl
  rw [hCi] at h0 h2
  rw [hCs] at h1
  rw [hCd] at h3
  simp only [List.drop_zero, List.take_succ_cons, List.take_zero, List.drop_succ_cons] at h0 h1 h2 h3
  obtain ⟨x0, e0, _, w0⟩ := DataW.trod_int Try.underlying3 h0
  obtain ⟨s, e1, _, hs⟩ := DataW.trod_string Try.underlying9 h1
  obtain ⟨x2, e2, _, w2⟩ := DataW.trod_int Try.underlying3 h2
  simp only [List.cons.injEq, and_true] at e0 e1 e2
  subst e0 e1 e2
  exact ⟨x0, s, x2, c3, n', _, hn, rfl, hs, i64b w0, i64b w2, h3⟩
/-- terms, from the reading of a slice's header -/
theorem terms_of : ∀ (n : Nat) {v : Value} {y : DataW H × List MemPlace}, DataW.trod enc Try.prog W base (fun _ => true) true n 23 [v] = some y → ∃ L : List TermM, HasTs n 0 W v L := by
  intro n
  induction n using Nat.strongRecOn with
  | _ n ih =>
    intro v y hf
    have hC : Try.prog.cellsOf 37 = 4 := by kernel_rfl
    rcases DataW.trod_slice Try.underlying23 hf with ⟨hcs, hx⟩ | ⟨a, len, cap, elems, rest, k, hn, hcs, hx, hb, hl, hm, hlen, hel, _, _⟩
    · simp at hcs
      subst hcs
      exact ⟨[], HasR.nil _ _ _ (by unfold maxLen; omega) _⟩
    · simp at hcs
      subst hcs
      rw [hC] at hel
      refine row_of (by omega) hl hm (fun j hj => ?_)
      have he := hel j hj
      rw [List.getElem?_eq_getElem (by omega)] at he
      obtain ⟨cs, hc, ht⟩ := Option.bind_eq_some_iff.1 he
      obtain ⟨op, s, so, va, n', y', hk, rfl, hs, h1, h2, h3⟩ := four_of ht
      obtain ⟨L, hL⟩ := ih n' (by omega) h3
      obtain ⟨_, hcl, hat⟩ := World.cells?_some hc
      have hc0 := hat 0 (by omega)
      have hc1 := hat 1 (by omega)
      have hc2 := hat 2 (by omega)
      have hc3 := hat 3 (by omega)
      refine ⟨.mk op s.data.toList so L, [.int .i64 op, .string s, .int .i64 so, va], fun i hi => ?_, ?_⟩
      · match i, hi with
        | 0, _ => rw [hc0]; rfl
        | 1, _ => rw [hc1]; rfl
        | 2, _ => rw [hc2]; rfl
        | 3, _ => rw [hc3]; rfl
      · obtain ⟨m, rfl⟩ : ∃ m, n = m + 1 := ⟨k, hn⟩
        exact ⟨va, by show _ = [_, Value.string (bstr s.data.toList), _, _]; rw [bstr_data]; rfl, hL.up (by omega), by show (s.data.toList).length ≤ _; rw [← bstr_size, bstr_data]; exact hs, h1, h2⟩
end
/-- a Term that came in -/
theorem has_term {H : Type} {enc : TypeId × Value → H} {W : World} {base : Nat} {v : Value} {d : DataW H} {p : List MemPlace}
    (hval : Value.okWide Try.prog W .any base 37 v) (hd : DataW.Trod enc Try.prog W 0 (fun _ => true) true 37 v d p) :
    ∃ (n : Nat) (t : TermM) (va : Value), v = aggT t va ∧ HasTs n 0 W va t.args ∧ Bnd t := by
  have hC : Try.prog.cellsOf 37 = 4 := by kernel_rfl
  obtain ⟨cs, rfl, hsz⟩ := okWide_struct Try.underlying37 hval
  obtain ⟨fuel, hf⟩ := hd
  obtain ⟨op, s, so, va, n', y', hk, hcs, hs, h1, h2, h3⟩ := four_of hf
  obtain ⟨L, hL⟩ := terms_of n' h3
  refine ⟨n', .mk op s.data.toList so L, va, ?_, hL, by show (s.data.toList).length ≤ _; rw [← bstr_size, bstr_data]; exact hs, h1, h2⟩
  have : cs = #[.int .i64 op, .string s, .int .i64 so, va] := by
    simp only [Value.cells] at hcs
    exact Array.ext' (by rw [hcs])
  rw [this]
  show _ = Value.agg #[.int .i64 op, .string (bstr s.data.toList), .int .i64 so, va]
  rw [bstr_data]
/-- a []Term that came in -/
theorem has_terms {H : Type} {enc : TypeId × Value → H} {W : World} {base : Nat} {v : Value} {d : DataW H} {p : List MemPlace}
    (hval : Value.okWide Try.prog W .any base 23 v) (hd : DataW.Trod enc Try.prog W 0 (fun _ => true) true 23 v d p) : ∃ (n : Nat) (L : List TermM), HasTs n 0 W v L := by
  obtain ⟨a0, len, cap, rfl⟩ := okWide_slice Try.underlying23 hval
  obtain ⟨fuel, hf⟩ := hd
  obtain ⟨L, hL⟩ := terms_of fuel (v := .slice a0 len cap) hf
  exact ⟨fuel, L, hL⟩
end Go.Proofs.Ytiilamngcoegiaa.termop
