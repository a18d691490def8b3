/-
  SIGNATURES THAT CAME IN: from what the row's hypothesis reads to 'HasG'.
-/
import Derived.Test.YtjejdcehlckfhaaGreatSigs
import Derived.Test.YtjejdcehlckfhaaGreatSorto
import Derived.ChangeArms
set_option maxRecDepth 100000
namespace Go.Proofs.YtjejdcehlckfhaaGreat.sigo
open Go.Joins Go.ChangeShapes Go.WideShapes Go.ChangeAt Go.RowKit Go.Deep
open mem split strl subs setm sorti sorto rowl sigm sigs

section
variable {H : Type} {enc : TypeId × Value → H} {W : World} {base : Nat}

theorem trod5 {t : TypeId} {f0 f1 f2 f3 f4 : Field} {fuel : Nat} {cs : List Value} {x : DataW H × List MemPlace} {sp : Nat → Bool} {held : Bool} (ht : Tryz.prog.underlying t = some (.struct #[f0, f1, f2, f3, f4])) (h : DataW.trod enc Tryz.prog W base sp held fuel t cs = some x) :
    ∃ (y0 y1 y2 y3 y4 : DataW H × List MemPlace) (n : Nat), cs.length = Tryz.prog.cellsOf t ∧ DataW.trod enc Tryz.prog W base sp held n f0.type ((cs.drop f0.offset).take (Tryz.prog.cellsOf f0.type)) = some y0 ∧
      DataW.trod enc Tryz.prog W base sp held n f1.type ((cs.drop f1.offset).take (Tryz.prog.cellsOf f1.type)) = some y1 ∧ DataW.trod enc Tryz.prog W base sp held n f2.type ((cs.drop f2.offset).take (Tryz.prog.cellsOf f2.type)) = some y2 ∧
      DataW.trod enc Tryz.prog W base sp held n f3.type ((cs.drop f3.offset).take (Tryz.prog.cellsOf f3.type)) = some y3 ∧ DataW.trod enc Tryz.prog W base sp held n f4.type ((cs.drop f4.offset).take (Tryz.prog.cellsOf f4.type)) = some y4 := by
  obtain ⟨xs, n, _, rfl, hl, hlen, hf⟩ := DataW.trod_struct ht h
  match xs, hlen with
  | [y0, y1, y2, y3, y4], _ => exact ⟨y0, y1, y2, y3, y4, n, hl, by simpa using hf 0 f0 rfl, by simpa using hf 1 f1 rfl, by simpa using hf 2 f2 rfl, by simpa using hf 3 f3 rfl, by simpa using hf 4 f4 rfl⟩

/-- a row, from the reading of each of its elements -/
theorem row_of {α : Type} [Inhabited α] {R : Reads α} {k : Nat} (hk : 0 < k) {a : Addr} {len m : Nat} (hl : len ≤ m) (hm : m ≤ maxLen)
    (h : ∀ j, j < len → ∃ (x : α) (cs : List Value), (∀ i, i < k → W.cell? ((a.add (j * k)).add i) = some (cs.getD i undef)) ∧ R 0 W cs x) :
    ∃ L : List α, HasR R k 0 W (.slice (some a) len m) L := by
  let f : Nat → α := fun j => if h' : j < len then Classical.choose (h j h') else default
  have hf : ∀ j, j < len → ∃ cs : List Value, (∀ i, i < k → W.cell? ((a.add (j * k)).add i) = some (cs.getD i undef)) ∧ R 0 W cs (f j) := by
    intro j hj
    have := Classical.choose_spec (h j hj)
    simpa only [f, dif_pos hj] using this
  refine ⟨(List.range len).map f, some a, m, by simp, by simpa using hl, hm, fun j hj => ?_⟩
  have hj' : j < len := by simpa using hj
  obtain ⟨cs, h1, h2⟩ := hf j hj'
  have hget : ((List.range len).map f).getD j default = f j := by simp [List.getD, hj']
  obtain ⟨cs0, h01, _⟩ := hf 0 (by omega)
  have hc0 := h01 0 hk
  obtain ⟨b, o, sp⟩ := a
  have hsp : sp = none := by simpa [Addr.add] using World.cell?_spot hc0
  subst hsp
  have hcj : ∀ i, i < k → W.cell? ⟨b, o + j * k + i, none⟩ = some (cs.getD i undef) := by
    intro i hi
    have := h1 i hi
    rw [Addr.add_lit, Addr.add_lit] at this
    exact this
  exact ⟨b, o, cs, rfl, Nat.zero_le _, World.block_lt_of_cell? W _ (hcj 0 hk), hcj, by rw [hget]; exact h2⟩

/-- numbers, from the reading of a slice's header -/
theorem ints_of {n : Nat} {v : Value} {y : DataW H × List MemPlace} (hf : DataW.trod enc Tryz.prog W base (fun _ => true) true n 88 [v] = some y) :
    ∃ L : List Int, HasL 0 W v (ivs L) ∧ ∀ x ∈ L, I64 x := by
  rcases open_ints Tryz.underlying88 Tryz.underlying3 (by kernel_rfl) hf with ⟨hcs, hx⟩ | ⟨a, len, cap, zs, hcs, _, hl, hm, hz, hx, hcell, hwz⟩
  · simp at hcs
    subst hcs
    exact ⟨[], ⟨none, 0, rfl, Nat.le_refl _, by unfold maxLen; omega, fun j u hu => by simp [ivs] at hu⟩, fun x hx => by simp at hx⟩
  · simp at hcs
    subst hcs
    simp only [if_true] at hz
    have hlen : (zs.take len).length = len := by simp; omega
    refine ⟨zs.take len, ⟨some a, cap, by rw [ivs_len, hlen], by rw [ivs_len, hlen]; exact hl, hm, fun j u hu => ?_⟩, fun x hx => i64_bounds (hwz x (List.mem_of_mem_take hx))⟩
    have hj : j < len := by have := (List.getElem?_eq_some_iff.1 hu).1; rw [ivs_len, hlen] at this; exact this
    have hc0 := hcell 0 (by omega)
    have hcj := hcell j (by omega)
    obtain ⟨b, o, sp⟩ := a
    have hsp : sp = none := by simpa [Addr.add] using World.cell?_spot hc0
    subst hsp
    have hu' : u = .int .i64 (zs.getD j 0) := by
      simp only [ivs, List.getElem?_map, List.getElem?_take, if_pos hj, List.getElem?_eq_getElem (show j < zs.length by omega)] at hu
      simp only [Option.map_some, Option.some.injEq] at hu
      rw [← hu]
      simp [List.getD, List.getElem?_eq_getElem (show j < zs.length by omega)]
    subst hu'
    refine ⟨b, o, rfl, Nat.zero_le _, World.block_lt_of_cell? W _ hc0, ?_⟩
    rw [Addr.add_lit] at hcj
    exact hcj

/-- declarations, from the reading of a slice's header -/
theorem decls_of {n : Nat} {v : Value} {y : DataW H × List MemPlace} (hf : DataW.trod enc Tryz.prog W base (fun _ => true) true n 125 [v] = some y) :
    ∃ D : List (List Int × Int), HasD 0 W v D := by
  rcases open_slice Tryz.underlying125 hf with ⟨hcs, hx⟩ | ⟨a, len, cap, m, k, E, Pl, hcs, hb, hl, hm, hmm, hx, hi⟩
  · simp at hcs
    subst hcs
    exact ⟨[], HasR.nil _ _ _ (by unfold maxLen; omega) _⟩
  · simp at hcs
    subst hcs
    simp only [if_true] at hmm
    subst hmm
    have hC : Tryz.prog.cellsOf 217 = 2 := by kernel_rfl
    have hCi : Tryz.prog.cellsOf 3 = 1 := by kernel_rfl
    have hCs : Tryz.prog.cellsOf 88 = 1 := by kernel_rfl
    refine row_of (by omega) hl hm (fun j hj => ?_)
    obtain ⟨cs', hc, ht'⟩ := hi j (by omega)
    rw [hC] at hc
    obtain ⟨y0, y1, n', hy, hlen, h0, h1⟩ := trod_struct2 Tryz.underlying217 ht'
    obtain ⟨_, hcl, hat⟩ := World.cells?_some hc
    have hc0 := hat 0 (by omega)
    have hc1 := hat 1 (by omega)
    obtain ⟨c0, c1, rfl⟩ : ∃ c0 c1, cs' = [c0, c1] := by
      match cs', hcl with
      | [c0, c1], _ => exact ⟨c0, c1, rfl⟩
    rw [hCs] at h0
    rw [hCi] at h1
    simp only [List.drop_zero, List.take_succ_cons, List.take_zero, List.drop_succ_cons] at h0 h1
    obtain ⟨L, hL, hL64⟩ := ints_of h0
    obtain ⟨x1, e1, _, w1⟩ := DataW.trod_int Tryz.underlying3 h1
    simp only [List.cons.injEq, and_true] at e1
    subst e1
    refine ⟨(L, x1), [c0, .int .i64 x1], fun i hi => ?_, c0, rfl, hL, i64_bounds w1, hL64⟩
    match i, hi with
    | 0, _ => rw [hc0]; rfl
    | 1, _ => rw [hc1]; rfl

/-- operators, from the reading of a slice's header -/
theorem ops_of {n : Nat} {v : Value} {y : DataW H × List MemPlace} (hf : DataW.trod enc Tryz.prog W base (fun _ => true) true n 26 [v] = some y) :
    ∃ O : List OpM, HasO 0 W v O := by
  rcases open_slice Tryz.underlying26 hf with ⟨hcs, hx⟩ | ⟨a, len, cap, m, k, E, Pl, hcs, hb, hl, hm, hmm, hx, hi⟩
  · simp at hcs
    subst hcs
    exact ⟨[], HasR.nil _ _ _ (by unfold maxLen; omega) _⟩
  · simp at hcs
    subst hcs
    simp only [if_true] at hmm
    subst hmm
    have hC : Tryz.prog.cellsOf 127 = 5 := by kernel_rfl
    have hCi : Tryz.prog.cellsOf 3 = 1 := by kernel_rfl
    have hCs : Tryz.prog.cellsOf 9 = 1 := by kernel_rfl
    have hCb : Tryz.prog.cellsOf 4 = 1 := by kernel_rfl
    have hCd : Tryz.prog.cellsOf 125 = 1 := by kernel_rfl
    refine row_of (by omega) hl hm (fun j hj => ?_)
    obtain ⟨cs', hc, ht'⟩ := hi j (by omega)
    rw [hC] at hc
    obtain ⟨y0, y1, y2, y3, y4, n', hlen, h0, h1, h2, h3, h4⟩ := trod5 Tryz.underlying127 ht'
    obtain ⟨_, hcl, hat⟩ := World.cells?_some hc
    have hc0 := hat 0 (by omega)
    have hc1 := hat 1 (by omega)
    have hc2 := hat 2 (by omega)
    have hc3 := hat 3 (by omega)
    have hc4 := hat 4 (by omega)
    obtain ⟨c0, c1, c2, c3, c4, rfl⟩ : ∃ c0 c1 c2 c3 c4, cs' = [c0, c1, c2, c3, c4] := by
      match cs', hcl with
      | [c0, c1, c2, c3, c4], _ => exact ⟨c0, c1, c2, c3, c4, rfl⟩
    rw [hCs] at h0
    rw [hCd] at h1
    rw [hCb] at h2 h3
    rw [hCi] at h4
    simp only [List.drop_zero, List.take_succ_cons, List.take_zero, List.drop_succ_cons] at h0 h1 h2 h3 h4
    obtain ⟨s, e0, _, hs⟩ := DataW.trod_string Tryz.underlying9 h0
    obtain ⟨D, hD⟩ := decls_of h1
    obtain ⟨p, e2, _⟩ := DataW.trod_bool Tryz.underlying4 h2
    obtain ⟨q, e3, _⟩ := DataW.trod_bool Tryz.underlying4 h3
    obtain ⟨x4, e4, _, w4⟩ := DataW.trod_int Tryz.underlying3 h4
    simp only [List.cons.injEq, and_true] at e0 e2 e3 e4
    subst e0 e2 e3 e4
    refine ⟨⟨s.data.toList, D, p, q, x4⟩, [.string s, c1, .bool p, .bool q, .int .i64 x4], fun i hi => ?_, c1, by rw [bstr_data], hD, by rw [← bstr_size, bstr_data]; exact hs, i64_bounds w4⟩
    match i, hi with
    | 0, _ => rw [hc0]; rfl
    | 1, _ => rw [hc1]; rfl
    | 2, _ => rw [hc2]; rfl
    | 3, _ => rw [hc3]; rfl
    | 4, _ => rw [hc4]; rfl
end
/-- a Signature that came in -/
theorem has_sig {H : Type} {enc : TypeId × Value → H} {W : World} {base : Nat} {v : Value} {d : DataW H} {p : List MemPlace}
    (hval : Value.okWide Tryz.prog W .any base 28 v) (hd : DataW.Trod enc Tryz.prog W 0 (fun _ => true) true 28 v d p) :
    ∃ va vb vc P Q O, v = .agg #[va, vb, vc] ∧ HasG W va vb vc P Q O := by
  have hC : Tryz.prog.cellsOf 28 = 3 := by kernel_rfl
  have hCs : Tryz.prog.cellsOf 25 = 2 := by kernel_rfl
  have hCo : Tryz.prog.cellsOf 26 = 1 := by kernel_rfl
  have hCn : Tryz.prog.cellsOf 22 = 1 := by kernel_rfl
  have hCp : Tryz.prog.cellsOf 23 = 1 := by kernel_rfl
  obtain ⟨cs, rfl, hsz⟩ := okWide_struct Tryz.underlying28 hval
  obtain ⟨c0, c1, c2, rfl⟩ := array3 (hsz.trans hC)
  obtain ⟨fuel, hf⟩ := hd
  obtain ⟨y0, y1, n, hx, _, h0, h1⟩ := trod_struct2 Tryz.underlying28 hf
  rw [hCs] at h0
  rw [hCo] at h1
  simp only [Value.cells, List.drop_zero, List.take_succ_cons, List.take_zero, List.drop_succ_cons] at h0 h1
  obtain ⟨z0, z1, n', hx', _, g0, g1⟩ := trod_struct2 Tryz.underlying25 h0
  rw [hCn] at g0
  rw [hCp] at g1
  simp only [List.drop_zero, List.take_succ_cons, List.take_zero, List.drop_succ_cons] at g0 g1
  obtain ⟨P, hP, hPl⟩ := strings_of g0
  obtain ⟨Q, hQ, hQ64⟩ := pairs_of g1
  obtain ⟨O, hO⟩ := ops_of h1
  exact ⟨c0, c1, c2, P, Q, O, rfl, ⟨hP, hQ, hPl, hQ64⟩, hO⟩
end Go.Proofs.YtjejdcehlckfhaaGreat.sigo
