/-
  SORTS THAT CAME IN: from what the row's hypothesis reads to 'HasS'.
-/
import Derived.Test.YtjejdcehlckfhaaGreatSubs
import Derived.Test.YtjejdcehlckfhaaGreatSorti
import Derived.SliceStrings
import Derived.OpenShut
import Derived.Deep.Slices
import Derived.Lib.SmallJoins
set_option maxRecDepth 100000
namespace Go.Proofs.YtjejdcehlckfhaaGreat.sorto
open Go.Joins Go.ChangeShapes Go.WideShapes Go.ChangeAt Go.RowKit Go.Deep
open mem split strl subs sorti

theorem i64_bounds {x : Int} (h : (Lit.int .i64 x).wf = true) : -9223372036854775808 ≤ x ∧ x ≤ 9223372036854775807 := by
  simp only [Lit.wf, Bool.and_eq_true, decide_eq_true_eq] at h
  exact h

/-- strings, from the reading of a slice's header -/
theorem strings_of {H : Type} {enc : TypeId × Value → H} {W : World} {base n : Nat} {v : Value} {y : DataW H × List MemPlace}
    (hf : DataW.trod enc Tryz.prog W base (fun _ => true) true n 22 [v] = some y) :
    ∃ P : List (List UInt8), Has W v (ssv P) ∧ ∀ k, k < P.length → (P.getD k []).length ≤ maxLen := by
  rcases open_strings Tryz.underlying22 Tryz.underlying9 (by kernel_rfl) hf with ⟨hcs, hx⟩ | ⟨a, len, cap, ss, hcs, _, hl, hm, hz, hx, hcell, hsz⟩
  · simp at hcs
    subst hcs
    exact ⟨[], ⟨none, 0, rfl, Nat.le_refl _, by unfold maxLen; omega, fun j u hu => by simp [ssv] at hu⟩, fun k hk => by simp at hk⟩
  · simp at hcs
    subst hcs
    simp only [if_true] at hz
    have hlen : ((ss.take len).map (·.data.toList)).length = len := by simp; omega
    refine ⟨(ss.take len).map (·.data.toList), ⟨some a, cap, by rw [ssv_len, hlen], by rw [ssv_len, hlen]; exact hl, hm, fun j u hu => ?_⟩, fun k hk => ?_⟩
    · have hj : j < len := by have := (List.getElem?_eq_some_iff.1 hu).1; rw [ssv_len, hlen] at this; exact this
      have hc0 := hcell 0 (by omega)
      have hcj := hcell j (by omega)
      obtain ⟨b, o, sp⟩ := a
      have hsp : sp = none := by simpa [Addr.add] using World.cell?_spot hc0
      subst hsp
      have hu' : u = .string (ss.getD j ByteArray.empty) := by
        simp only [ssv, List.map_map, List.getElem?_map, List.getElem?_take, if_pos hj, List.getElem?_eq_getElem (show j < ss.length by omega)] at hu
        simp only [Option.map_some, Option.some.injEq, Function.comp] at hu
        rw [← hu, bstr_data]
        simp [List.getD, List.getElem?_eq_getElem (show j < ss.length by omega)]
      subst hu'
      refine ⟨b, o, rfl, World.block_lt_of_cell? W _ hc0, ?_⟩
      rw [Addr.add_lit] at hcj
      exact hcj
    · rw [hlen] at hk
      have h1 : k < ss.length := by omega
      have : ((ss.take len).map (·.data.toList)).getD k [] = ss[k].data.toList := by
        simp [List.getD, hk, List.getElem?_eq_getElem h1]
      rw [this]
      exact hsz _ (List.getElem_mem h1)

/-- pairs, from the reading of a slice's header -/
theorem pairs_of {H : Type} {enc : TypeId × Value → H} {W : World} {base n : Nat} {v : Value} {y : DataW H × List MemPlace}
    (hf : DataW.trod enc Tryz.prog W base (fun _ => true) true n 23 [v] = some y) :
    ∃ Q : List (Int × Int), HasP W v Q ∧ In64 Q := by
  rcases open_slice Tryz.underlying23 hf with ⟨hcs, hx⟩ | ⟨a, len, cap, m, k, D, Pl, hcs, hb, hl, hm, hmm, hx, hi⟩
  · simp at hcs
    subst hcs
    exact ⟨[], ⟨none, 0, rfl, Nat.le_refl _, by unfold maxLen; omega, fun j hj => by simp at hj⟩, fun p hp => by simp at hp⟩
  · simp at hcs
    subst hcs
    simp only [if_true] at hmm
    subst hmm
    have hC : Tryz.prog.cellsOf 180 = 2 := by kernel_rfl
    have hCi : Tryz.prog.cellsOf 3 = 1 := by kernel_rfl
    have key : ∀ j, j < len → ∃ p : Int × Int, W.cell? (a.add (j * 2)) = some (.int .i64 p.1) ∧ W.cell? ((a.add (j * 2)).add 1) = some (.int .i64 p.2) ∧
        (-9223372036854775808 ≤ p.1 ∧ p.1 ≤ 9223372036854775807) ∧ (-9223372036854775808 ≤ p.2 ∧ p.2 ≤ 9223372036854775807) := by
      intro j hj
      obtain ⟨cs', hc, ht'⟩ := hi j (by omega)
      rw [hC] at hc
      obtain ⟨y0, y1, n', hy, hlen, h0, h1⟩ := trod_struct2 Tryz.underlying180 ht'
      obtain ⟨_, hcl, hat⟩ := World.cells?_some hc
      have hc0 := hat 0 (by omega)
      have hc1 := hat 1 (by omega)
      obtain ⟨c0, c1, rfl⟩ : ∃ c0 c1, cs' = [c0, c1] := by
        match cs', hcl with
        | [c0, c1], _ => exact ⟨c0, c1, rfl⟩
      rw [hCi] at h0 h1
      simp only [List.drop_zero, List.take_succ_cons, List.take_zero, List.drop_succ_cons] at h0 h1
      obtain ⟨x0, e0, _, w0⟩ := DataW.trod_int Tryz.underlying3 h0
      obtain ⟨x1, e1, _, w1⟩ := DataW.trod_int Tryz.underlying3 h1
      simp only [List.cons.injEq, and_true] at e0 e1
      subst e0 e1
      have b0 := i64_bounds w0
      have b1 := i64_bounds w1
      refine ⟨(x0, x1), ?_, ?_, b0, b1⟩
      · have : (a.add (j * 2)).add 0 = a.add (j * 2) := by simp [Addr.add]
        rw [this] at hc0
        simpa using hc0
      · simpa using hc1
    let f : Nat → Int × Int := fun j => if h : j < len then Classical.choose (key j h) else (0, 0)
    have hfj : ∀ j, j < len → W.cell? (a.add (j * 2)) = some (.int .i64 (f j).1) ∧ W.cell? ((a.add (j * 2)).add 1) = some (.int .i64 (f j).2) ∧
        (-9223372036854775808 ≤ (f j).1 ∧ (f j).1 ≤ 9223372036854775807) ∧ (-9223372036854775808 ≤ (f j).2 ∧ (f j).2 ≤ 9223372036854775807) := by
      intro j hj
      have := Classical.choose_spec (key j hj)
      simpa only [f, dif_pos hj] using this
    have hget : ∀ j, j < len → ((List.range len).map f).getD j (0, 0) = f j := by
      intro j hj
      simp [List.getD, hj]
    refine ⟨(List.range len).map f, ⟨some a, m, by simp, by simpa using hl, hm, fun j hj => ?_⟩, fun p hp => ?_⟩
    · have hj' : j < len := by simpa using hj
      obtain ⟨k0, k1, _⟩ := hfj j hj'
      obtain ⟨b, o, sp⟩ := a
      have hsp : sp = none := by
        have := World.cell?_spot (hfj 0 (by omega)).1
        simpa [Addr.add] using this
      subst hsp
      rw [Addr.add_lit] at k0 k1
      rw [Addr.add_lit] at k1
      refine ⟨b, o, rfl, World.block_lt_of_cell? W _ k0, ?_, ?_⟩
      · rw [hget j hj']; exact k0
      · rw [hget j hj']; exact k1
    · obtain ⟨j, hj, rfl⟩ := List.mem_map.1 hp
      exact (hfj j (by simpa using hj)).2.2

/-- a Sorts that came in -/
theorem has_sorts {H : Type} {enc : TypeId × Value → H} {W : World} {base : Nat} {v : Value} {d : DataW H} {p : List MemPlace}
    (hval : Value.okWide Tryz.prog W .any base 25 v) (hd : DataW.Trod enc Tryz.prog W 0 (fun _ => true) true 25 v d p) :
    ∃ va vb P Q, v = .agg #[va, vb] ∧ HasS W va vb P Q := by
  obtain ⟨va, vb, y0, y1, n, rfl, _, _, h0, h1⟩ := open_agg2 Tryz.underlying25 (by kernel_rfl) (by kernel_rfl) hval hd
  obtain ⟨P, hP, hPl⟩ := strings_of h0
  obtain ⟨Q, hQ, hQ64⟩ := pairs_of h1
  exact ⟨va, vb, P, Q, rfl, hP, hQ, hPl, hQ64⟩
end Go.Proofs.YtjejdcehlckfhaaGreat.sorto
