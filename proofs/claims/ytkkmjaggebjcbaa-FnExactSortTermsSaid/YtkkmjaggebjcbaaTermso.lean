/-
  THE LIBRARY'S SORT AT A ROW OF TERMS OF ONE'S OWN.
-/
import Derived.Test.YtkkmjaggebjcbaaTermsl
import Derived.Test.YtkkmjaggebjcbaaTermx
import Derived.Sort.OwnSorted
namespace Go.Proofs.Ytkkmjaggebjcbaa.termso
open Go.ChangeShapes Go.WideShapes Go.ChangeAt Go.RowKit
open mem dec rowl trm trmv terml termb termt termx

/-- what the sort leaves of a block of cells -/
theorem heap_put {w : World} {g n : Nat} {os : Array Obj} {cur : Array Value} {e : TypeId} {fr : Nat × Nat} (F : Array Value) (hb : w.heap[g]? = some (.cells cur e fr)) :
    (Sort.grow (Sort.putRow id (Sort.ahead w n) g 0 F) os).heap[g]? = some (.cells (Sort.putCells id 0 F cur) e fr) := by
  have hg : g < w.heap.size := (Array.getElem?_eq_some_iff.1 hb).1
  show ((Sort.putRow id (Sort.ahead w n) g 0 F).heap ++ os)[g]? = _
  rw [Array.getElem?_append_left (by simpa using hg)]
  simp [Sort.putRow, Sort.mapBlock, Sort.ahead, Array.getElem?_modify, hb, Sort.onCells]
theorem grown_put {w : World} {g n : Nat} {os : Array Obj} (F : Array Value) : Chg [g] w (Sort.grow (Sort.putRow id (Sort.ahead w n) g 0 F) os) := by
  refine ⟨rfl, rfl, rfl, by simp, fun k hk hne => ?_⟩
  show ((Sort.putRow id (Sort.ahead w n) g 0 F).heap ++ os)[k]? = _
  rw [Array.getElem?_append_left (by simpa using hk)]
  have : g ≠ k := fun e => hne (by rw [e]; simp)
  simp [Sort.putRow, Sort.mapBlock, Sort.ahead, Array.getElem?_modify, this]
theorem take_put (cur F : Array Value) (h : F.size ≤ cur.size) : (Sort.putCells id 0 F cur).toList.take F.size = F.toList := by
  apply List.ext_getElem?
  intro j
  by_cases hj : j < F.size
  · rw [List.getElem?_take_of_lt hj, Array.getElem?_toList]
    simp [Sort.putCells, hj, show j < cur.size by omega]
  · rw [List.getElem?_take_eq_none (by omega), List.getElem?_eq_none (by simp; omega)]
/-- an element: a term and the value that its arguments stand by -/
structure Elt (N lo : Nat) (w : World) where
  t : TermM
  v : Value
  h : HasTs N lo w v t.args
  b : Bnd t
  s : sizes t.args ≤ 2097152
instance (N lo : Nat) (w : World) : Inhabited (Elt N lo w) := ⟨⟨.mk 0 [] 0 [], .slice none 0 0, HasR.nil _ _ _ (by unfold maxLen; omega) _, ⟨by show ([] : List UInt8).length ≤ _; simp, by show I64 0; unfold I64; omega, by show I64 0; unfold I64; omega⟩, by show sizes [] ≤ _; simp [sizes]⟩⟩
def encT {N lo : Nat} {w : World} (x : Elt N lo w) : List Value := [.int .i64 x.t.op, .string (bstr x.t.name), .int .i64 x.t.sort, x.v]
noncomputable def cfT {N lo : Nat} {w : World} (x y : Elt N lo w) : Int := cmp x.t y.t
theorem swoT (N lo : Nat) (w : World) : Sort.SWO (ltOf (cfT (N := N) (lo := lo) (w := w))) where
  irrefl x := decide_eq_false (by rw [cfT, cmp_self]; omega)
  trans x y z h1 h2 := by
    have h1' : cmp x.t y.t < 0 := of_decide_eq_true h1
    have h2' : cmp y.t z.t < 0 := of_decide_eq_true h2
    exact decide_eq_true (cmp_lt_trans h1' h2')
  ntrans x y z h1 h2 := by
    have h1' : ¬ cmp x.t y.t < 0 := of_decide_eq_false h1
    have h2' : ¬ cmp y.t z.t < 0 := of_decide_eq_false h2
    have a := cmp_swap x.t y.t
    have b := cmp_swap y.t z.t
    have c := cmp_swap x.t z.t
    have d := cmp_trans z.t y.t x.t (by omega) (by omega)
    exact decide_eq_false (by rw [cfT]; omega)
theorem cmp_lays (N lo g size : Nat) (w : World) (hg : g < lo) (n0 : Nat) (hn : n0 = 0) :
    CmpLays Try.prog 8 #[] (encT (N := N) (lo := lo) (w := w)) 4 cfT g n0 size w := by
  intro m os dk hdk x y
  subst hn
  have hc : Chg [g] w (sortWorldK encT 4 w g 0 m dk os) := grown_put _
  have hk : Kept lo w (sortWorldK encT 4 w g 0 m dk os) := ⟨hc.size, fun k h1 h2 => hc.block k h2 (by simp; omega)⟩
  refine (compare_any (n := N) x.t y.t x.v y.v _ (HasR.kept (RT_steady N) x.h hk) (HasR.kept (RT_steady N) y.h hk) x.s).mono ?_
  rintro e w' ⟨rfl, h⟩
  exact ⟨rfl, h.grow⟩
/-- slices.SortFunc with CompareTerms -/
theorem sort_any {N lo g cap base : Nat} (w : World) (d : Array (Elt N lo w)) (hg : g < lo) (xs : List Value) (ho : w.ownsRow base 26 4 (.slice (some ⟨g, 0, none⟩) d.size cap) d.size xs)
    (hx : ∀ j, j < d.size → Cells4 xs j d[j]!.t d[j]!.v) (hsz : d.size < 4611686018427387904) :
    Calls Try.prog 23 #[.slice (some ⟨g, 0, none⟩) d.size cap, .func (.func 8) #[] #[]] w fun e w' => e = .returned (.tuple #[]) ∧
      ∃ (d' : Array (Elt N lo w)) (xs' : List Value), d'.size = d.size ∧ d'.toList.Perm d.toList ∧ (∀ i j, i < j → j < d.size → cmp d'[i]!.t d'[j]!.t ≤ 0) ∧ w'.ownsRow base 26 4 (.slice (some ⟨g, 0, none⟩) d.size cap) d.size xs' ∧
        (∀ j, j < d.size → Cells4 xs' j d'[j]!.t d'[j]!.v) ∧ Chg [g] w w' := by
  have eg : ∀ args w, (callFunc 8 args).run Try.prog w = .ok (.enter 8 args) w := Go.Proofs.enters_of Try.func8 (by kernel_rfl) rfl
  obtain ⟨cur, hbase, hcur, hnc, hcm, hcs⟩ : ∃ cur, base ≤ g ∧ w.heap[g]? = some (.cells cur 26 (0, 0)) ∧ d.size ≤ cap ∧ cap ≤ maxLen ∧ cur.size = cap * 4 := by
    rcases ho.2 with ⟨hv, _⟩ | ⟨g', cap', cur, hv, hb, hg, hnc, hcm, hcs, _⟩
    · cases hv
    · simp only [Value.slice.injEq, Option.some.injEq, Addr.mk.injEq, and_true, true_and] at hv
      obtain ⟨rfl, rfl⟩ := hv
      exact ⟨cur, hb, hg, hnc, hcm, hcs⟩
  have hgw : g < w.heap.size := (Array.getElem?_eq_some_iff.1 hcur).1
  have hcell : ∀ (xs : List Value) (d : Array (Elt N lo w)) j, Cells4 xs j d[j]!.t d[j]!.v → ∀ c, c < 4 → xs[j * 4 + c]? = some (encT d[j]!)[c]! := by
    rintro xs d j ⟨a, b, c, e⟩ i hi
    match i, hi with
    | 0, _ => exact a
    | 1, _ => exact b
    | 2, _ => exact c
    | 3, _ => exact e
  have hH : Sort.HoldsK encT 4 w g 0 d := by
    intro t ht
    rw [Sort.size_flatK] at ht
    rw [Nat.zero_add, Sort.get_flatK _ _ _ _ ht, ho.cellAt t (by omega)]
    have h4 := hcell xs d (t / 4) (hx (t / 4) (by omega)) (t % 4) (by omega)
    rw [show t / 4 * 4 + t % 4 = t by omega] at h4
    exact ⟨h4, ho.frozenAt _⟩
  have hcon := AnyQ.slices_SortFunc termsl.sortT 4 Try.isAgg26 Try.sizeOf26 encT (fun _ => rfl) (fun x v hv => by
      obtain ⟨A, c, e, _⟩ := HasR.shape x.h rfl
      simp only [encT, List.mem_cons, List.not_mem_nil, or_false] at hv
      rcases hv with rfl | rfl | rfl | rfl
      · rfl
      · rfl
      · rfl
      · rw [e]; rfl) cfT (swoT N lo w) 8 #[] g 0 cap d w eg (cmp_lays N lo g d.size w hg 0 rfl) hH hgw hsz
  change Calls Try.prog 23 _ _ _ at hcon
  refine hcon.mono ?_
  rintro e w' ⟨rfl, d', n, os, hp, hs, rfl⟩
  obtain ⟨hsize, _, hperm⟩ := hp
  refine ⟨rfl, d', (Sort.flatK encT 4 d').toList, hsize, ?_, fun i j hij hj => ?_, ?_, fun j hj => ?_, grown_put _⟩
  · have e1 : d'.extract 0 d.size = d' := by rw [← hsize]; exact Array.extract_size
    have e2 : d.extract 0 d.size = d := Array.extract_size
    rwa [e1, e2] at hperm
  · have h := hs i j (Nat.zero_le _) hij hj
    have h' : ¬ cmp d'[j]!.t d'[i]!.t < 0 := of_decide_eq_false h
    have := cmp_swap d'[j]!.t d'[i]!.t
    omega
  · refine ⟨by rw [Array.length_toList, Sort.size_flatK, hsize], .inr ⟨g, cap, _, rfl, hbase, heap_put _ hcur, hnc, hcm, by simp [Sort.putCells, hcs], ?_⟩⟩
    have hF : (Sort.flatK encT 4 d').size = d.size * 4 := by rw [Sort.size_flatK, hsize]
    rw [← hF]
    exact take_put _ _ (by rw [hF, hcs]; omega)
  · have hget : ∀ c, c < 4 → (Sort.flatK encT 4 d').toList[j * 4 + c]? = some (encT d'[j]!)[c]! := by
      intro c hc
      have hlt : j * 4 + c < d'.size * 4 := by omega
      have h := Sort.get_flatK encT 4 d' (j * 4 + c) hlt
      rw [show (j * 4 + c) / 4 = j by omega, show (j * 4 + c) % 4 = c by omega] at h
      rw [Array.getElem?_toList, ← h, getElem!_pos _ _ (by rw [Sort.size_flatK]; exact hlt)]
      exact Array.getElem?_eq_getElem _
    exact ⟨hget 0 (by omega), hget 1 (by omega), hget 2 (by omega), hget 3 (by omega)⟩
end Go.Proofs.Ytkkmjaggebjcbaa.termso
