/-
  Tmd, Termsp, Termpr, Termpw, Termcy, merged.
-/
import Derived.Test.YtkkmjaggebjcbaaGreatPk08
import Derived.Test.YtkkmjaggebjcbaaGreatPk06
/-
 THE LIBRARY'S SORT AT A ROW OF TERMS OF ONE'S OWN, WHOSE ELEMENTS ARE READ IN A WORLD WITHOUT THAT ROW.
-/
namespace Go.Proofs.YtkkmjaggebjcbaaGreat.tmd
open Go.ChangeShapes Go.WideShapes Go.ChangeAt Go.RowKit
open mem dec rowl trm trmv terml termb termt termx termcl termso tma tmr

theorem cmp_laysX (N lo g size : Nat) (wl w : World) (hg : ∀ w', Chg [g] w w' → Sub wl w') (n0 : Nat) (hn : n0 = 0) :
  CmpLays Tryz.prog 101 #[] (encT (N := N) (lo := lo) (w := wl)) 4 cfT g n0 size w := by
 intro m os dk hdk x y
 subst hn
 have hc : Chg [g] w (sortWorldK encT 4 w g 0 m dk os) := grown_put _
 refine (compare_any (n := N) x.t y.t x.v y.v _ (has_sub N (hg _ hc) x.h) (has_sub N (hg _ hc) y.h) x.s).mono ?_
 rintro e w' ⟨rfl, h⟩
 exact ⟨rfl, h.grow⟩
/-- slices.SortFunc with CompareTerms -/
theorem sortX_any {N lo g cap base : Nat} (wl w : World) (d : Array (Elt N lo wl)) (hg : ∀ w', Chg [g] w w' → Sub wl w') (xs : List Value) (ho : w.ownsRow base 34 4 (.slice (some ⟨g, 0, none⟩) d.size cap) d.size xs)
  (hx : ∀ j, j < d.size → Cells4 xs j d[j]!.t d[j]!.v) (hsz : d.size < 4611686018427387904) :
  Calls Tryz.prog 135 #[.slice (some ⟨g, 0, none⟩) d.size cap, .func (.func 101) #[] #[]] w fun e w' => e = .returned (.tuple #[]) ∧
   ∃ (d' : Array (Elt N lo wl)) (xs' : List Value), d'.size = d.size ∧ d'.toList.Perm d.toList ∧ (∀ i j, i < j → j < d.size → cmp d'[i]!.t d'[j]!.t ≤ 0) ∧ w'.ownsRow base 34 4 (.slice (some ⟨g, 0, none⟩) d.size cap) d.size xs' ∧
    (∀ j, j < d.size → Cells4 xs' j d'[j]!.t d'[j]!.v) ∧ Chg [g] w w' := by
 have eg : ∀ args w, (callFunc 101 args).run Tryz.prog w = .ok (.enter 101 args) w := Go.Proofs.enters_of Tryz.func101 (by kernel_rfl) rfl
 obtain ⟨cur, hbase, hcur, hnc, hcm, hcs⟩ : ∃ cur, base ≤ g ∧ w.heap[g]? = some (.cells cur 34 (0, 0)) ∧ d.size ≤ cap ∧ cap ≤ maxLen ∧ cur.size = cap * 4 := by
  rcases ho.2 with ⟨hv, _⟩ | ⟨g', cap', cur, hv, hb, hg, hnc, hcm, hcs, _⟩
  ·cases hv
  ·simp only [Value.slice.injEq, Option.some.injEq, Addr.mk.injEq, and_true, true_and] at hv
   obtain ⟨rfl, rfl⟩ := hv
   exact ⟨cur, hb, hg, hnc, hcm, hcs⟩
 have hgw : g < w.heap.size := (Array.getElem?_eq_some_iff.1 hcur).1
 have hcell : ∀ (xs : List Value) (d : Array (Elt N lo wl)) j, Cells4 xs j d[j]!.t d[j]!.v → ∀ c, c < 4 → xs[j * 4 + c]? = some (encT d[j]!)[c]! := by
  rintro xs d j ⟨a, b, c, e⟩ i hi
  match i, hi with
  | 0, _ => exact a
  | 1, _ => exact b
  | 2, _ => exact c
  | 3, _ => exact e
 have hH : Sort.HoldsK encT 4 w g 0 d := by
  intro t ht
  rw [Sort.size_flatK] at ht
  rw [Nat.zero_add, Sort.get_flatK _ _ _ _ ht, ho.cellAt t (by omega)]
  have h4 := hcell xs d (t / 4) (hx (t / 4) (by omega)) (t % 4) (by omega)
  rw [show t / 4 * 4 + t % 4 = t by omega] at h4
  exact ⟨h4, ho.frozenAt _⟩
 have hcon := AnyQ.slices_SortFunc termsl.sortT 4 Tryz.isAgg34 Tryz.sizeOf34 encT (fun _ => rfl) (fun x v hv => by
   obtain ⟨A, c, e, _⟩ := HasR.shape x.h rfl
   simp only [encT, List.mem_cons, List.not_mem_nil, or_false] at hv
   rcases hv with rfl | rfl | rfl | rfl
   ·rfl
   ·rfl
   ·rfl
   ·rw [e]; rfl) cfT (swoT N lo wl) 101 #[] g 0 cap d w eg (cmp_laysX N lo g d.size wl w hg 0 rfl) hH hgw hsz
 change Calls Tryz.prog 135 _ _ _ at hcon
 refine hcon.mono ?_
 rintro e w' ⟨rfl, d', n, os, hp, hs, rfl⟩
 obtain ⟨hsize, _, hperm⟩ := hp
 refine ⟨rfl, d', (Sort.flatK encT 4 d').toList, hsize, ?_, fun i j hij hj => ?_, ?_, fun j hj => ?_, grown_put _⟩
 ·have e1 : d'.extract 0 d.size = d' := by rw [← hsize]; exact Array.extract_size
  have e2 : d.extract 0 d.size = d := Array.extract_size
  rwa [e1, e2] at hperm
 ·have h := hs i j (Nat.zero_le _) hij hj
  have h' : ¬ cmp d'[j]!.t d'[i]!.t < 0 := of_decide_eq_false h
  have := cmp_swap d'[j]!.t d'[i]!.t
  omega
 ·refine ⟨by rw [Array.length_toList, Sort.size_flatK, hsize], .inr ⟨g, cap, _, rfl, hbase, heap_put _ hcur, hnc, hcm, by simp [Sort.putCells, hcs], ?_⟩⟩
  have hF : (Sort.flatK encT 4 d').size = d.size * 4 := by rw [Sort.size_flatK, hsize]
  rw [← hF]
  exact take_put _ _ (by rw [hF, hcs]; omega)
 ·have hget : ∀ c, c < 4 → (Sort.flatK encT 4 d').toList[j * 4 + c]? = some (encT d'[j]!)[c]! := by
   intro c hc
   have hlt : j * 4 + c < d'.size * 4 := by omega
   have h := Sort.get_flatK encT 4 d' (j * 4 + c) hlt
   rw [show (j * 4 + c) / 4 = j by omega, show (j * 4 + c) % 4 = c by omega] at h
   rw [Array.getElem?_toList, ← h, getElem!_pos _ _ (by rw [Sort.size_flatK]; exact hlt)]
   exact Array.getElem?_eq_getElem _
  exact ⟨hget 0 (by omega), hget 1 (by omega), hget 2 (by omega), hget 3 (by omega)⟩
/-- a row in order: the elements with their values -/
theorem sort_rows {N lo g cap base : Nat} (wl w : World) (R : List (TermM × Value)) (hE : ∀ x ∈ R, El N lo wl x) (hz : ∀ x ∈ R, sizes x.1.args ≤ 2097152) (hg : ∀ w', Chg [g] w w' → Sub wl w') (ho : w.ownsRow base 34 4 (.slice (some ⟨g, 0, none⟩) R.length cap) R.length (rowV R)) (hsz : R.length < 4611686018427387904) :
  Calls Tryz.prog 135 #[.slice (some ⟨g, 0, none⟩) R.length cap, .func (.func 101) #[] #[]] w fun e w' => e = .returned (.tuple #[]) ∧
   ∃ R' : List (TermM × Value), R'.length = R.length ∧ R'.map Prod.fst = sortM (R.map Prod.fst) ∧ (∀ x ∈ R', El N lo wl x) ∧ w'.ownsRow base 34 4 (.slice (some ⟨g, 0, none⟩) R.length cap) R'.length (rowV R') ∧ Chg [g] w w' := by
 obtain ⟨d, hd1, hd2⟩ : ∃ d : Array (Elt N lo wl), d.size = R.length ∧ ∀ j, j < R.length → d[j]!.t = (R.getD j p0).1 ∧ d[j]!.v = (R.getD j p0).2 := by
  refine ⟨Array.ofFn (n := R.length) fun j => ⟨(R.getD j.1 p0).1, (R.getD j.1 p0).2, (hE _ (mem_R j.2)).1, (hE _ (mem_R j.2)).2, hz _ (mem_R j.2)⟩, by simp, fun j hj => ?_⟩
  rw [getElem!_pos _ j (by simpa using hj)]
  simp only [Array.getElem_ofFn]
  exact ⟨by trivial, by trivial⟩
 have hc := sortX_any (cap := cap) (base := base) wl w d hg (rowV R) (by rw [hd1]; exact ho) (fun j hj => by
  rw [(hd2 j (by omega)).1, (hd2 j (by omega)).2]
  exact rowV_at R j (by omega)) (by omega)
 rw [hd1] at hc
 refine hc.mono ?_
 rintro e w' ⟨rfl, d', xs', h1, h2, h3, h4, h5, h6⟩
 obtain ⟨R', hR'⟩ : ∃ R' : List (TermM × Value), R' = d'.toList.map (fun x => (x.t, x.v)) := ⟨_, rfl⟩
 have hl : R'.length = R.length := by rw [hR', List.length_map, Array.length_toList, h1]
 have hat : ∀ (d : Array (Elt N lo wl)) j (hj : j < d.size), d[j]! = d[j] := fun d j hj => getElem!_pos d j hj
 have hRj : ∀ j, j < R.length → R'.getD j p0 = (d'[j]!.t, d'[j]!.v) := fun j hj => by
  rw [hR', List.getD_eq_getElem?_getD, List.getElem?_map, Array.getElem?_toList, Array.getElem?_eq_getElem (by omega), hat d' j (by omega)]
  rfl
 have hrow : xs' = rowV R' := by
  apply List.ext_getElem?
  intro p
  by_cases hp : p < R.length * 4
  ·obtain ⟨a, b, c, e⟩ := h5 (p / 4) (by omega)
   obtain ⟨a', b', c', e'⟩ := rowV_at R' (p / 4) (by omega)
   rw [hRj _ (by omega)] at a' b' c' e'
   have hpm : p = p / 4 * 4 + p % 4 := by omega
   rw [hpm]
   match p % 4, (show p % 4 < 4 by omega) with
   | 0, _ => exact a.trans a'.symm
   | 1, _ => exact b.trans b'.symm
   | 2, _ => exact c.trans c'.symm
   | 3, _ => exact e.trans e'.symm
  ·rw [List.getElem?_eq_none (by rw [h4.1]; omega), List.getElem?_eq_none (by rw [rowV_len, hl]; omega)]
 have hmap : d.toList.map (·.t) = R.map Prod.fst := by
  apply List.ext_getElem
  ·simp [hd1]
  ·intro j q1 q2
   have q3 : j < R.length := by simpa using q2
   have := (hd2 j q3).1
   rw [hat d j (by omega)] at this
   simp only [List.getElem_map, Array.getElem_toList]
   rw [this]
   simp [List.getD, List.getElem?_eq_getElem q3]
 refine ⟨rfl, R', hl, ?_, fun x hx => ?_, by rw [hl, ← hrow]; exact h4, h6⟩
 ·have e1 : R'.map Prod.fst = d'.toList.map (·.t) := by rw [hR', List.map_map]; rfl
  rw [e1]
  refine sortM_unique ?_ ((h2.map (fun x => x.t)).trans (by rw [hmap]))
  refine List.pairwise_iff_getElem.2 (fun i j hi hj hij => ?_)
  have hi' : i < d'.size := by simpa using hi
  have hj' : j < d'.size := by simpa using hj
  have q1 := h3 i j hij (by omega)
  rw [hat d' i hi', hat d' j hj'] at q1
  simpa using q1
 ·rw [hR'] at hx
  obtain ⟨y, _, rfl⟩ := List.mem_map.1 hx
  exact ⟨y.h, y.b⟩
end Go.Proofs.YtkkmjaggebjcbaaGreat.tmd
/-
 THE PROGRAM'S SortTerms: what is called at the nodes.
-/
namespace Go.Proofs.YtkkmjaggebjcbaaGreat.termsp
open Go.ChangeShapes Go.WideShapes Go.ChangeAt Go.RowKit
open mem dec rowl trm trmv terml termb termt termx termz termro termsd termvx termcl

/-- what a call at a node leaves: the row of its arguments is new, the elements are as they were -/
def SepPost (n lo : Nat) (wl : World) (g o : Nat) (t : TermM) (w : World) (e : Ending) (w' : World) : Prop := e = .returned (.bool true) ∧ ∃ (w1 : World) (v : Value) (vs : Nat → Value), Below w.heap.size w w1 ∧ w' = w1.setCell ⟨g, o + 3, none⟩ v ∧ w1.ownsRow w.heap.size 34 4 v t.args.length (fours t.args vs t.args.length) ∧ ∀ j, j < t.args.length → HasTs n lo wl (vs j) (t.args.getD j default).args ∧ Bnd (t.args.getD j default)
set_option maxRecDepth 50000 in
set_option maxHeartbeats 8000000 in
theorem sepVis {n lo : Nat} (g o d : Nat) (t : TermM) (va : Value) (wl w : World) (hbl : Below wl.heap.size wl w) (h : HasTs (n + 1) lo wl va t.args) (hl : t.args.length ≤ 1073741824) (t3 : w.cell? ⟨g, o + 3, none⟩ = some va) (hf : w.frozen? ⟨g, o + 3, none⟩ = false) :
  Calls Tryz.prog 89 (#[placeV (g, o, d)] ++ #[]) w (SepPost n lo wl g o t w) := by
 have hg := block_lt_of_cell t3
 simp only [] at hg
 have HCL := Lib.hid (fun W (hW : Below w.heap.size w W) => clone_any (hbl.trans (hW.mono hbl.size)) h hl)
 unfold placeV ptr
 show Calls _ _ #[.agg #[.pointer (some ⟨g, o, none⟩), .int .i64 d]] _ _
 obtain ⟨A, c, rfl, _⟩ := HasR.shape h rfl
 obtain ⟨q, hq⟩ : ∃ q, q = t.args.length := ⟨_, rfl⟩
 rw [← hq] at HCL t3
 clear h hq hbl
 go_enter Tryz.func89, Tryz.ntmps89
 go_wp2_with fail
 have hb1 : Below w.heap.size w (w.alloc (.cells #[.pointer (some ⟨g, o, none⟩), .int .i64 d] 174)) := (Below.refl _ _).alloc (Nat.le_refl _) _
 have p0 : (w.alloc (.cells #[.pointer (some ⟨g, o, none⟩), .int .i64 d] 174)).cell? ⟨w.heap.size, 0, none⟩ = some (.pointer (some ⟨g, o, none⟩)) := by simp
 have hz1 : w.heap.size < (w.alloc (.cells #[.pointer (some ⟨g, o, none⟩), .int .i64 d] 174)).heap.size := by simp
 generalize w.alloc (.cells #[.pointer (some ⟨g, o, none⟩), .int .i64 d] 174) = W at hb1 p0 hz1 ⊢
 have c3 := (hb1.cell (p := ⟨g, o + 3, none⟩) hg).trans t3
 have f3 := (hb1.frozen (p := ⟨g, o + 3, none⟩) hg).trans hf
 clear t3 hf
 have HBD : Hid (Below w.heap.size w W.drew) := Lib.hid hb1.drew
 refine wp_region_noPanic ?_
 refine wp_region_held_drew (S := (fun w' => w'.cell? ⟨w.heap.size, 0, none⟩ = some (.pointer (some ⟨g, o, none⟩)))) (by kernel_rfl) ?_ (fun hHd0 => ?_)
 ·exact p0
 refine wpAnyH_take (i := 0) (v := ?_) rfl (by kernel_rfl) (by kernel_rfl) (by kernel_rfl) (fun _ _ _ h => h) (Or.inl ⟨by rfl, ?_⟩) (by with_reducible assumption) ?_
 rotate_left
 ·intro w hSw; (try dsimp only at hSw); go_simp <;> with_reducible rfl
 (try simp only [Act.put]); (try simp only [List.setIfInBounds_toArray]); (try simp only [List.set_cons_succ, List.set_cons_zero])
 refine wpAnyH_take (i := 1) (v := ?_) rfl (by kernel_rfl) (by kernel_rfl) (by kernel_rfl) (fun _ _ _ h => h) (Or.inl ⟨by rfl, ?_⟩) (by with_reducible assumption) ?_
 rotate_left
 ·intro w hSw; (try dsimp only at hSw); go_simp <;> with_reducible rfl
 (try simp only [Act.put]); (try simp only [List.setIfInBounds_toArray]); (try simp only [List.set_cons_succ, List.set_cons_zero])
 refine wpAnyH_take (i := 2) (v := ?_) rfl (by kernel_rfl) (by kernel_rfl) (by kernel_rfl) (fun _ _ _ h => h) (Or.inl ⟨by rfl, ?_⟩) (by with_reducible assumption) ?_
 rotate_left
 ·intro w hSw; (try dsimp only at hSw); go_simp <;> with_reducible rfl
 (try simp only [Act.put]); (try simp only [List.setIfInBounds_toArray]); (try simp only [List.set_cons_succ, List.set_cons_zero])
 refine wpAnyH_take (i := 3) (v := ?_) rfl (by kernel_rfl) (by kernel_rfl) (by kernel_rfl) (fun _ _ _ h => h) (Or.inl ⟨by rfl, ?_⟩) (by with_reducible assumption) ?_
 rotate_left
 ·intro w hSw; (try dsimp only at hSw); go_simp <;> with_reducible rfl
 (try simp only [Act.put]); (try simp only [List.setIfInBounds_toArray]); (try simp only [List.set_cons_succ, List.set_cons_zero])
 refine wpAnyH_take (i := 4) (v := ?_) rfl (by kernel_rfl) (by kernel_rfl) (by kernel_rfl) (fun _ _ _ h => h) (Or.inl ⟨by rfl, ?_⟩) (by with_reducible assumption) ?_
 rotate_left
 ·intro w hSw; (try dsimp only at hSw); go_simp <;> with_reducible rfl
 (try simp only [Act.put]); (try simp only [List.setIfInBounds_toArray]); (try simp only [List.set_cons_succ, List.set_cons_zero])
 refine wpAnyH_take (i := 5) (v := ?_) rfl (by kernel_rfl) (by kernel_rfl) (by kernel_rfl) (fun _ _ _ h => h) (Or.inl ⟨by rfl, ?_⟩) (by with_reducible assumption) ?_
 rotate_left
 ·intro w hSw; (try dsimp only at hSw); go_simp <;> with_reducible rfl
 (try simp only [Act.put]); (try simp only [List.setIfInBounds_toArray]); (try simp only [List.set_cons_succ, List.set_cons_zero])
 refine wpAnyH_ready (rs := [6]) (by kernel_rfl) (by simp) ?_
 refine AllReadyH.cons (o := _) rfl (fun K hK => ?_) ?_
 ·go_simp
  refine hK.out _ _ ?_ (fun hHd1 => ?_)
  ·(try dsimp only); first | (with_reducible assumption) | (exact (World.cell?_setCell_other _ _ _ _ (fun e => by have e' := congrArg Addr.block e; simp at e'; omega)).trans hS1)
  clear hK K hHd0
  (try simp only [Act.put]); (try simp only [List.setIfInBounds_toArray]); (try simp only [List.set_cons_succ, List.set_cons_zero])
  refine wpAnyH_ready (rs := [7]) (by kernel_rfl) (by simp) ?_
  refine AllReadyH.cons (o := _) rfl (fun K hK => ?_) ?_
  ·(go_simp; (with_reducible refine (HCL.out _ HBD.out).mono ?_); rintro e w1 ⟨v, vs, rfl, ho, hargs, hb2⟩; have HB2 := Lib.hid hb2; have hS1 : w1.cell? ⟨w.heap.size, 0, none⟩ = some (.pointer (some ⟨g, o, none⟩)) := (hb2.cell (p := ⟨w.heap.size, 0, none⟩) hz1).trans p0; have c4 := (hb2.cell (p := ⟨g, o + 3, none⟩) (by show g < W.heap.size; omega)).trans c3; have f4 := (hb2.frozen (p := ⟨g, o + 3, none⟩) (by show g < W.heap.size; omega)).trans f3; obtain ⟨A9, c9, rfl, _⟩ := own_slice ho; have HQ := Lib.hid (And.intro ho hargs); clear ho hargs hb2; (try dsimp only))
   refine hK.out _ _ ?_ (fun hHd2 => ?_)
   ·(try dsimp only); first | (with_reducible assumption) | (exact (World.cell?_setCell_other _ _ _ _ (fun e => by have e' := congrArg Addr.block e; simp at e'; omega)).trans hS1)
   clear hK K hHd1
   (try simp only [Act.put]); (try simp only [List.setIfInBounds_toArray]); (try simp only [List.set_cons_succ, List.set_cons_zero])
   refine wpAnyH_take (i := 8) (v := ?_) rfl (by kernel_rfl) (by kernel_rfl) (by kernel_rfl) (fun _ _ _ h => h) (Or.inl ⟨by rfl, ?_⟩) (by with_reducible assumption) ?_
   rotate_left
   ·intro w hSw; (try dsimp only at hSw); go_simp <;> with_reducible rfl
   (try simp only [Act.put]); (try simp only [List.setIfInBounds_toArray]); (try simp only [List.set_cons_succ, List.set_cons_zero])
   refine wpAnyH_take (i := 9) (v := ?_) rfl (by kernel_rfl) (by kernel_rfl) (by kernel_rfl) (fun _ _ _ h => h) (Or.inl ⟨by rfl, ?_⟩) (by with_reducible assumption) ?_
   rotate_left
   ·intro w hSw; (try dsimp only at hSw); go_simp <;> with_reducible rfl
   (try simp only [Act.put]); (try simp only [List.setIfInBounds_toArray]); (try simp only [List.set_cons_succ, List.set_cons_zero])
   refine wpAnyH_ready (rs := [10]) (by kernel_rfl) (by simp) ?_
   refine AllReadyH.cons (o := _) rfl (fun K hK => ?_) ?_
   ·go_simp
    refine hK.out _ _ ?_ (fun hHd3 => ?_)
    ·(try dsimp only); first | (with_reducible assumption) | (exact (World.cell?_setCell_other _ _ _ _ (fun e => by have e' := congrArg Addr.block e; simp at e'; omega)).trans hS1)
    clear hK K hHd2
    (try simp only [Act.put]); (try simp only [List.setIfInBounds_toArray]); (try simp only [List.set_cons_succ, List.set_cons_zero])
    refine wpAnyH_done (by kernel_rfl) ?_ _
    refine NoPanic.normal ?_
    go_wp2
    go_ret
    have hbd : Below w.heap.size w w1 := hb1.trans (((Below.refl _ _).drew).trans (HB2.out.mono (Nat.le_refl _)) |>.mono hb1.size)
    refine ⟨rfl, w1, _, vs, hbd, rfl, own_mono HQ.out.1 (by show w.heap.size ≤ W.heap.size; omega), HQ.out.2⟩
   exact AllReadyH.nil
  exact AllReadyH.nil
 exact AllReadyH.nil
end Go.Proofs.YtkkmjaggebjcbaaGreat.termsp
/-
 PROMISES: trees under way, whose pending nodes still share their arguments. Any program.
-/
namespace Go.Proofs.YtkkmjaggebjcbaaGreat.termpr
open Go.ChangeShapes Go.WideShapes Go.ChangeAt Go.RowKit
open mem rowl trm trmv terml termb termt termx termz termro termsd termvx termcl termsp

theorem OT_succ {e : TypeId} : ∀ (n : Nat) {lo : Nat} {w : World} {v : Value} {L : List TermM} {S : List Nat}, OT e n lo w v L S → OT e (n + 1) lo w v L S
 | 0, _, _, _, _, _, h => h.elim
 | n + 1, _, _, _, _, _, ⟨xs, vs, Ss, ho, hS, hnd, hj⟩ => ⟨xs, vs, Ss, ho, hS, hnd, fun j hjl => ⟨(hj j hjl).1, (hj j hjl).2.1, OT_succ n (hj j hjl).2.2⟩⟩
theorem OT_up {e : TypeId} {n m : Nat} (h : n ≤ m) {lo : Nat} {w : World} {v : Value} {L : List TermM} {S : List Nat} (ho : OT e n lo w v L S) : OT e m lo w v L S := by
 induction h with
 | refl => exact ho
 | step _ ih => exact OT_succ _ ih
/-- each pending node's arguments are rows of their own, of these blocks -/
def Dn (lo : Nat) (w : World) : List Ent → List TermM → List (List Nat) → Prop
 | [], [], [] => True
 | e :: L, t :: T, S :: Ss => (∃ v, w.cell? ⟨e.1, e.2.1 + 3, none⟩ = some v ∧ OT 34 (depth t) lo w v t.args S) ∧ Dn lo w L T Ss
 | _, _, _ => False
theorem Dn.len {lo : Nat} {w : World} : ∀ {L : List Ent} {T : List TermM} {Ss : List (List Nat)}, Dn lo w L T Ss → Ss.length = L.length
 | [], [], [], _ => rfl
 | _ :: L, _ :: T, _ :: Ss, h => by rw [List.length_cons, List.length_cons, Dn.len h.2]
 | [], [], _ :: _, h => h.elim
 | [], _ :: _, _, h => h.elim
 | _ :: _, [], _, h => h.elim
 | _ :: _, _ :: _, [], h => h.elim
theorem Dn.split {lo : Nat} {w : World} : ∀ {L M : List Ent} {T U : List TermM} {Ss : List (List Nat)}, L.length = T.length → Dn lo w (L ++ M) (T ++ U) Ss → ∃ A B, Ss = A ++ B ∧ Dn lo w L T A ∧ Dn lo w M U B
 | [], _, [], _, Ss, _, h => ⟨[], Ss, rfl, trivial, h⟩
 | [], _, _ :: _, _, _, hl, _ => by simp at hl
 | _ :: _, _, [], _, _, hl, _ => by simp at hl
 | e :: L, M, t :: T, U, [], _, h => h.elim
 | e :: L, M, t :: T, U, S :: Ss, hl, h => by
  obtain ⟨A, B, rfl, h1, h2⟩ := Dn.split (L := L) (T := T) (by simpa using hl) h.2
  exact ⟨S :: A, B, rfl, ⟨h.1, h1⟩, h2⟩
/-- the argument cells of the pending nodes -/
def pos (L : List Ent) : List (Nat × Nat) := L.map fun e => (e.1, e.2.1 + 3)
/-- the rows in the blocks of F stand, but at P -/
def RowsKept (lo : Nat) (F : List Nat) (P : List (Nat × Nat)) (w w' : World) : Prop := ∀ g ∈ F, ∀ n cap xs, w.ownsRow lo 34 4 (.slice (some ⟨g, 0, none⟩) n cap) n xs →
 ∃ xs', w'.ownsRow lo 34 4 (.slice (some ⟨g, 0, none⟩) n cap) n xs' ∧ ∀ p, (g, p) ∉ P → xs'[p]? = xs[p]?
theorem RowsKept.trans {lo : Nat} {F : List Nat} {P : List (Nat × Nat)} {a b c : World} (h : RowsKept lo F P a b) (k : RowsKept lo F P b c) : RowsKept lo F P a c := by
 intro g hg n cap xs hx
 obtain ⟨ys, h1, h2⟩ := h g hg n cap xs hx
 obtain ⟨zs, h3, h4⟩ := k g hg n cap ys h1
 exact ⟨zs, h3, fun p hp => (h4 p hp).trans (h2 p hp)⟩
theorem RowsKept.mono {lo : Nat} {F F' : List Nat} {P P' : List (Nat × Nat)} {a b : World} (h : RowsKept lo F P a b) (hF : ∀ g ∈ F', g ∈ F) (hP : ∀ g ∈ F', ∀ p, (g, p) ∈ P → (g, p) ∈ P') : RowsKept lo F' P' a b := by
 intro g hg n cap xs hx
 obtain ⟨ys, h1, h2⟩ := h g (hF g hg) n cap xs hx
 exact ⟨ys, h1, fun p hp => h2 p (fun hm => hp (hP g hg p hm))⟩
/-- the promise: once the pending nodes' arguments are rows of their own, G -/
def Inv (lo lo2 : Nat) (G : World → Prop) (F : List Nat) (L : List Ent) (T : List TermM) (w : World) : Prop := ∀ w' Ss, RowsKept lo F (pos L) w w' → Dn lo2 w' L T Ss → (F ++ Ss.flatten).Nodup → G w'
theorem Inv.kept {lo lo2 : Nat} {G : World → Prop} {F : List Nat} {L : List Ent} {T : List TermM} {w w' : World} (h : Inv lo lo2 G F L T w) (hk : RowsKept lo F (pos L) w w') : Inv lo lo2 G F L T w' := fun w2 Ss h1 h2 h3 => h w2 Ss (hk.trans h1) h2 h3
/-- the kids' rows, by their place -/
theorem dn_kids {lo : Nat} {w : World} (l : List TermM) (g d : Nat) : ∀ (m : Nat) {A : List (List Nat)}, m ≤ l.length → Dn lo w (kids g 0 d m) ((l.take m).reverse) A →
  ∃ Sf : Nat → List Nat, A.flatten.Perm ((List.range m).flatMap Sf) ∧ ∀ j, j < m → ∃ v, w.cell? ⟨g, j * 4 + 3, none⟩ = some v ∧ OT 34 (depth (l.getD j default)) lo w v (l.getD j default).args (Sf j)
 | 0, A, _, h => by
  cases A with
  | nil => exact ⟨fun _ => [], by simp, fun j hj => by omega⟩
  | cons S A => simp [kids, Dn] at h
 | m + 1, A, hm, h => by
  have e : (l.take (m + 1)).reverse = l.getD m default :: (l.take m).reverse := by
   rw [List.take_succ_eq_append_getElem (by omega), List.reverse_append, getD_at (by omega)]; rfl
  rw [e] at h
  cases A with
  | nil => exact h.elim
  | cons S A =>
   obtain ⟨⟨v, hv, ho⟩, h2⟩ := h
   obtain ⟨Sf, hp, hj⟩ := dn_kids l g d m (by omega) h2
   have key : ∀ j, j < m → (if j = m then S else Sf j) = Sf j := fun j hj => if_neg (by omega)
   refine ⟨fun j => if j = m then S else Sf j, ?_, fun j hjm => ?_⟩
   ·rw [List.range_succ, List.flatMap_append, List.flatten_cons]
    have e2 : (List.range m).flatMap (fun j => if j = m then S else Sf j) = (List.range m).flatMap Sf := flatMap_same (fun j hj => key j (by simpa using hj))
    rw [e2]
    simp only [List.flatMap_cons, List.flatMap_nil, List.append_nil, if_true]
    exact List.perm_append_comm.trans (hp.append_right S)
   ·by_cases hj2 : j = m
    ·subst hj2
     refine ⟨v, ?_, by simpa using ho⟩
     simpa using hv
    ·obtain ⟨v', h3, h4⟩ := hj j (by omega)
     exact ⟨v', h3, by simp only [if_neg hj2]; exact h4⟩
theorem depth_getD {l : List TermM} {j : Nat} (h : j < l.length) : depth (l.getD j default) ≤ depths l := by
 rw [getD_at h]; exact depth_mem (List.getElem_mem h)
/-- a node whose arguments' row is new, once its kids are done -/
theorem ot_node {lo g m c : Nat} {w : World} {t : TermM} {xs : List Value} {vs : Nat → Value} {Sf : Nat → List Nat} (hm : m = t.args.length) (ho : w.ownsRow lo 34 4 (.slice (some ⟨g, 0, none⟩) m c) m xs)
  (hx : ∀ p, (∀ j, j < m → p ≠ j * 4 + 3) → xs[p]? = (fours t.args vs m)[p]?) (hb : ∀ j, j < m → Bnd (t.args.getD j default)) (hk : ∀ j, j < m → ∃ v, w.cell? ⟨g, j * 4 + 3, none⟩ = some v ∧ OT 34 (depth (t.args.getD j default)) lo w v (t.args.getD j default).args (Sf j))
  (hn : (g :: (List.range m).flatMap Sf).Nodup) : OT 34 (depth t) lo w (.slice (some ⟨g, 0, none⟩) m c) t.args (g :: (List.range m).flatMap Sf) := by
 rw [depth_eq]
 subst hm
 refine ⟨xs, fun j => xs.getD (j * 4 + 3) undef, Sf, ho, by simp [Value.ownBlock], hn, fun j hj => ?_⟩
 obtain ⟨a, b, c', _⟩ := fours_at t.args vs t.args.length j hj
 obtain ⟨v, h1, h2⟩ := hk j hj
 have h3 : xs[j * 4 + 3]? = some v := by rw [← ho.cellAt (j * 4 + 3) (by omega)]; exact h1
 refine ⟨⟨(hx _ (fun i hi => by omega)).trans a, (hx _ (fun i hi => by omega)).trans b, (hx _ (fun i hi => by omega)).trans c', ?_⟩, hb j hj, ?_⟩
 ·simp only [List.getD, h3, Option.getD_some]
 ·simp only [List.getD, h3, Option.getD_some]
  exact OT_up (depth_getD hj) h2
theorem pos_kids {g d : Nat} : ∀ {m : Nat} {x p : Nat}, (x, p) ∈ pos (kids g 0 d m) → x = g ∧ ∃ j, j < m ∧ p = j * 4 + 3
 | 0, _, _, h => by simp [pos, kids] at h
 | m + 1, x, p, h => by
  simp only [pos, kids, List.map_cons, List.mem_cons, Prod.mk.injEq] at h
  rcases h with ⟨rfl, rfl⟩ | h
  ·exact ⟨rfl, m, Nat.lt_succ_self _, by omega⟩
  ·obtain ⟨h1, j, h2, h3⟩ := pos_kids (m := m) h
   exact ⟨h1, j, by omega, h3⟩
theorem pos_mem {L : List Ent} {x p : Nat} (h : (x, p) ∈ pos L) : ∃ e ∈ L, e.1 = x := by
 obtain ⟨e, he, h⟩ := List.mem_map.1 h
 simp only [Prod.mk.injEq] at h
 exact ⟨e, he, h.1⟩
theorem rows_below {lo : Nat} {F : List Nat} {P : List (Nat × Nat)} {w w' : World} (h : Below w.heap.size w w') : RowsKept lo F P w w' := fun _ _ _ _ xs hx => ⟨xs, own_below hx h, fun _ _ => rfl⟩
theorem rows_set {lo : Nat} {F : List Nat} {P : List (Nat × Nat)} {w : World} {g o : Nat} (v : Value) (h : (g, o) ∈ P) : RowsKept lo F P w (w.setCell ⟨g, o, none⟩ v) := by
 intro g' _ n cap xs hx
 by_cases e : g' = g
 ·subst e
  exact ⟨_, setCell_own hx o v, fun p hp => List.getElem?_set_ne (fun e => hp (by rw [← e]; exact h))⟩
 ·refine ⟨xs, ?_, fun _ _ => rfl⟩
  exact (Chg.set (S := [g]) (by simp) v).own hx (fun x hx => by simp [Value.ownBlock] at hx; subst hx; simpa using e)
theorem take_rev (l : List TermM) {m : Nat} (h : m = l.length) : (l.take m).reverse = l.reverse := by rw [List.take_of_length_le (by omega)]
theorem own_raise {w : World} {base base' n g cap size : Nat} {e : TypeId} {xs : List Value} (h : w.ownsRow base e size (.slice (some ⟨g, 0, none⟩) n cap) n xs) (hg : base' ≤ g) : w.ownsRow base' e size (.slice (some ⟨g, 0, none⟩) n cap) n xs := by
 refine ⟨h.1, ?_⟩
 rcases h.2 with ⟨h2, _⟩ | ⟨g', cap', cur, hv, hb, r⟩
 ·cases h2
 ·have e := hv
  simp only [Value.slice.injEq, Option.some.injEq, Addr.mk.injEq, and_true, true_and] at e
  obtain ⟨rfl, rfl⟩ := e
  exact .inr ⟨g, cap, cur, rfl, hg, r⟩
/-- one visit: the node's arguments have got a row of their own, its kids are pending in its place -/
theorem Inv.visit {lo lo2 : Nat} {G : World → Prop} {F : List Nat} {e : Ent} {L : List Ent} {t : TermM} {T : List TermM} {w w1 : World} {g' m c d : Nat} {vs : Nat → Value} (hI : Inv lo lo2 G F (e :: L) (t :: T) w) (hb : Below w.heap.size w w1) (hm : m = t.args.length)
  (ho : w1.ownsRow w.heap.size 34 4 (.slice (some ⟨g', 0, none⟩) m c) m (fours t.args vs m)) (hbn : ∀ j, j < m → Bnd (t.args.getD j default)) (hlo : lo ≤ w.heap.size) (hlo2 : lo2 ≤ w.heap.size) (hF : ∀ k ∈ F, k < w.heap.size) (hLF : ∀ x ∈ e :: L, x.1 ∈ F)
  (hrow : ∃ n cap xs, w.ownsRow lo 34 4 (.slice (some ⟨e.1, 0, none⟩) n cap) n xs ∧ e.2.1 + 3 < n * 4) (hpos : (pos (e :: L)).Nodup) :
  Inv lo lo2 G (g' :: F) (kids g' 0 d m ++ L) (t.args.reverse ++ T) (w1.setCell ⟨e.1, e.2.1 + 3, none⟩ (.slice (some ⟨g', 0, none⟩) m c)) := by
 intro w' Ss hRK hDn hNd
 have hg' : w.heap.size ≤ g' := (own_lt ho).1
 have heF := hLF e (by simp)
 have hne : ∀ k ∈ F, k ≠ g' := fun k hk e => by have := hF k hk; omega
 obtain ⟨A, B, rfl, hA, hB⟩ := Dn.split (by rw [kids_len, List.length_reverse]; exact hm) hDn
 obtain ⟨Sf, hp, hj⟩ := dn_kids t.args g' d m (by omega) (by rw [take_rev _ hm]; exact hA)
 have hrow' : (w1.setCell ⟨e.1, e.2.1 + 3, none⟩ (.slice (some ⟨g', 0, none⟩) m c)).ownsRow lo 34 4 (.slice (some ⟨g', 0, none⟩) m c) m (fours t.args vs m) :=
  (Chg.set (S := [e.1]) (by simp) _).own (own_mono ho hlo) (fun x hx => by simp [Value.ownBlock] at hx; subst hx; simpa using (hne _ heF).symm)
 obtain ⟨xs', hx1, hx2⟩ := hRK g' (by simp) m c _ hrow'
 have hnd2 : (F ++ ((g' :: (List.range m).flatMap Sf) :: B).flatten).Nodup := by
  refine (List.Perm.nodup_iff ?_).1 hNd
  rw [List.flatten_cons, List.flatten_append]
  have p1 : (A.flatten ++ B.flatten).Perm ((List.range m).flatMap Sf ++ B.flatten) := hp.append_right _
  have p2 : (g' :: F ++ (A.flatten ++ B.flatten)).Perm (g' :: F ++ ((List.range m).flatMap Sf ++ B.flatten)) := List.Perm.append_left _ p1
  refine p2.trans ?_
  simpa using (List.perm_middle (a := g') (l₁ := F) (l₂ := (List.range m).flatMap Sf ++ B.flatten)).symm
 have hnode : (g' :: (List.range m).flatMap Sf).Nodup := by
  have h1 := (List.nodup_append.1 hnd2).2.1
  rw [List.flatten_cons] at h1
  exact (List.nodup_append.1 h1).1
 have hot := ot_node (lo := lo2) (vs := vs) hm (own_raise hx1 (Nat.le_trans hlo2 hg')) (fun p hp' => hx2 p (fun hm' => by
  unfold pos at hm'
  rw [List.map_append, List.mem_append] at hm'
  rcases hm' with h | h
  ·obtain ⟨_, j, h1, h2⟩ := pos_kids h
   exact hp' j h1 h2
  ·obtain ⟨x, hx, e1⟩ := pos_mem h
   exact hne _ (hLF x (by simp [hx])) e1)) hbn hj hnode
 obtain ⟨n, cap, xe, hxe, hlt⟩ := hrow
 have hxe1 := setCell_own (own_below hxe hb) (e.2.1 + 3) (.slice (some ⟨g', 0, none⟩) m c)
 obtain ⟨ye, hy1, hy2⟩ := hRK e.1 (by simp [heF]) n cap _ hxe1
 have hnot : (e.1, e.2.1 + 3) ∉ pos (kids g' 0 d m ++ L) := fun hm' => by
  unfold pos at hm'
  rw [List.map_append, List.mem_append] at hm'
  rcases hm' with h | h
  ·exact hne _ heF (pos_kids h).1
  ·unfold pos at hpos
   rw [List.map_cons, List.nodup_cons] at hpos
   exact hpos.1 h
 have hcell : w'.cell? ⟨e.1, e.2.1 + 3, none⟩ = some (.slice (some ⟨g', 0, none⟩) m c) := by
  rw [hy1.cellAt _ hlt, hy2 _ hnot, List.getElem?_set_self (by have := hxe.1; omega)]
 refine hI w' ((g' :: (List.range m).flatMap Sf) :: B) ?_ ⟨⟨_, hcell, hot⟩, hB⟩ hnd2
 refine (rows_below hb).trans ((rows_set _ (by simp [pos])).trans (hRK.mono (fun g hg => by simp [hg]) (fun g hg p hp' => ?_)))
 unfold pos at hp'
 rw [List.map_append, List.mem_append] at hp'
 rcases hp' with h | h
 ·exact absurd (pos_kids h).1 (hne g hg)
 ·unfold pos
  rw [List.map_cons]
  exact List.mem_cons_of_mem _ h
/-- one visit of a node whose arguments are nil -/
theorem Inv.visit_nil {lo lo2 : Nat} {G : World → Prop} {F : List Nat} {e : Ent} {L : List Ent} {t : TermM} {T : List TermM} {w w1 : World} (hI : Inv lo lo2 G F (e :: L) (t :: T) w) (hb : Below w.heap.size w w1) (hm : t.args = []) (heF : e.1 ∈ F)
  (hrow : ∃ n cap xs, w.ownsRow lo 34 4 (.slice (some ⟨e.1, 0, none⟩) n cap) n xs ∧ e.2.1 + 3 < n * 4) (hpos : (pos (e :: L)).Nodup) :
  Inv lo lo2 G F L T (w1.setCell ⟨e.1, e.2.1 + 3, none⟩ (.slice none 0 0)) := by
 intro w' Ss hRK hDn hNd
 obtain ⟨n, cap, xe, hxe, hlt⟩ := hrow
 have hxe1 := setCell_own (own_below hxe hb) (e.2.1 + 3) (.slice none 0 0)
 obtain ⟨ye, hy1, hy2⟩ := hRK e.1 heF n cap _ hxe1
 have hnot : (e.1, e.2.1 + 3) ∉ pos L := by
  unfold pos at hpos ⊢
  rw [List.map_cons, List.nodup_cons] at hpos
  exact hpos.1
 have hcell : w'.cell? ⟨e.1, e.2.1 + 3, none⟩ = some (.slice none 0 0) := by
  rw [hy1.cellAt _ hlt, hy2 _ hnot, List.getElem?_set_self (by have := hxe.1; omega)]
 have hot : OT 34 (depth t) lo2 w' (.slice none 0 0) t.args [] := by
  rw [depth_eq, hm]; exact OT.nil _ _ lo2 w'
 refine hI w' ([] :: Ss) ?_ ⟨⟨_, hcell, hot⟩, hDn⟩ (by simpa using hNd)
 refine (rows_below hb).trans ((rows_set _ (by simp [pos])).trans (hRK.mono (fun g hg => hg) (fun g hg p hp' => ?_)))
 unfold pos at hp' ⊢
 rw [List.map_cons]
 exact List.mem_cons_of_mem _ hp'
end Go.Proofs.YtkkmjaggebjcbaaGreat.termpr
/-
 THE WALK WITH separateArgs: each node's arguments get a row of their own.
-/
namespace Go.Proofs.YtkkmjaggebjcbaaGreat.termpw
open Go.ChangeShapes Go.WideShapes Go.ChangeAt Go.RowKit
open mem rowl trm trmv terml termb termt termx termz termro termsd termvx termcl termsp termpr

def AllT (Q : Ent → TermM → Prop) : List Ent → List TermM → Prop
 | [], [] => True
 | e :: L, t :: T => Q e t ∧ AllT Q L T
 | _, _ => False
theorem AllT.imp {Q Q' : Ent → TermM → Prop} : ∀ {L : List Ent} {T : List TermM}, AllT Q L T → (∀ e ∈ L, ∀ t, Q e t → Q' e t) → AllT Q' L T
 | [], [], _, _ => trivial
 | e :: L, t :: T, ⟨a, b⟩, h => ⟨h e (by simp) t a, b.imp (fun x hx => h x (by simp [hx]))⟩
 | [], _ :: _, h, _ => h.elim
 | _ :: _, [], h, _ => h.elim
theorem AllT.append {Q : Ent → TermM → Prop} : ∀ {L M : List Ent} {T U : List TermM}, AllT Q L T → AllT Q M U → AllT Q (L ++ M) (T ++ U)
 | [], _, [], _, _, h => h
 | _ :: _, _, _ :: _, _, ⟨a, b⟩, h => ⟨a, AllT.append b h⟩
 | [], _, _ :: _, _, h, _ => h.elim
 | _ :: _, _, [], _, h, _ => h.elim
theorem AllT.len {Q : Ent → TermM → Prop} : ∀ {L : List Ent} {T : List TermM}, AllT Q L T → L.length = T.length
 | [], [], _ => rfl
 | _ :: _, _ :: _, ⟨_, b⟩ => by rw [List.length_cons, List.length_cons, AllT.len b]
 | [], _ :: _, h => h.elim
 | _ :: _, [], h => h.elim
theorem AllT.get {Q : Ent → TermM → Prop} : ∀ {L : List Ent} {T : List TermM}, AllT Q L T → ∀ e ∈ L, ∃ t, Q e t
 | [], [], _, e, he => by simp at he
 | x :: L, t :: T, ⟨a, b⟩, e, he => by
  rcases List.mem_cons.1 he with rfl | he
  ·exact ⟨t, a⟩
  ·exact b.get e he
 | [], _ :: _, h, _, _ => h.elim
 | _ :: _, [], h, _, _ => h.elim
/-- a pending node: it lies in a row of F; its arguments are read in the old world -/
def PendOk (N lo : Nat) (wl : World) (B : Nat) (F : List Nat) (w : World) (e : Ent) (t : TermM) : Prop := e.2.2 + depth t ≤ 1073741824 ∧ e.1 ∈ F ∧ (∃ v, w.cell? ⟨e.1, e.2.1 + 3, none⟩ = some v ∧ HasTs N lo wl v t.args) ∧ ∃ n cap xs, w.ownsRow B 34 4 (.slice (some ⟨e.1, 0, none⟩) n cap) n xs ∧ e.2.1 + 3 < n * 4
theorem PendOk.chg {N lo : Nat} {wl : World} {B : Nat} {F F' S : List Nat} {w w' : World} {e : Ent} {t : TermM} (h : PendOk N lo wl B F w e t) (hc : Chg S w w') (hF : ∀ k ∈ F, k ∈ F') (hS : e.1 ∉ S) : PendOk N lo wl B F' w' e t := by
 obtain ⟨h1, h2, ⟨v, h3, h4⟩, n, cap, xs, h5, h6⟩ := h
 refine ⟨h1, hF _ h2, ⟨v, ?_, h4⟩, n, cap, xs, hc.own h5 (fun g hg => ?_), h6⟩
 ·exact (World.cell?_of_block (a := ⟨e.1, e.2.1 + 3, none⟩) (hc.block _ (block_lt_of_cell h3) hS)).trans h3
 ·simp [Value.ownBlock] at hg; subst hg; exact hS
theorem PendOk.set {N lo : Nat} {wl : World} {B : Nat} {F : List Nat} {w : World} {e : Ent} {t : TermM} (h : PendOk N lo wl B F w e t) (g o : Nat) (u : Value) (hne : (e.1, e.2.1 + 3) ≠ (g, o)) : PendOk N lo wl B F (w.setCell ⟨g, o, none⟩ u) e t := by
 obtain ⟨h1, h2, ⟨v, h3, h4⟩, n, cap, xs, h5, h6⟩ := h
 refine ⟨h1, h2, ⟨v, ?_, h4⟩, ?_⟩
 ·refine (World.cell?_setCell_other w ⟨g, o, none⟩ ⟨e.1, e.2.1 + 3, none⟩ u (fun e' => hne ?_)).trans h3
  have e1 : g = e.1 := congrArg Addr.block e'
  have e2 : o = e.2.1 + 3 := congrArg Addr.off e'
  rw [e1, e2]
 ·obtain ⟨ys, h7, _⟩ := rows_set (lo := B) (F := [e.1]) (P := [(g, o)]) (w := w) (g := g) (o := o) u (by simp) e.1 (by simp) n cap xs h5
  exact ⟨n, cap, ys, h7, h6⟩
/-- the relation of the walk -/
def SepR (wl W0 : World) (N lo B : Nat) (F0 : List Nat) (G : World → Prop) (n : Nat) (S : List Nat) (L : List Ent) (w : World) : Prop := ∃ (T : List TermM) (F : List Nat), AllT (PendOk N lo wl B F w) L T ∧ sizes T ≤ n ∧ n ≤ 1073741824 ∧ (∀ k ∈ S, W0.heap.size ≤ k ∧ k < w.heap.size ∧ k ∉ F) ∧
 (∀ k ∈ F, (k ∈ F0 ∨ W0.heap.size ≤ k) ∧ k < w.heap.size) ∧ (∀ k ∈ F0, wl.heap.size ≤ k ∧ k < W0.heap.size) ∧ wl.heap.size ≤ W0.heap.size ∧ Below wl.heap.size wl w ∧ (pos L).Nodup ∧ Inv B W0.heap.size G F L T w ∧ B ≤ W0.heap.size ∧ Chg F0 W0 w ∧ F.Nodup
theorem sizes_ge (T : List TermM) : T.length ≤ sizes T := sizes_len T
theorem sep_keep {wl W0 : World} {N lo B : Nat} {F0 : List Nat} {G : World → Prop} {n : Nat} {S S' : List Nat} {L : List Ent} {w w' : World} (h : SepR wl W0 N lo B F0 G n S L w) (hc : Chg S w w') (hS : ∀ k ∈ S', (k ∈ S ∨ w.heap.size ≤ k) ∧ k < w'.heap.size) : SepR wl W0 N lo B F0 G n S' L w' := by
 obtain ⟨T, F, h1, h2, h3, h4, h5, h6, h7, h8, h9, h10, h11, h12, hFN⟩ := h
 refine ⟨T, F, h1.imp (fun e he t hp => hp.chg hc (fun k hk => hk) (fun hm => (h4 _ hm).2.2 hp.2.1)), h2, h3, fun k hk => ⟨?_, (hS k hk).2, fun hm => ?_⟩, fun k hk => ⟨(h5 k hk).1, Nat.lt_of_lt_of_le (h5 k hk).2 hc.size⟩, h6, h7, h8.trans (hc.below h8.size (fun k hk => by have := (h4 k hk).1; omega)), h9, h10.kept ?_, h11, ⟨hc.os.trans h12.os, hc.tape.trans h12.tape, hc.output.trans h12.output, Nat.le_trans h12.size hc.size, fun k hk hn => (hc.block k (Nat.lt_of_lt_of_le hk h12.size) (fun hm => by have := (h4 k hm).1; omega)).trans (h12.block k hk hn)⟩, hFN⟩
 ·rcases (hS k hk).1 with h | h
  ·exact (h4 k h).1
  ·exact Nat.le_trans h12.size h
 ·rcases (hS k hk).1 with h | h
  ·exact (h4 k h).2.2 hm
  ·have := (h5 k hm).2; omega
 ·intro g hg m cap xs hx
  exact ⟨xs, hc.own hx (fun x hx' => by simp [Value.ownBlock] at hx'; subst hx'; exact fun hm => (h4 _ hm).2.2 hg), fun _ _ => rfl⟩
theorem allT_kids {Q : Ent → TermM → Prop} (l : List TermM) (g d : Nat) : ∀ m, m ≤ l.length → (∀ j, j < m → Q (g, 0 + j * 4, d) (l.getD j default)) → AllT Q (kids g 0 d m) ((l.take m).reverse)
 | 0, _, _ => by simp [kids, AllT]
 | m + 1, hm, h => by
  have e : (l.take (m + 1)).reverse = l.getD m default :: (l.take m).reverse := by
   rw [List.take_succ_eq_append_getElem (by omega), List.reverse_append, getD_at (by omega)]; rfl
  rw [e]
  exact ⟨h m (Nat.lt_succ_self _), allT_kids l g d m (by omega) (fun j hj => h j (by omega))⟩
theorem pos_nodup_kids (g d : Nat) : ∀ m, (pos (kids g 0 d m)).Nodup
 | 0 => by simp [pos, kids]
 | m + 1 => by
  have ih := pos_nodup_kids g d m
  unfold pos at ih ⊢
  rw [kids, List.map_cons, List.nodup_cons]
  refine ⟨fun h => ?_, ih⟩
  obtain ⟨_, j, h1, h2⟩ := pos_kids (g := g) (d := d) (m := m) h
  have h3 : 0 + m * 4 + 3 = j * 4 + 3 := h2
  omega
theorem sizes_rev (l T : List TermM) : sizes (l.reverse ++ T) = sizes l + sizes T := by
 simp only [sizes, List.map_append, List.sum_append, List.map_reverse]
 congr 1
 exact List.sum_reverse _
theorem pos_cons_ne {e : Ent} {L : List Ent} (h : (pos (e :: L)).Nodup) : ∀ x ∈ L, (x.1, x.2.1 + 3) ≠ (e.1, e.2.1 + 3) := by
 unfold pos at h
 rw [List.map_cons, List.nodup_cons] at h
 exact fun x hx e => h.1 (by rw [← e]; exact List.mem_map.2 ⟨x, hx, rfl⟩)
theorem sep_visits (wl W0 : World) (N lo B : Nat) (F0 : List Nat) (G : World → Prop) (hB : B ≤ wl.heap.size) : Visits 89 #[] (SepR wl W0 N lo B F0 G) where
 keep := sep_keep
 ent := by
  rintro n S e L w ⟨T, F, h1, h2, h3, h4, h5, h6, h7, h8, h9, h10, h11, h12, hFN⟩
  cases T with
  | nil => exact h1.elim
  | cons t T =>
   obtain ⟨hp, hL⟩ := h1
   have hl := hL.len
   have h13 := sizes_ge T
   have h14 : sizes (t :: T) = size t + sizes T := by simp [sizes]
   exact ⟨(h5 _ hp.2.1).2, fun hm => (h4 _ hm).2.2 hp.2.1, by have := hp.1; omega, h3, by omega⟩
 visit := by
  rintro n S e L w ⟨T, F, h1, h2, h3, h4, h5, h6, h7, h8, h9, h10, h11, h12, hFN⟩
  cases T with
  | nil => exact h1.elim
  | cons t T =>
   obtain ⟨hp, hL⟩ := h1
   have hpc := hp
   obtain ⟨p1, p2, ⟨v, p3, p4⟩, nr, capr, xr, p5, p6⟩ := hp
   have h14 : sizes (t :: T) = size t + sizes T := by simp [sizes]
   have hst := size_eq t
   have hsl := sizes_ge t.args
   have hsp := size_pos t
   have hwe := (h5 _ p2).2
   have hwl : wl.heap.size ≤ e.1 := by
    rcases (h5 _ p2).1 with h | h
    ·exact (h6 _ h).1
    ·omega
   refine ⟨n - 1, by omega, (sepVis (n := N) (lo := lo) e.1 e.2.1 e.2.2 t v wl w h8 (p4.up (Nat.le_succ N)) (by omega) p3 (p5.frozenAt _)).mono ?_⟩
   rintro ex w' ⟨rfl, w1, v1, vs, hb1, rfl, ho, hargs⟩
   have heS : e.1 ∉ S := fun hm => (h4 _ hm).2.2 p2
   have hsz : w.heap.size ≤ (w1.setCell ⟨e.1, e.2.1 + 3, none⟩ v1).heap.size := by simpa [World.setCell] using hb1.size
   have hblk : ∀ k, k < w.heap.size → k ≠ e.1 → (w1.setCell ⟨e.1, e.2.1 + 3, none⟩ v1).heap[k]? = w.heap[k]? := fun k hk hne => (Below.heap_setCell w1 ⟨e.1, e.2.1 + 3, none⟩ v1 k hne).trans (hb1.block k hk)
   have hcell : (w1.setCell ⟨e.1, e.2.1 + 3, none⟩ v1).cell? ⟨e.1, e.2.1 + 3, none⟩ = some v1 := World.cell?_setCell_same _ _ _ ((hb1.cell (p := ⟨e.1, e.2.1 + 3, none⟩) hwe).trans p3)
   have hbl : Below wl.heap.size wl (w1.setCell ⟨e.1, e.2.1 + 3, none⟩ v1) := (h8.trans (hb1.mono h8.size)).setCell hwl v1
   have hch : Chg F0 W0 (w1.setCell ⟨e.1, e.2.1 + 3, none⟩ v1) := ⟨hb1.os.trans h12.os, hb1.tape.trans h12.tape, hb1.output.trans h12.output, Nat.le_trans h12.size hsz, fun k hk hn => by
    rw [hblk k (Nat.lt_of_lt_of_le hk h12.size) (fun e' => by
     subst e'
     rcases (h5 _ p2).1 with h | h
     ·exact hn h
     ·omega)]
    exact h12.block k hk hn⟩
   have hLp : AllT (PendOk N lo wl B F (w1.setCell ⟨e.1, e.2.1 + 3, none⟩ v1)) L T := hL.imp (fun x hx u hu => (hu.chg (Chg.of_below (S := []) hb1) (fun k hk => hk) (by simp)).set _ _ _ (pos_cons_ne h9 x hx))
   have h9' : (pos L).Nodup := by
    unfold pos at h9 ⊢
    rw [List.map_cons, List.nodup_cons] at h9
    exact h9.2
   have hS' : ∀ k ∈ S, W0.heap.size ≤ k ∧ k < (w1.setCell ⟨e.1, e.2.1 + 3, none⟩ v1).heap.size ∧ k ∉ F := fun k hk => ⟨(h4 k hk).1, Nat.lt_of_lt_of_le (h4 k hk).2.1 hsz, (h4 k hk).2.2⟩
   have hFs : ∀ k ∈ F, (k ∈ F0 ∨ W0.heap.size ≤ k) ∧ k < (w1.setCell ⟨e.1, e.2.1 + 3, none⟩ v1).heap.size := fun k hk => ⟨(h5 k hk).1, Nat.lt_of_lt_of_le (h5 k hk).2 hsz⟩
   refine ⟨true, rfl, hsz, fun k hk hlt => hblk k hlt (fun e' => heS (by rw [← e']; exact hk)), .inr ⟨rfl, ?_⟩⟩
   rcases ho.2 with ⟨rfl, h0⟩ | ⟨g', cap', cur, rfl, hg1, hg2, hg3, hg4, _⟩
   ·have hta : t.args = [] := List.eq_nil_of_length_eq_zero h0
    refine ⟨none, 0, 0, hcell, by omega, by omega, 0, 0, fun h => absurd rfl h, T, F, hLp, by omega, by omega, hS', hFs, h6, h7, hbl, h9', ?_, h11, hch, hFN⟩
    exact h10.visit_nil hb1 hta p2 ⟨nr, capr, xr, p5, p6⟩ h9
   ·have hgF : ∀ k ∈ F, k ≠ g' := fun k hk e' => by have := (h5 k hk).2; omega
    have hge : ¬ g' = e.1 := fun e' => hgF _ p2 e'.symm
    have hBw : B ≤ w.heap.size := by have := h8.size; omega
    have hrow : (w1.setCell ⟨e.1, e.2.1 + 3, none⟩ (.slice (some ⟨g', 0, none⟩) t.args.length cap')).ownsRow B 34 4 (.slice (some ⟨g', 0, none⟩) t.args.length cap') t.args.length (fours t.args vs t.args.length) :=
     (Chg.set (S := [e.1]) (by simp) _).own (own_mono ho hBw) (fun x hx => by simp [Value.ownBlock] at hx; subst hx; simpa using hge)
    have hLF : ∀ x ∈ e :: L, x.1 ∈ F := fun x hx => by
     rcases List.mem_cons.1 hx with rfl | hx
     ·exact p2
     ·obtain ⟨u, hu⟩ := hL.get x hx
      exact hu.2.1
    have hkids : AllT (PendOk N lo wl B (g' :: F) (w1.setCell ⟨e.1, e.2.1 + 3, none⟩ (.slice (some ⟨g', 0, none⟩) t.args.length cap'))) (kids g' 0 (e.2.2 + 1) t.args.length) t.args.reverse := by
     rw [← take_rev t.args rfl]
     refine allT_kids t.args g' (e.2.2 + 1) t.args.length (Nat.le_refl _) (fun j hj => ⟨?_, by simp, ⟨vs j, ?_, (hargs j hj).1⟩, t.args.length, cap', _, hrow, ?_⟩)
     ·have h1 := depth_getD hj
      have h2 := depth_eq t
      show e.2.2 + 1 + depth (t.args.getD j default) ≤ 1073741824
      omega
     ·have h1 := (fours_at t.args vs t.args.length j hj).2.2.2
      have h2 := hrow.cellAt (j * 4 + 3) (by omega)
      rw [h1] at h2
      show World.cell? _ ⟨g', 0 + j * 4 + 3, none⟩ = _
      rw [Nat.zero_add]
      exact h2
     ·show 0 + j * 4 + 3 < _
      omega
    refine ⟨some ⟨g', 0, none⟩, t.args.length, cap', hcell, by omega, hg3, g', 0, fun _ => rfl, t.args.reverse ++ T, g' :: F, hkids.append (hLp.imp (fun x hx u hu => hu.chg (Chg.refl [] _) (fun k hk => by simp [hk]) (by simp))), by rw [sizes_rev]; omega, by omega, fun k hk => ⟨(hS' k hk).1, (hS' k hk).2.1, fun hm => ?_⟩, fun k hk => ?_, h6, h7, hbl, ?_, ?_, h11, hch, List.nodup_cons.2 ⟨fun hm => hgF _ hm rfl, hFN⟩⟩
    ·rcases List.mem_cons.1 hm with rfl | hm
     ·have := (h4 _ hk).2.1; omega
     ·exact (hS' k hk).2.2 hm
    ·rcases List.mem_cons.1 hk with rfl | hk
     ·refine ⟨.inr (by have := h12.size; omega), ?_⟩
      have := (Array.getElem?_eq_some_iff.1 hg2).1
      simpa [World.setCell] using this
     ·exact hFs k hk
    ·unfold pos
     rw [List.map_append]
     refine List.nodup_append.2 ⟨pos_nodup_kids g' _ _, h9', fun x hx y hy e' => ?_⟩
     subst e'
     obtain ⟨x1, x2⟩ := x
     obtain ⟨u, hu, hue⟩ := pos_mem (L := L) hy
     exact hgF _ (hLF u (by simp [hu])) (hue.trans (pos_kids hx).1)
    ·exact h10.visit hb1 rfl ho (fun j hj => (hargs j hj).2) hBw h12.size (fun k hk => (h5 k hk).2) hLF ⟨nr, capr, xr, p5, p6⟩ h9
/-- what the walk through one element of a row leaves -/
def SepAny (B : Nat) (W : World) (gR i m cap : Nat) (t : TermM) (xs : List Value) (w' : World) : Prop := ∃ (v' : Value) (S : List Nat) (xs' : List Value), w'.ownsRow B 34 4 (.slice (some ⟨gR, 0, none⟩) m cap) m xs' ∧ (∀ p, p ≠ i * 4 + 3 → xs'[p]? = xs[p]?) ∧ xs'[i * 4 + 3]? = some v' ∧ OT 34 (depth t) W.heap.size w' v' t.args S ∧ gR ∉ S
/-- walkTerm with separateArgs at an element of a row of one's own -/
theorem sep_any {N lo B : Nat} (wl W : World) (gR i m cap : Nat) (t : TermM) (v : Value) (xs : List Value) (hbl : Below wl.heap.size wl W) (hB : B ≤ wl.heap.size) (hgl : wl.heap.size ≤ gR) (ho : W.ownsRow B 34 4 (.slice (some ⟨gR, 0, none⟩) m cap) m xs) (hi : i < m) (hc : xs[i * 4 + 3]? = some v) (hv : HasTs N lo wl v t.args) (hs : size t ≤ 1073741823) :
  Calls Tryz.prog 88 #[.pointer (some ⟨gR, i * 4, none⟩), .func (.func 89) #[] #[]] W fun e w' => e = .returned (.tuple #[]) ∧ SepAny B W gR i m cap t xs w' ∧ Chg [gR] W w' ∧ Below wl.heap.size wl w' := by
 have eg : ∀ args w, (callFunc 89 args).run Tryz.prog w = .ok (.enter 89 args) w := Go.Proofs.enters_of Tryz.func89 (by kernel_rfl) rfl
 have hgw := (own_lt ho).2.1
 have hdl := depth_le t
 have hcell : W.cell? ⟨gR, i * 4 + 3, none⟩ = some v := by rw [ho.cellAt _ (by omega)]; exact hc
 have hI : Inv B W.heap.size (SepAny B W gR i m cap t xs) [gR] [(gR, i * 4, 1)] [t] W := by
  intro w' Ss hRK hDn hNd
  cases Ss with
  | nil => exact hDn.elim
  | cons S Ss =>
   obtain ⟨⟨v', h1, h2⟩, h3⟩ := hDn
   cases Ss with
   | cons S' Ss => exact h3.elim
   | nil =>
    obtain ⟨xs', h4, h5⟩ := hRK gR (by simp) m cap xs ho
    refine ⟨v', S, xs', h4, fun p hp => h5 p (fun hm => ?_), ?_, h2, fun hm => ?_⟩
    ·simp [pos] at hm
     exact hp hm
    ·rw [← h4.cellAt (i * 4 + 3) (by omega)]; exact h1
    ·simp only [List.flatten_cons, List.flatten_nil, List.append_nil, List.singleton_append, List.nodup_cons] at hNd
     exact hNd.1 hm
 refine (walk_any _ _ eg _ (sep_visits wl W N lo B [gR] (SepAny B W gR i m cap t xs) hB) (size t) gR (i * 4) W ⟨[t], [gR], ⟨⟨by show 1 + depth t ≤ _; omega, by simp, ⟨v, hcell, hv⟩, m, cap, xs, ho, by show i * 4 + 3 < _; omega⟩, trivial⟩, by simp [sizes], by omega, fun k hk => by simp at hk, fun k hk => ?_, fun k hk => ?_, hbl.size, hbl, by simp [pos], hI, by have := hbl.size; omega, Chg.refl _ _, by simp⟩).mono ?_
 ·simp at hk; subst hk; exact ⟨.inl (by simp), hgw⟩
 ·simp at hk; subst hk; exact ⟨hgl, hgw⟩
 ·rintro e w' ⟨rfl, n', S, T, F, h1, _, _, _, _, _, _, h8, _, h10, _, h12, hFN⟩
  cases T with
  | cons p T => exact h1.elim
  | nil => exact ⟨rfl, h10 w' [] (fun g _ n c ys hy => ⟨ys, hy, fun _ _ => rfl⟩) trivial (by simpa using hFN), h12, h8⟩
end Go.Proofs.YtkkmjaggebjcbaaGreat.termpw
/-
 THE PROGRAM'S copyTerm: a term in memory of its own.
-/
namespace Go.Proofs.YtkkmjaggebjcbaaGreat.termcy
open Go.ChangeShapes Go.WideShapes Go.ChangeAt Go.RowKit
open mem rowl trm trmv terml termb termt termx termz termro termsd termvx termcl termsp termpr termpw

abbrev st4 (w : World) (x : Nat) (u0 u1 u2 u3 : Value) : World := (((w.setCell ⟨x, 0, none⟩ u0).setCell ⟨x, 1, none⟩ u1).setCell ⟨x, 2, none⟩ u2).setCell ⟨x, 3, none⟩ u3
theorem st4_below {B : Nat} {a w : World} (h : Below B a w) {x : Nat} (hx : B ≤ x) (u0 u1 u2 u3 : Value) : Below B a (st4 w x u0 u1 u2 u3) := (((h.setCell hx u0).setCell hx u1).setCell hx u2).setCell hx u3
theorem row1 (w : World) (u0 u1 u2 u3 : Value) : (w.alloc (.cells #[u0, u1, u2, u3] 34)).ownsRow w.heap.size 34 4 (.slice (some ⟨w.heap.size, 0, none⟩) 1 1) 1 [u0, u1, u2, u3] := by
 simpa using World.ownsRow_lit (e := 34) (size := 4) w #[u0, u1, u2, u3] 1 (Nat.le_refl _) (by unfold maxLen; omega) rfl
theorem ot_st4 {n lo : Nat} {w : World} {v : Value} {L : List TermM} {S : List Nat} (h : OT 34 n lo w v L S) {x : Nat} (hx : x < lo) (u0 u1 u2 u3 : Value) : OT 34 n lo (st4 w x u0 u1 u2 u3) v L S := by
 refine h.chg (S' := [x]) ?_ (fun k hk hm => ?_)
 ·exact ((((Chg.refl [x] w).trans (Chg.set (by simp) u0)).trans (Chg.set (by simp) u1)).trans (Chg.set (by simp) u2)).trans (Chg.set (by simp) u3)
 ·have := (h.lt k hk).1
  simp at hm
  omega
set_option maxRecDepth 20000 in
set_option maxHeartbeats 2000000 in
/-- impl.copyTerm -/
theorem icopy_any {N lo : Nat} (t : TermM) (v : Value) (w : World) (hv : HasTs N lo w v t.args) (hs : size t ≤ 1073741823) :
  Calls Tryz.prog 41 #[aggT t v] w fun e w' => ∃ v' S, e = .returned (aggT t v') ∧ OT 34 (depth t) w.heap.size w' v' t.args S ∧ Below w.heap.size w w' := by
 obtain ⟨W, hW⟩ : ∃ W, W = (w.alloc (.cells #[.int .i64 t.op, .string (bstr t.name), .int .i64 t.sort, v] 34)).alloc (.cells #[.int .i64 0, .string { data := #[] }, .int .i64 0, .slice none 0 0] 34) := ⟨_, rfl⟩
 have hb0 : Below w.heap.size w W := by rw [hW]; exact ((Below.refl _ _).alloc (Nat.le_refl _) _).alloc (by simp) _
 have hz0 : W.heap.size = w.heap.size + 2 := by rw [hW]; simp
 have hY0 : W.heap[w.heap.size + 1]? = some (.cells #[.int .i64 0, .string { data := #[] }, .int .i64 0, .slice none 0 0] 34 (0, 0)) := by rw [hW]; exact heap_at _ _ _ (by simp)
 have ho : W.ownsRow w.heap.size 34 4 (.slice (some ⟨w.heap.size, 0, none⟩) 1 1) 1 [.int .i64 t.op, .string (bstr t.name), .int .i64 t.sort, v] := by
  rw [hW]
  exact own_below (row1 w _ _ _ _) ((Below.refl _ _).alloc (Nat.le_refl _) _)
 have HSEP := Lib.hid (sep_any (N := N) (lo := lo) (B := w.heap.size) w W w.heap.size 0 1 1 t v _ hb0 (Nat.le_refl _) (Nat.le_refl _) ho (by omega) rfl hv hs)
 have HY := Lib.hid hY0
 obtain ⟨A, c, rfl, _⟩ := HasR.shape hv rfl
 obtain ⟨to, hto⟩ : ∃ q, q = t.op := ⟨_, rfl⟩
 obtain ⟨tn, htn⟩ : ∃ q, q = t.name := ⟨_, rfl⟩
 obtain ⟨ts, hts⟩ : ∃ q, q = t.sort := ⟨_, rfl⟩
 obtain ⟨tl, htl⟩ : ∃ q, q = t.args.length := ⟨_, rfl⟩
 have HQQ := Lib.hid (And.intro hto (And.intro htn (And.intro hts htl)))
 have HD := Lib.hid (termro.depth_eq t)
 unfold aggT
 rw [← hto, ← htn, ← hts] at hW HSEP ⊢
 rw [← htl] at hW HSEP ⊢
 have HZ := Lib.hid hz0
 clear hv hs hb0 hz0 hY0 ho hto htn hts htl
 go_enter Tryz.func41, Tryz.ntmps41
 go_wp2_with fail
 rw [← hW]
 clear hW
 simp only [Nat.zero_mul] at HSEP
 refine HSEP.out.mono ?_
 rintro e w7 ⟨rfl, ⟨v7, S7, xs7, ho7, hx7, hv7, hot7, hg7⟩, hch7, hb7⟩
 have hcell : ∀ p, p < 4 → w7.cell? ⟨w.heap.size, p, none⟩ = xs7[p]? := fun p hp => ho7.cellAt p (by omega)
 have k0 := (hcell 0 (by omega)).trans (hx7 0 (by omega))
 have k1 := (hcell 1 (by omega)).trans (hx7 1 (by omega))
 have k2 := (hcell 2 (by omega)).trans (hx7 2 (by omega))
 have k3 := (hcell 3 (by omega)).trans hv7
 simp at k0 k1 k2
 have hY7 := (hch7.block (w.heap.size + 1) (by rw [HZ.out]; omega) (by simp)).trans HY.out
 have z0 := cell_of_row w7 _ 0 _ _ _ hY7
 have z1 := cell_of_row w7 _ 1 _ _ _ hY7
 have z2 := cell_of_row w7 _ 2 _ _ _ hY7
 have z3 := cell_of_row w7 _ 3 _ _ _ hY7
 have q0 := frozen_of_row w7 _ 0 _ _ hY7
 have q1 := frozen_of_row w7 _ 1 _ _ hY7
 have q2 := frozen_of_row w7 _ 2 _ _ hY7
 have q3 := frozen_of_row w7 _ 3 _ _ hY7
 have hsz7 := hch7.size
 rw [HD.out] at hot7
 obtain ⟨A7, c7, rfl⟩ := OT.shape hot7
 rw [← HQQ.out.2.2.2] at k3
 have HFN : Hid (∀ u0 u1 u2 u3, ∃ v' S, (Ending.returned (.agg #[.int .i64 to, .string (bstr tn), .int .i64 ts, .slice A7 tl c7])) = .returned (.agg #[.int .i64 to, .string (bstr tn), .int .i64 ts, v']) ∧ OT 34 (depth t) w.heap.size (st4 w7 (w.heap.size + 1) u0 u1 u2 u3) v' t.args S ∧ Below w.heap.size w (st4 w7 (w.heap.size + 1) u0 u1 u2 u3)) := Lib.hid (fun u0 u1 u2 u3 => by
  refine ⟨.slice A7 tl c7, S7, rfl, ?_, st4_below hb7 (by omega) _ _ _ _⟩
  rw [HD.out, HQQ.out.2.2.2]
  exact (ot_st4 hot7 (x := w.heap.size + 1) (by rw [HZ.out]; omega) u0 u1 u2 u3).mono (by rw [HZ.out]; omega))
 clear ho7 hx7 hv7 hot7 hg7 hch7 hb7 hcell hsz7 hY7 HSEP HQQ HD HY
 go_wp2
 refine bodyPost_ret (v := .agg #[.int .i64 to, .string (bstr tn), .int .i64 ts, .slice A7 tl c7]) (by simp [results, Tryz.results41, go_sem, z0, z1, z2, z3]) rfl ?_
 exact HFN.out _ _ _ _
end Go.Proofs.YtkkmjaggebjcbaaGreat.termcy
