/-
  THE PROGRAM'S SortTerms: what is called at the nodes.
-/
import Derived.Test.YtiilamngcoegiaaTermcl
import Derived.Test.YtiilamngcoegiaaTermvx
namespace Go.Proofs.Ytiilamngcoegiaa.termsp
open Go.ChangeShapes Go.WideShapes Go.ChangeAt Go.RowKit
open mem dec rowl trm trmv terml termb termt termx termz termro termsd termvx termcl

/-- what a call at a node leaves: the row of its arguments is new, the elements are as they were -/
def SepPost (n lo : Nat) (wl : World) (g o : Nat) (t : TermM) (w : World) (e : Ending) (w' : World) : Prop := e = .returned (.bool true) ∧ ∃ (w1 : World) (v : Value) (vs : Nat → Value), Below w.heap.size w w1 ∧ w' = w1.setCell ⟨g, o + 3, none⟩ v ∧ w1.ownsRow w.heap.size 40 4 v t.args.length (fours t.args vs t.args.length) ∧ ∀ j, j < t.args.length → HasTs n lo wl (vs j) (t.args.getD j default).args ∧ Bnd (t.args.getD j default)
set_option maxRecDepth 50000 in
set_option maxHeartbeats 8000000 in
theorem sepVis {n lo : Nat} (g o d : Nat) (t : TermM) (va : Value) (wl w : World) (hbl : Below wl.heap.size wl w) (h : HasTs (n + 1) lo wl va t.args) (hl : t.args.length ≤ 1073741824) (t3 : w.cell? ⟨g, o + 3, none⟩ = some va) (hf : w.frozen? ⟨g, o + 3, none⟩ = false) :
    Calls Try.prog 50 (#[placeV (g, o, d)] ++ #[]) w (SepPost n lo wl g o t w) := by
  have hg := block_lt_of_cell t3
  simp only [] at hg
  have HCL := Lib.hid (fun W (hW : Below w.heap.size w W) => clone_any (hbl.trans (hW.mono hbl.size)) h hl)
  unfold placeV ptr
  show Calls _ _ #[.agg #[.pointer (some ⟨g, o, none⟩), .int .i64 d]] _ _
  obtain ⟨A, c, rfl, _⟩ := HasR.shape h rfl
  obtain ⟨q, hq⟩ : ∃ q, q = t.args.length := ⟨_, rfl⟩
  rw [← hq] at HCL t3
  clear h hq hbl
  go_enter Try.func50, Try.ntmps50
  go_wp2_with fail
  have hb1 : Below w.heap.size w (w.alloc (.cells #[.pointer (some ⟨g, o, none⟩), .int .i64 d] 90)) := (Below.refl _ _).alloc (Nat.le_refl _) _
  have p0 : (w.alloc (.cells #[.pointer (some ⟨g, o, none⟩), .int .i64 d] 90)).cell? ⟨w.heap.size, 0, none⟩ = some (.pointer (some ⟨g, o, none⟩)) := by simp
  have hz1 : w.heap.size < (w.alloc (.cells #[.pointer (some ⟨g, o, none⟩), .int .i64 d] 90)).heap.size := by simp
  generalize w.alloc (.cells #[.pointer (some ⟨g, o, none⟩), .int .i64 d] 90) = W at hb1 p0 hz1 ⊢
  have c3 := (hb1.cell (p := ⟨g, o + 3, none⟩) hg).trans t3
  have f3 := (hb1.frozen (p := ⟨g, o + 3, none⟩) hg).trans hf
  clear t3 hf
  have HBD : Hid (Below w.heap.size w W.drew) := Lib.hid hb1.drew
  refine wp_region_noPanic ?_
  refine wp_region_held_drew (S := (fun w' => w'.cell? ⟨w.heap.size, 0, none⟩ = some (.pointer (some ⟨g, o, none⟩)))) (by kernel_rfl) ?_ (fun hHd0 => ?_)
  · exact p0
  refine wpAnyH_take (i := 0) (v := ?_) rfl (by kernel_rfl) (by kernel_rfl) (by kernel_rfl) (fun _ _ _ h => h) (Or.inl ⟨by rfl, ?_⟩) (by with_reducible assumption) ?_
  rotate_left
  · intro w hSw; (try dsimp only at hSw); go_simp <;> with_reducible rfl
  (try simp only [Act.put]); (try simp only [List.setIfInBounds_toArray]); (try simp only [List.set_cons_succ, List.set_cons_zero])
  refine wpAnyH_take (i := 1) (v := ?_) rfl (by kernel_rfl) (by kernel_rfl) (by kernel_rfl) (fun _ _ _ h => h) (Or.inl ⟨by rfl, ?_⟩) (by with_reducible assumption) ?_
  rotate_left
  · intro w hSw; (try dsimp only at hSw); go_simp <;> with_reducible rfl
  (try simp only [Act.put]); (try simp only [List.setIfInBounds_toArray]); (try simp only [List.set_cons_succ, List.set_cons_zero])
  refine wpAnyH_take (i := 2) (v := ?_) rfl (by kernel_rfl) (by kernel_rfl) (by kernel_rfl) (fun _ _ _ h => h) (Or.inl ⟨by rfl, ?_⟩) (by with_reducible assumption) ?_
  rotate_left
  · intro w hSw; (try dsimp only at hSw); go_simp <;> with_reducible rfl
  (try simp only [Act.put]); (try simp only [List.setIfInBounds_toArray]); (try simp only [List.set_cons_succ, List.set_cons_zero])
  refine wpAnyH_take (i := 3) (v := ?_) rfl (by kernel_rfl) (by kernel_rfl) (by kernel_rfl) (fun _ _ _ h => h) (Or.inl ⟨by rfl, ?_⟩) (by with_reducible assumption) ?_
  rotate_left
  · intro w hSw; (try dsimp only at hSw); go_simp <;> with_reducible rfl
  (try simp only [Act.put]); (try simp only [List.setIfInBounds_toArray]); (try simp only [List.set_cons_succ, List.set_cons_zero])
  refine wpAnyH_take (i := 4) (v := ?_) rfl (by kernel_rfl) (by kernel_rfl) (by kernel_rfl) (fun _ _ _ h => h) (Or.inl ⟨by rfl, ?_⟩) (by with_reducible assumption) ?_
  rotate_left
  · intro w hSw; (try dsimp only at hSw); go_simp <;> with_reducible rfl
  (try simp only [Act.put]); (try simp only [List.setIfInBounds_toArray]); (try simp only [List.set_cons_succ, List.set_cons_zero])
  refine wpAnyH_take (i := 5) (v := ?_) rfl (by kernel_rfl) (by kernel_rfl) (by kernel_rfl) (fun _ _ _ h => h) (Or.inl ⟨by rfl, ?_⟩) (by with_reducible assumption) ?_
  rotate_left
  · intro w hSw; (try dsimp only at hSw); go_simp <;> with_reducible rfl
  (try simp only [Act.put]); (try simp only [List.setIfInBounds_toArray]); (try simp only [List.set_cons_succ, List.set_cons_zero])
  refine wpAnyH_ready (rs := [6]) (by kernel_rfl) (by simp) ?_
  refine AllReadyH.cons (o := _) rfl (fun K hK => ?_) ?_
  · go_simp
    refine hK.out _ _ ?_ (fun hHd1 => ?_)
    · (try dsimp only); first | (with_reducible assumption) | (exact (World.cell?_setCell_other _ _ _ _ (fun e => by have e' := congrArg Addr.block e; simp at e'; omega)).trans hS1)
    clear hK K hHd0
    (try simp only [Act.put]); (try simp only [List.setIfInBounds_toArray]); (try simp only [List.set_cons_succ, List.set_cons_zero])
    refine wpAnyH_ready (rs := [7]) (by kernel_rfl) (by simp) ?_
    refine AllReadyH.cons (o := _) rfl (fun K hK => ?_) ?_
    · (go_simp; (with_reducible refine (HCL.out _ HBD.out).mono ?_); rintro e w1 ⟨v, vs, rfl, ho, hargs, hb2⟩; have HB2 := Lib.hid hb2; have hS1 : w1.cell? ⟨w.heap.size, 0, none⟩ = some (.pointer (some ⟨g, o, none⟩)) := (hb2.cell (p := ⟨w.heap.size, 0, none⟩) hz1).trans p0; have c4 := (hb2.cell (p := ⟨g, o + 3, none⟩) (by show g < W.heap.size; omega)).trans c3; have f4 := (hb2.frozen (p := ⟨g, o + 3, none⟩) (by show g < W.heap.size; omega)).trans f3; obtain ⟨A9, c9, rfl, _⟩ := own_slice ho; have HQ := Lib.hid (And.intro ho hargs); clear ho hargs hb2; (try dsimp only))
      refine hK.out _ _ ?_ (fun hHd2 => ?_)
      · (try dsimp only); first | (with_reducible assumption) | (exact (World.cell?_setCell_other _ _ _ _ (fun e => by have e' := congrArg Addr.block e; simp at e'; omega)).trans hS1)
      clear hK K hHd1
      (try simp only [Act.put]); (try simp only [List.setIfInBounds_toArray]); (try simp only [List.set_cons_succ, List.set_cons_zero])
      refine wpAnyH_take (i := 8) (v := ?_) rfl (by kernel_rfl) (by kernel_rfl) (by kernel_rfl) (fun _ _ _ h => h) (Or.inl ⟨by rfl, ?_⟩) (by with_reducible assumption) ?_
      rotate_left
      · intro w hSw; (try dsimp only at hSw); go_simp <;> with_reducible rfl
      (try simp only [Act.put]); (try simp only [List.setIfInBounds_toArray]); (try simp only [List.set_cons_succ, List.set_cons_zero])
      refine wpAnyH_take (i := 9) (v := ?_) rfl (by kernel_rfl) (by kernel_rfl) (by kernel_rfl) (fun _ _ _ h => h) (Or.inl ⟨by rfl, ?_⟩) (by with_reducible assumption) ?_
      rotate_left
      · intro w hSw; (try dsimp only at hSw); go_simp <;> with_reducible rfl
      (try simp only [Act.put]); (try simp only [List.setIfInBounds_toArray]); (try simp only [List.set_cons_succ, List.set_cons_zero])
      refine wpAnyH_ready (rs := [10]) (by kernel_rfl) (by simp) ?_
      refine AllReadyH.cons (o := _) rfl (fun K hK => ?_) ?_
      · go_simp
        refine hK.out _ _ ?_ (fun hHd3 => ?_)
        · (try dsimp only); first | (with_reducible assumption) | (exact (World.cell?_setCell_other _ _ _ _ (fun e => by have e' := congrArg Addr.block e; simp at e'; omega)).trans hS1)
        clear hK K hHd2
        (try simp only [Act.put]); (try simp only [List.setIfInBounds_toArray]); (try simp only [List.set_cons_succ, List.set_cons_zero])
        refine wpAnyH_done (by kernel_rfl) ?_ _
        refine NoPanic.normal ?_
        go_wp2
        go_ret
        have hbd : Below w.heap.size w w1 := hb1.trans (((Below.refl _ _).drew).trans (HB2.out.mono (Nat.le_refl _)) |>.mono hb1.size)
        refine ⟨rfl, w1, _, vs, hbd, rfl, own_mono HQ.out.1 (by show w.heap.size ≤ W.heap.size; omega), HQ.out.2⟩
      exact AllReadyH.nil
    exact AllReadyH.nil
  exact AllReadyH.nil
end Go.Proofs.Ytiilamngcoegiaa.termsp
