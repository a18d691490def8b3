/-
  CONTRACTS OF THE PROGRAM'S SizeOfTerm AND DepthOfTerm.
-/
import Derived.Test.YtlhdnnakkjafgaaTermro
import Derived.Shelf.Abstract
namespace Go.Proofs.Ytlhdnnakkjafgaa.termsd
open Go.ChangeShapes Go.WideShapes Go.ChangeAt Go.RowKit
open mem dec rowl trm trmv terml termb termt termx termz termro

theorem same_cell {w w' : World} {g o : Nat} {v : Value} (h : w.cell? ⟨g, o, none⟩ = some v) (hb : w'.heap[g]? = w.heap[g]?) : w'.cell? ⟨g, o, none⟩ = some v := (World.cell?_of_block (a := ⟨g, o, none⟩) hb).trans h
theorem same_frozen {w w' : World} {g o : Nat} (h : w.frozen? ⟨g, o, none⟩ = false) (hb : w'.heap[g]? = w.heap[g]?) : w'.frozen? ⟨g, o, none⟩ = false := (World.frozen?_of_block (a := ⟨g, o, none⟩) hb).trans h
/-- a state of one cell -/
def OneJ (c : Nat) (f : Pend → Value → Prop) (T : Pend) (F : List Nat) (w : World) : Prop := F = [c] ∧ ∃ v, f T v ∧ w.cell? ⟨c, 0, none⟩ = some v ∧ w.frozen? ⟨c, 0, none⟩ = false
theorem oneJ_state (c : Nat) (f : Pend → Value → Prop) : ROState (OneJ c f) where
  same := by
    rintro T F w w' ⟨rfl, v, h1, h2, h3⟩ hs
    have hb := hs c (by simp)
    exact ⟨rfl, v, h1, same_cell h2 hb, same_frozen h3 hb⟩
  lt := by
    rintro T F w ⟨rfl, v, h1, h2, h3⟩ k hk
    simp at hk
    subst hk
    exact block_lt_of_cell h2
/-- the root of a term that is boxed -/
theorem root_ok {N lo : Nat} {w W : World} {t : TermM} {v : Value} {g : Nat} (h : HasTs N lo w v t.args) (hb : Below w.heap.size w W) (hg : g < W.heap.size) (hB : Bnd t) (hd : 1 + depth t ≤ 1073741824)
    (c0 : W.cell? ⟨g, 0, none⟩ = some (.int .i64 t.op)) (c1 : W.cell? ⟨g, 1, none⟩ = some (.string (bstr t.name))) (c2 : W.cell? ⟨g, 2, none⟩ = some (.int .i64 t.sort)) (c3 : W.cell? ⟨g, 3, none⟩ = some v) : EntOk N lo W (g, 0, 1) (t, 1) :=
  ⟨rfl, hd, hg, c0, c1, c2, v, c3, h.below (Nat.le_refl _) hb, hB⟩
theorem depth_le (t : TermM) : depth t ≤ size t := by
  have key : ∀ t, depth t ≤ size t := by
    refine TermM.ind (fun o n s l ih => ?_)
    rw [depth_mk, size_mk]
    have : depths l ≤ sizes l := by
      induction l with
      | nil => simp [depths]
      | cons a l ih2 =>
        have h1 := ih a (by simp)
        have h2 := ih2 (fun t ht => ih t (by simp [ht]))
        have e : depths (a :: l) = max (depth a) (depths l) := rfl
        rw [e]
        simp only [sizes, List.map_cons, List.sum_cons] at h2 ⊢
        omega
    omega
  exact key t
theorem bump {w : World} {c : Nat} {v : Value} (h : w.cell? ⟨c, 0, none⟩ = some v) (hf : w.frozen? ⟨c, 0, none⟩ = false) (u : Value) (o : Obj) :
    Chg [c] w ((w.setCell ⟨c, 0, none⟩ u).alloc o) ∧ ((w.setCell ⟨c, 0, none⟩ u).alloc o).cell? ⟨c, 0, none⟩ = some u ∧ ((w.setCell ⟨c, 0, none⟩ u).alloc o).frozen? ⟨c, 0, none⟩ = false := by
  have hc := block_lt_of_cell h
  simp only [] at hc
  have hb : Below (w.setCell ⟨c, 0, none⟩ u).heap.size (w.setCell ⟨c, 0, none⟩ u) ((w.setCell ⟨c, 0, none⟩ u).alloc o) := (Below.refl _ _).alloc (Nat.le_refl _) _
  have hs : c < (w.setCell ⟨c, 0, none⟩ u).heap.size := by simpa [World.setCell] using hc
  refine ⟨(Chg.set (by simp) _).trans (Chg.of_below hb), (hb.cell (p := ⟨c, 0, none⟩) hs).trans (World.cell?_setCell_same _ _ _ h), (hb.frozen (p := ⟨c, 0, none⟩) hs).trans ?_⟩
  rw [World.frozen?_setCell]; exact hf
theorem sizeVis (c : Nat) (e : Ent) (k : Int) (hk : 0 ≤ k ∧ k ≤ 1073741824) (w : World) (h : w.cell? ⟨c, 0, none⟩ = some (.int .i64 k)) (hf : w.frozen? ⟨c, 0, none⟩ = false) :
    Calls Try.prog 57 (#[placeV e] ++ #[.pointer (some ⟨c, 0, none⟩)]) w fun ex w' => ex = .returned (.bool true) ∧ Chg [c] w w' ∧ w'.cell? ⟨c, 0, none⟩ = some (.int .i64 (k + 1)) ∧ w'.frozen? ⟨c, 0, none⟩ = false := by
  have hc := block_lt_of_cell h
  simp only [] at hc
  unfold placeV ptr
  have HB := Lib.hid (fun u o => bump h hf u o)
  show Calls _ _ #[.agg #[.pointer (some ⟨e.1, e.2.1, none⟩), .int .i64 e.2.2], .pointer (some ⟨c, 0, none⟩)] _ _
  have h1 : (w.alloc (.cells #[.pointer (some ⟨e.1, e.2.1, none⟩), .int .i64 e.2.2] 62)).cell? ⟨c, 0, none⟩ = some (.int .i64 k) := (((Below.refl w.heap.size w).alloc (Nat.le_refl _) _).cell (p := ⟨c, 0, none⟩) hc).trans h
  have h2 : (w.alloc (.cells #[.pointer (some ⟨e.1, e.2.1, none⟩), .int .i64 e.2.2] 62)).frozen? ⟨c, 0, none⟩ = false := (((Below.refl w.heap.size w).alloc (Nat.le_refl _) _).frozen (p := ⟨c, 0, none⟩) hc).trans hf
  go_enter Try.func57, Try.ntmps57
  go_wp2
  go_ret
  exact ⟨rfl, HB.out _ _⟩
theorem size_states (tot : Nat) (ht : tot ≤ 1073741824) (W1 : World) (N lo c : Nat) :
    Visits 57 #[.pointer (some ⟨c, 0, none⟩)] (ROR W1 N lo (OneJ c fun T v => sizeP T ≤ tot ∧ v = .int .i64 ((tot - sizeP T : Nat) : Int))) :=
  ro_visits (oneJ_state _ _) _ _ (by
    rintro e t d T F w hE hb hF ⟨rfl, v, ⟨h1, rfl⟩, h2, h3⟩
    have hsz : sizeP ((t, d) :: T) = 1 + sizes t.args + sizeP T := by rw [← size_eq]; rfl
    refine (sizeVis c e _ (by omega) w h2 h3).mono ?_
    rintro ex w' ⟨rfl, hc, hcl, hf⟩
    refine ⟨true, [c], rfl, hc, fun k hk => .inl hk, rfl, _, ⟨?_, rfl⟩, ?_, hf⟩
    · rw [if_pos rfl, sizeP_append, sizeP_kids]; omega
    · rw [hcl, if_pos rfl, sizeP_append, sizeP_kids]
      congr 2
      omega)
set_option maxRecDepth 20000 in
/-- impl.SizeOfTerm -/
theorem sizeOf_any {n : Nat} (t : TermM) (v : Value) (w : World) {lo : Nat} (h : HasTs n lo w v t.args) (hB : Bnd t) (hsz : sizes t.args ≤ 1048576) :
    Calls Try.prog 27 #[aggT t v] w fun e w' => e = .returned (.int .i64 ((1 + sizes t.args : Nat) : Int)) ∧ Below w.heap.size w w' := by
  obtain ⟨A, c, rfl, _⟩ := HasR.shape h rfl
  have HH := Lib.hid h
  have HBN := Lib.hid hB
  have hst := size_eq t
  have hdt := depth_le t
  have eg : ∀ args w, (callFunc 57 args).run Try.prog w = .ok (.enter 57 args) w := Go.Proofs.enters_of Try.func57 (by kernel_rfl) rfl
  have HC : Hid (∀ W, Below w.heap.size w W → W.heap.size = w.heap.size + 2 → W.cell? ⟨w.heap.size, 0, none⟩ = some (.int .i64 t.op) → W.cell? ⟨w.heap.size, 1, none⟩ = some (.string (bstr t.name)) → W.cell? ⟨w.heap.size, 2, none⟩ = some (.int .i64 t.sort) → W.cell? ⟨w.heap.size, 3, none⟩ = some (.slice A t.args.length c) →
      W.cell? ⟨w.heap.size + 1, 0, none⟩ = some (.int .i64 0) → W.frozen? ⟨w.heap.size + 1, 0, none⟩ = false → ∀ W1, Below W1.heap.size W1 W → W1.heap.size = w.heap.size + 1 → Below w.heap.size w W1 →
      Calls Try.prog 46 #[.pointer (some ⟨w.heap.size, 0, none⟩), .func (.func 57) #[] #[.pointer (some ⟨w.heap.size + 1, 0, none⟩)]] W fun e w' => e = .returned (.tuple #[]) ∧ Below w.heap.size w w' ∧ w'.cell? ⟨w.heap.size + 1, 0, none⟩ = some (.int .i64 ((1 + sizes t.args : Nat) : Int))) := Lib.hid (by
    intro W hW hs c0 c1 c2 c3 hz hf W1 hW1 hs1 hw1
    have k : ∀ x, W.cell? ⟨w.heap.size, x, none⟩ = W1.cell? ⟨w.heap.size, x, none⟩ := fun x => hW1.cell (p := ⟨w.heap.size, x, none⟩) (by show w.heap.size < _; omega)
    rw [k] at c0 c1 c2 c3
    refine (walk_any _ _ eg _ (size_states (size t) (by omega) W1 n lo (w.heap.size + 1)) (size t) w.heap.size 0 W ⟨[(t, 1)], [w.heap.size + 1], ⟨root_ok HH.out hw1 (by omega) HBN.out (by omega) c0 c1 c2 c3, trivial⟩, by simp [sizeP], by omega, fun k hk => by simp at hk, hW1, ⟨rfl, _, ⟨by simp [sizeP], rfl⟩, ?_, hf⟩, fun k hk => ?_⟩).mono ?_
    · rw [hz]; simp [sizeP]
    · simp at hk; subst hk; exact ⟨by omega, by simp⟩
    · rintro e w' ⟨rfl, n', S, T, F, hA, _, _, _, hb, ⟨rfl, v, ⟨_, rfl⟩, hcl, _⟩, _⟩
      cases T with
      | nil => exact ⟨rfl, hw1.trans (hb.mono (by omega)), by rw [hcl]; simp only [sizeP, Nat.sub_zero]; rw [hst]⟩
      | cons p T => exact hA.elim)
  unfold aggT
  obtain ⟨q, hq⟩ : ∃ q, q = t.args.length := ⟨_, rfl⟩
  obtain ⟨z, hz⟩ : ∃ z, z = ((1 + sizes t.args : Nat) : Int) := ⟨_, rfl⟩
  rw [← hq, ← hz] at HC
  rw [← hz, ← hq]
  obtain ⟨to, hto⟩ : ∃ q, q = t.op := ⟨_, rfl⟩
  obtain ⟨tn, htn⟩ : ∃ q, q = t.name := ⟨_, rfl⟩
  obtain ⟨ts, hts⟩ : ∃ q, q = t.sort := ⟨_, rfl⟩
  rw [← hto, ← htn, ← hts] at HC ⊢
  clear h hB hsz hst hdt hq hz hto htn hts
  go_enter Try.func27, Try.ntmps27
  go_wp2_with fail
  refine (HC.out _ ?_ (by simp) (by simp) (by simp) (by simp) (by simp) (by simp) (by simp) (w.alloc (.cells #[.int .i64 to, .string (bstr tn), .int .i64 ts, .slice A q c] 26)) ?_ (by simp) ((Below.refl _ _).alloc (Nat.le_refl _) _)).mono ?_
  · repeat (refine Below.alloc ?_ (by first | (simp; done) | (simp; omega)) _)
    exact Below.refl _ _
  · repeat (first | exact Below.refl _ _ | refine Below.setCell ?_ (by first | (simp; done) | (simp; omega)) _ | refine Below.alloc ?_ (by first | (simp; done) | (simp; omega)) _)
  rintro e w1 ⟨rfl, hb1, hc1⟩
  go_wp2
  go_ret
  exact ⟨rfl, hb1⟩
/-- the greatest depth of a pending node's part -/
noncomputable def maxP : Pend → Nat
  | [] => 0
  | p :: T => max (p.2 + depth p.1) (maxP T)
theorem maxP_append : ∀ T U : Pend, maxP (T ++ U) = max (maxP T) (maxP U)
  | [], U => by simp [maxP]
  | p :: T, U => by simp only [List.cons_append, maxP, maxP_append T U]; omega
theorem maxP_kids (t : TermM) (d : Nat) : max (d + 1) (maxP (kidsP t d)) = d + 1 + depths t.args := by
  unfold kidsP
  induction t.args with
  | nil => simp [maxP, depths]
  | cons a l ih =>
    have e : depths (a :: l) = max (depth a) (depths l) := rfl
    rw [List.map_cons, List.reverse_cons, maxP_append, e]
    simp only [maxP]
    omega
theorem depthVis (c : Nat) (e : Ent) (he : e.2.2 ≤ 1073741824) (k : Nat) (_hk : k ≤ 1073741824) (w : World) (h : w.cell? ⟨c, 0, none⟩ = some (.int .i64 k)) (hf : w.frozen? ⟨c, 0, none⟩ = false) :
    Calls Try.prog 59 (#[placeV e] ++ #[.pointer (some ⟨c, 0, none⟩)]) w fun ex w' => ex = .returned (.bool true) ∧ Chg [c] w w' ∧ w'.cell? ⟨c, 0, none⟩ = some (.int .i64 ((max k e.2.2 : Nat) : Int)) ∧ w'.frozen? ⟨c, 0, none⟩ = false := by
  have hc := block_lt_of_cell h
  simp only [] at hc
  unfold placeV ptr
  have HB := Lib.hid (fun u o => bump h hf u o)
  obtain ⟨g, o, d⟩ := e
  simp only [] at he
  show Calls _ _ #[.agg #[.pointer (some ⟨g, o, none⟩), .int .i64 d], .pointer (some ⟨c, 0, none⟩)] _ fun ex w' => ex = .returned (.bool true) ∧ Chg [c] w w' ∧ w'.cell? ⟨c, 0, none⟩ = some (.int .i64 ((max k d : Nat) : Int)) ∧ w'.frozen? ⟨c, 0, none⟩ = false
  have h1 : (w.alloc (.cells #[.pointer (some ⟨g, o, none⟩), .int .i64 d] 62)).cell? ⟨c, 0, none⟩ = some (.int .i64 k) := (((Below.refl w.heap.size w).alloc (Nat.le_refl _) _).cell (p := ⟨c, 0, none⟩) hc).trans h
  have h2 : (w.alloc (.cells #[.pointer (some ⟨g, o, none⟩), .int .i64 d] 62)).frozen? ⟨c, 0, none⟩ = false := (((Below.refl w.heap.size w).alloc (Nat.le_refl _) _).frozen (p := ⟨c, 0, none⟩) hc).trans hf
  have hne : ¬ c = w.heap.size := by omega
  have HM : Hid ((max k d : Nat) = if k < d then d else k) := Lib.hid (by split <;> omega)
  rw [HM.out]
  by_cases hlt : k < d
  · rw [if_pos hlt]
    have hlt2 : (k : Int) < (d : Int) := by omega
    go_enter Try.func59, Try.ntmps59
    go_wp2
    go_ret
    exact ⟨rfl, HB.out _ _⟩
  · rw [if_neg hlt]
    have hlt2 : ¬ (k : Int) < (d : Int) := by omega
    go_enter Try.func59, Try.ntmps59
    go_wp2
    go_ret
    exact ⟨rfl, HB.out _ _⟩
theorem depth_states (tot : Nat) (W1 : World) (N lo c : Nat) :
    Visits 59 #[.pointer (some ⟨c, 0, none⟩)] (ROR W1 N lo (OneJ c fun T v => ∃ k : Nat, max (k + 1) (maxP T) = tot + 1 ∧ k ≤ 1073741824 ∧ v = .int .i64 (k : Int))) :=
  ro_visits (oneJ_state _ _) _ _ (by
    rintro e t d T F w hE hb hF ⟨rfl, v, ⟨k, h1, hk, rfl⟩, h2, h3⟩
    obtain ⟨he, hd, _⟩ := hE
    have he' : e.2.2 = d := he
    have hd' : d + depth t ≤ 1073741824 := hd
    refine (depthVis c e (by omega) k hk w h2 h3).mono ?_
    rintro ex w' ⟨rfl, hc, hcl, hf⟩
    have hm := maxP_kids t d
    have hde := depth_eq t
    have h1' : max (k + 1) (max (d + depth t) (maxP T)) = tot + 1 := h1
    refine ⟨true, [c], rfl, hc, fun k hk => .inl hk, rfl, _, ⟨max k e.2.2, ?_, by omega, rfl⟩, hcl, hf⟩
    rw [if_pos rfl, maxP_append, he']
    omega)
set_option maxRecDepth 20000 in
/-- impl.DepthOfTerm -/
theorem depthOf_any {n : Nat} (t : TermM) (v : Value) (w : World) {lo : Nat} (h : HasTs n lo w v t.args) (hB : Bnd t) (hsz : sizes t.args ≤ 1048576) :
    Calls Try.prog 30 #[aggT t v] w fun e w' => e = .returned (.int .i64 ((depths t.args + 1 : Nat) : Int)) ∧ Below w.heap.size w w' := by
  obtain ⟨A, c, rfl, _⟩ := HasR.shape h rfl
  have HH := Lib.hid h
  have HBN := Lib.hid hB
  have hst := size_eq t
  have hdt := depth_le t
  have eg : ∀ args w, (callFunc 59 args).run Try.prog w = .ok (.enter 59 args) w := Go.Proofs.enters_of Try.func59 (by kernel_rfl) rfl
  have HC : Hid (∀ W, Below w.heap.size w W → W.heap.size = w.heap.size + 2 → W.cell? ⟨w.heap.size, 0, none⟩ = some (.int .i64 t.op) → W.cell? ⟨w.heap.size, 1, none⟩ = some (.string (bstr t.name)) → W.cell? ⟨w.heap.size, 2, none⟩ = some (.int .i64 t.sort) → W.cell? ⟨w.heap.size, 3, none⟩ = some (.slice A t.args.length c) →
      W.cell? ⟨w.heap.size + 1, 0, none⟩ = some (.int .i64 0) → W.frozen? ⟨w.heap.size + 1, 0, none⟩ = false → ∀ W1, Below W1.heap.size W1 W → W1.heap.size = w.heap.size + 1 → Below w.heap.size w W1 →
      Calls Try.prog 46 #[.pointer (some ⟨w.heap.size, 0, none⟩), .func (.func 59) #[] #[.pointer (some ⟨w.heap.size + 1, 0, none⟩)]] W fun e w' => e = .returned (.tuple #[]) ∧ Below w.heap.size w w' ∧ w'.cell? ⟨w.heap.size + 1, 0, none⟩ = some (.int .i64 ((depths t.args + 1 : Nat) : Int))) := Lib.hid (by
    intro W hW hs c0 c1 c2 c3 hz hf W1 hW1 hs1 hw1
    have k : ∀ x, W.cell? ⟨w.heap.size, x, none⟩ = W1.cell? ⟨w.heap.size, x, none⟩ := fun x => hW1.cell (p := ⟨w.heap.size, x, none⟩) (by show w.heap.size < _; omega)
    rw [k] at c0 c1 c2 c3
    refine (walk_any _ _ eg _ (depth_states (depth t) W1 n lo (w.heap.size + 1)) (size t) w.heap.size 0 W ⟨[(t, 1)], [w.heap.size + 1], ⟨root_ok HH.out hw1 (by omega) HBN.out (by omega) c0 c1 c2 c3, trivial⟩, by simp [sizeP], by omega, fun k hk => by simp at hk, hW1, ⟨rfl, _, ⟨0, by simp only [maxP]; omega, by omega, rfl⟩, ?_, hf⟩, fun k hk => ?_⟩).mono ?_
    · rw [hz]; rfl
    · simp at hk; subst hk; exact ⟨by omega, by simp⟩
    · rintro e w' ⟨rfl, n', S, T, F, hA, _, _, _, hb, ⟨rfl, v, ⟨k, hk, _, rfl⟩, hcl, _⟩, _⟩
      cases T with
      | nil => exact ⟨rfl, hw1.trans (hb.mono (by omega)), by rw [hcl, ← depth_eq, show k = depth t by (simp only [maxP] at hk; omega)]⟩
      | cons p T => exact hA.elim)
  unfold aggT
  obtain ⟨q, hq⟩ : ∃ q, q = t.args.length := ⟨_, rfl⟩
  obtain ⟨z, hz⟩ : ∃ z, z = ((depths t.args + 1 : Nat) : Int) := ⟨_, rfl⟩
  rw [← hq, ← hz] at HC
  rw [← hz, ← hq]
  obtain ⟨to, hto⟩ : ∃ q, q = t.op := ⟨_, rfl⟩
  obtain ⟨tn, htn⟩ : ∃ q, q = t.name := ⟨_, rfl⟩
  obtain ⟨ts, hts⟩ : ∃ q, q = t.sort := ⟨_, rfl⟩
  rw [← hto, ← htn, ← hts] at HC ⊢
  clear h hB hsz hst hdt hq hz hto htn hts
  go_enter Try.func30, Try.ntmps30
  go_wp2_with fail
  refine (HC.out _ ?_ (by simp) (by simp) (by simp) (by simp) (by simp) (by simp) (by simp) (w.alloc (.cells #[.int .i64 to, .string (bstr tn), .int .i64 ts, .slice A q c] 26)) ?_ (by simp) ((Below.refl _ _).alloc (Nat.le_refl _) _)).mono ?_
  · repeat (refine Below.alloc ?_ (by first | (simp; done) | (simp; omega)) _)
    exact Below.refl _ _
  · repeat (first | exact Below.refl _ _ | refine Below.setCell ?_ (by first | (simp; done) | (simp; omega)) _ | refine Below.alloc ?_ (by first | (simp; done) | (simp; omega)) _)
  rintro e w1 ⟨rfl, hb1, hc1⟩
  go_wp2
  go_ret
  exact ⟨rfl, hb1⟩
end Go.Proofs.Ytlhdnnakkjafgaa.termsd
