/-
  CONTRACT OF THE PROGRAM'S OccursIn.
-/
import Derived.Test.YtejmfiocdecigaaTermsd
namespace Go.Proofs.Ytejmfiocdecigaa.termoc
open Go.ChangeShapes Go.WideShapes Go.ChangeAt Go.RowKit
open mem dec rowl trm trmv terml termb termt termx termz termro termsd

/-- what a comparison and the note of its answer leave -/
theorem note {w w1 : World} {c : Nat} {v : Value} (h : w.cell? ⟨c, 0, none⟩ = some v) (hf : w.frozen? ⟨c, 0, none⟩ = false) (hb : Below w.heap.size w w1) (u : Value) :
    Chg [c] w (w1.setCell ⟨c, 0, none⟩ u) ∧ (w1.setCell ⟨c, 0, none⟩ u).cell? ⟨c, 0, none⟩ = some u ∧ (w1.setCell ⟨c, 0, none⟩ u).frozen? ⟨c, 0, none⟩ = false := by
  have hc := block_lt_of_cell h
  simp only [] at hc
  refine ⟨(Chg.of_below hb).trans (Chg.set (by simp) _), World.cell?_setCell_same _ _ _ ((hb.cell (p := ⟨c, 0, none⟩) hc).trans h), ?_⟩
  rw [World.frozen?_setCell]
  exact (hb.frozen (p := ⟨c, 0, none⟩) hc).trans hf
set_option maxRecDepth 50000 in
set_option maxHeartbeats 8000000 in
theorem occVis {n m : Nat} (c vb g o d : Nat) (x t : TermM) (vx vt : Value) (f r : Bool) (hr : decide (cmp x t = 0) = r) (w : World) {lo lo' : Nat} (hx : HasTs n lo w vx x.args) (ht : HasTs m lo' w vt t.args) (hsz : sizes x.args ≤ 2097152)
    (h : w.cell? ⟨c, 0, none⟩ = some (.bool f)) (hf : w.frozen? ⟨c, 0, none⟩ = false)
    (x0 : w.cell? ⟨vb, 0, none⟩ = some (.int .i64 x.op)) (x1 : w.cell? ⟨vb, 1, none⟩ = some (.string (bstr x.name))) (x2 : w.cell? ⟨vb, 2, none⟩ = some (.int .i64 x.sort)) (x3 : w.cell? ⟨vb, 3, none⟩ = some vx)
    (t0 : w.cell? ⟨g, o, none⟩ = some (.int .i64 t.op)) (t1 : w.cell? ⟨g, o + 1, none⟩ = some (.string (bstr t.name))) (t2 : w.cell? ⟨g, o + 2, none⟩ = some (.int .i64 t.sort)) (t3 : w.cell? ⟨g, o + 3, none⟩ = some vt) :
    Calls Try.prog 52 (#[placeV (g, o, d)] ++ #[.pointer (some ⟨c, 0, none⟩), .pointer (some ⟨vb, 0, none⟩)]) w fun ex w' => ex = .returned (.bool (!(f || r))) ∧ Chg [c] w w' ∧ w'.cell? ⟨c, 0, none⟩ = some (.bool (f || r)) ∧ w'.frozen? ⟨c, 0, none⟩ = false := by
  have hc := block_lt_of_cell h
  have hv := block_lt_of_cell x0
  have hg := block_lt_of_cell t0
  simp only [] at hc hv hg
  have HN := Lib.hid (fun w1 (hb : Below w.heap.size w w1) u => note h hf hb u)
  have HE := Lib.hid (fun W (hW : Below w.heap.size w W) => areEqual_any x t vx vt W ((hx.up (Nat.le_max_left n m)).below (Nat.le_refl _) hW) ((ht.up (Nat.le_max_right n m)).below (Nat.le_refl _) hW) hsz r hr)
  obtain ⟨A, ca, rfl, _⟩ := HasR.shape hx rfl
  obtain ⟨B, cb, rfl, _⟩ := HasR.shape ht rfl
  unfold aggT at HE
  obtain ⟨k, hk⟩ : ∃ k, k = x.args.length := ⟨_, rfl⟩
  obtain ⟨l, hl⟩ : ∃ k, k = t.args.length := ⟨_, rfl⟩
  rw [← hk] at HE x3
  rw [← hl] at HE t3
  obtain ⟨xo, hxo⟩ : ∃ q, q = x.op := ⟨_, rfl⟩
  obtain ⟨xn, hxn⟩ : ∃ q, q = x.name := ⟨_, rfl⟩
  obtain ⟨xs, hxs⟩ : ∃ q, q = x.sort := ⟨_, rfl⟩
  obtain ⟨to, hto⟩ : ∃ q, q = t.op := ⟨_, rfl⟩
  obtain ⟨tn, htn⟩ : ∃ q, q = t.name := ⟨_, rfl⟩
  obtain ⟨ts, hts⟩ : ∃ q, q = t.sort := ⟨_, rfl⟩
  rw [← hxo] at x0 HE
  rw [← hxn] at x1 HE
  rw [← hxs] at x2 HE
  rw [← hto] at t0 HE
  rw [← htn] at t1 HE
  rw [← hts] at t2 HE
  clear hx ht hk hl hr hxo hxn hxs hto htn hts
  unfold placeV ptr
  show Calls _ _ #[.agg #[.pointer (some ⟨g, o, none⟩), .int .i64 d], .pointer (some ⟨c, 0, none⟩), .pointer (some ⟨vb, 0, none⟩)] _ _
  go_enter Try.func52, Try.ntmps52
  go_wp2_with fail
  have hb1 : Below w.heap.size w (w.alloc (.cells #[.pointer (some ⟨g, o, none⟩), .int .i64 d] 78)) := (Below.refl _ _).alloc (Nat.le_refl _) _
  have p0 : (w.alloc (.cells #[.pointer (some ⟨g, o, none⟩), .int .i64 d] 78)).cell? ⟨w.heap.size, 0, none⟩ = some (.pointer (some ⟨g, o, none⟩)) := by simp
  have hz1 : w.heap.size < (w.alloc (.cells #[.pointer (some ⟨g, o, none⟩), .int .i64 d] 78)).heap.size := by simp
  generalize w.alloc (.cells #[.pointer (some ⟨g, o, none⟩), .int .i64 d] 78) = W at hb1 p0 hz1 ⊢
  have hc1 := (hb1.cell (p := ⟨c, 0, none⟩) hc).trans h
  have hf1 := (hb1.frozen (p := ⟨c, 0, none⟩) hc).trans hf
  have kv : ∀ y, w.cell? ⟨vb, y, none⟩ = W.cell? ⟨vb, y, none⟩ := fun y => (hb1.cell (p := ⟨vb, y, none⟩) hv).symm
  have kg : ∀ y, w.cell? ⟨g, y, none⟩ = W.cell? ⟨g, y, none⟩ := fun y => (hb1.cell (p := ⟨g, y, none⟩) hg).symm
  rw [kv] at x0 x1 x2 x3
  rw [kg] at t0 t1 t2 t3
  clear kv kg h hf
  cases f with
  | true =>
    go_region
    all_goals (go_wp2; go_ret; obtain ⟨n1, n2, n3⟩ := HN.out W hb1 (.bool true); exact ⟨rfl, n1.trans (Chg.of_below (Below.refl _ _).drew), n2, n3⟩)
  | false =>
    go_region_with ((go_at_call 51; refine (HE.out _ (hb1.trans (Below.refl _ _).drew)).mono ?_; rintro e w1 ⟨rfl, hgb⟩; have hq1 := hgb.below; have hcc := (hgb.below.cell (p := ⟨c, 0, none⟩) (Nat.lt_of_lt_of_le hc hb1.size)).trans hc1; have hff := (hgb.below.frozen (p := ⟨c, 0, none⟩) (Nat.lt_of_lt_of_le hc hb1.size)).trans hf1))
    all_goals (go_wp2; go_ret; exact ⟨by simp, HN.out _ (hb1.trans ((Below.refl _ _).drew.trans (hgb.below.mono (Nat.le_refl _)) |>.mono hb1.size)) _⟩)
theorem occ_states (x : TermM) (hxs : sizes x.args ≤ 2097152) (tot : Bool) (W1 : World) (N lo c vb n : Nat) (vx : Value) {lo2 : Nat} (hx : HasTs n lo2 W1 vx x.args) (hv : vb < W1.heap.size)
    (x0 : W1.cell? ⟨vb, 0, none⟩ = some (.int .i64 x.op)) (x1 : W1.cell? ⟨vb, 1, none⟩ = some (.string (bstr x.name))) (x2 : W1.cell? ⟨vb, 2, none⟩ = some (.int .i64 x.sort)) (x3 : W1.cell? ⟨vb, 3, none⟩ = some vx) :
    Visits 52 #[.pointer (some ⟨c, 0, none⟩), .pointer (some ⟨vb, 0, none⟩)] (ROR W1 N lo (OneJ c fun T v => ∃ b : Bool, (b || T.any (fun p => occT x p.1)) = tot ∧ v = .bool b)) :=
  ro_visits (oneJ_state _ _) _ _ (by
    rintro e t d T F w hE hb hF ⟨rfl, v, ⟨b, h1, rfl⟩, h2, h3⟩
    obtain ⟨a1, a2, a3, t0, t1, t2, vt, t3, ht, hB⟩ := hE
    have kv : ∀ y, w.cell? ⟨vb, y, none⟩ = W1.cell? ⟨vb, y, none⟩ := fun y => hb.cell (p := ⟨vb, y, none⟩) hv
    have kg : ∀ y, w.cell? ⟨e.1, y, none⟩ = W1.cell? ⟨e.1, y, none⟩ := fun y => hb.cell (p := ⟨e.1, y, none⟩) a3
    obtain ⟨g, o, dd⟩ := e
    refine (occVis c vb g o dd x t vx vt b _ rfl w (hx.below (Nat.le_refl _) hb) (ht.below (Nat.le_refl _) hb) hxs h2 h3 ((kv 0).trans x0) ((kv 1).trans x1) ((kv 2).trans x2) ((kv 3).trans x3) ((kg o).trans t0) ((kg (o + 1)).trans t1) ((kg (o + 2)).trans t2) ((kg (o + 3)).trans t3)).mono ?_
    rintro ex w' ⟨rfl, hc, hcl, hf⟩
    refine ⟨_, [c], rfl, hc, fun k hk => .inl hk, rfl, _, ⟨b || decide (cmp x t = 0), ?_, rfl⟩, hcl, hf⟩
    rw [← h1]
    have ho : occT x t = (decide (cmp x t = 0) || t.args.any (occT x)) := by cases t; exact occT_mk _ _ _ _ _
    have hk : (kidsP t d).any (fun p => occT x p.1) = t.args.any (occT x) := by
      unfold kidsP
      rw [List.any_reverse, List.any_map]
      rfl
    simp only [List.any_cons, ho]
    cases b <;> cases hd : decide (cmp x t = 0) <;> simp [hk, List.any_append])
set_option maxRecDepth 50000 in
/-- impl.OccursIn -/
theorem occursIn_any {n m : Nat} (x t : TermM) (vx vt : Value) (w : World) {lo lo' : Nat} (hx : HasTs n lo w vx x.args) (h : HasTs m lo' w vt t.args) (hB : Bnd t) (hsx : sizes x.args ≤ 1048576) (hsz : sizes t.args ≤ 1048576) :
    Calls Try.prog 16 #[aggT x vx, aggT t vt] w fun e w' => e = .returned (.bool (occT x t)) ∧ Below w.heap.size w w' := by
  obtain ⟨A, ca, rfl, _⟩ := HasR.shape hx rfl
  obtain ⟨B, cb, rfl, _⟩ := HasR.shape h rfl
  have HX := Lib.hid hx
  have HH := Lib.hid h
  have HBN := Lib.hid hB
  have hst := size_eq t
  have hdt := depth_le t
  have eg : ∀ args w, (callFunc 52 args).run Try.prog w = .ok (.enter 52 args) w := Go.Proofs.enters_of Try.func52 (by kernel_rfl) rfl
  have HC : Hid (∀ W W1, Below W1.heap.size W1 W → W1.heap.size = w.heap.size + 2 → Below w.heap.size w W1 →
      W1.cell? ⟨w.heap.size + 1, 0, none⟩ = some (.int .i64 t.op) → W1.cell? ⟨w.heap.size + 1, 1, none⟩ = some (.string (bstr t.name)) → W1.cell? ⟨w.heap.size + 1, 2, none⟩ = some (.int .i64 t.sort) → W1.cell? ⟨w.heap.size + 1, 3, none⟩ = some (.slice B t.args.length cb) →
      W1.cell? ⟨w.heap.size, 0, none⟩ = some (.int .i64 x.op) → W1.cell? ⟨w.heap.size, 1, none⟩ = some (.string (bstr x.name)) → W1.cell? ⟨w.heap.size, 2, none⟩ = some (.int .i64 x.sort) → W1.cell? ⟨w.heap.size, 3, none⟩ = some (.slice A x.args.length ca) →
      W.cell? ⟨w.heap.size + 1 + 1, 0, none⟩ = some (.bool false) → W.frozen? ⟨w.heap.size + 1 + 1, 0, none⟩ = false →
      Calls Try.prog 42 #[.pointer (some ⟨w.heap.size + 1, 0, none⟩), .func (.func 52) #[] #[.pointer (some ⟨w.heap.size + 1 + 1, 0, none⟩), .pointer (some ⟨w.heap.size, 0, none⟩)]] W fun e w' => e = .returned (.tuple #[]) ∧ Below w.heap.size w w' ∧ w'.cell? ⟨w.heap.size + 1 + 1, 0, none⟩ = some (.bool (occT x t))) := Lib.hid (by
    intro W W1 hW1 hs1 hw1 c0 c1 c2 c3 x0 x1 x2 x3 hz hf
    refine (walk_any _ _ eg _ (occ_states x (by omega) (occT x t) W1 m lo' (w.heap.size + 1 + 1) w.heap.size n _ (HX.out.below (Nat.le_refl _) hw1) (by omega) x0 x1 x2 x3) (size t) (w.heap.size + 1) 0 W ⟨[(t, 1)], [w.heap.size + 1 + 1], ⟨root_ok HH.out hw1 (by omega) HBN.out (by omega) c0 c1 c2 c3, trivial⟩, by simp [sizeP], by omega, fun k hk => by simp at hk, hW1, ⟨rfl, _, ⟨false, by simp, rfl⟩, hz, hf⟩, fun k hk => ?_⟩).mono ?_
    · simp at hk; subst hk; exact ⟨by omega, by simp⟩
    · rintro e w' ⟨rfl, n', S, T, F, hA, _, _, _, hb, ⟨rfl, v, ⟨b, hb2, rfl⟩, hcl, _⟩, _⟩
      cases T with
      | nil => exact ⟨rfl, hw1.trans (hb.mono (by omega)), by rw [hcl, ← hb2]; simp⟩
      | cons p T => exact hA.elim)
  unfold aggT
  obtain ⟨p, hp⟩ : ∃ q, q = x.args.length := ⟨_, rfl⟩
  obtain ⟨q, hq⟩ : ∃ q, q = t.args.length := ⟨_, rfl⟩
  obtain ⟨z, hz⟩ : ∃ z, z = occT x t := ⟨_, rfl⟩
  rw [← hp, ← hq, ← hz] at HC
  rw [← hz, ← hp, ← hq]
  obtain ⟨xo, hxo⟩ : ∃ q, q = x.op := ⟨_, rfl⟩
  obtain ⟨xn, hxn⟩ : ∃ q, q = x.name := ⟨_, rfl⟩
  obtain ⟨xs, hxs⟩ : ∃ q, q = x.sort := ⟨_, rfl⟩
  obtain ⟨to, hto⟩ : ∃ q, q = t.op := ⟨_, rfl⟩
  obtain ⟨tn, htn⟩ : ∃ q, q = t.name := ⟨_, rfl⟩
  obtain ⟨ts, hts⟩ : ∃ q, q = t.sort := ⟨_, rfl⟩
  rw [← hto, ← htn, ← hts, ← hxo, ← hxn, ← hxs] at HC ⊢
  clear h hx hB hsz hsx hst hdt hq hp hz hto htn hts hxo hxn hxs
  go_enter Try.func16, Try.ntmps16
  go_wp2_with fail
  refine (HC.out _ ((w.alloc (.cells #[.int .i64 xo, .string (bstr xn), .int .i64 xs, .slice A p ca] 26)).alloc (.cells #[.int .i64 to, .string (bstr tn), .int .i64 ts, .slice B q cb] 26)) ?_ (by simp) (((Below.refl _ _).alloc (Nat.le_refl _) _).alloc (by simp) _) (by simp) (by simp) (by simp) (by simp) (by simp) (by simp) (by simp) (by simp) ?_ ?_).mono ?_
  · repeat (first | exact Below.refl _ _ | refine Below.setCell ?_ (by first | (simp; done) | (simp; omega)) _ | refine Below.alloc ?_ (by first | (simp; done) | (simp; omega)) _)
  · exact cell_of_row _ _ 0 _ _ _ (heap_at _ _ _ (by simp))
  · exact frozen_of_row _ _ 0 _ _ (heap_at _ _ _ (by simp))
  rintro e w1 ⟨rfl, hb1, hc1⟩
  go_wp2
  go_ret
  exact ⟨rfl, hb1⟩
end Go.Proofs.Ytejmfiocdecigaa.termoc
