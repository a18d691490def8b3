/-
  OCCURRENCES IN MEMORY: how they read, their order, and the laws' own functions on them.
-/
import Derived.Test.YtiilamngcoegiaaBndt
import Derived.Test.YtiilamngcoegiaaIntl
namespace Go.Proofs.Ytiilamngcoegiaa.occm
open Go.ChangeShapes Go.WideShapes Go.ChangeAt Go.RowKit
open mem setm intl rowl trm trmv terml termb termt termu termx bndl bndt

/-- an occurrence -/
structure OccM where
  path : List Int
  left : List TermM
  right : List TermM
  m : List BindM
/-- paths in order: number by number, a prefix first -/
def cmpIs : List Int → List Int → Int
  | [], [] => 0
  | [], _ :: _ => -1
  | _ :: _, [] => 1
  | a :: l, b :: m => if a = b then cmpIs l m else if a < b then -1 else 1
theorem cmpIs_step : ∀ {L M : List Int} {k : Nat}, k < L.length → k < M.length → (∀ i, i < k → L.getD i 0 = M.getD i 0) → L.getD k 0 ≠ M.getD k 0 → cmpIs L M = if L.getD k 0 < M.getD k 0 then -1 else 1
  | [], _, _, h, _, _, _ => by simp at h
  | _ :: _, [], _, _, h, _, _ => by simp at h
  | a :: l, b :: m, 0, _, _, _, hn => by
    simp only [List.getD_cons_zero] at hn ⊢
    rw [cmpIs, if_neg hn]
  | a :: l, b :: m, k + 1, h1, h2, h3, hn => by
    have h0 := h3 0 (by omega)
    simp only [List.getD_cons_zero] at h0
    simp only [List.getD_cons_succ] at hn ⊢
    rw [cmpIs, if_pos h0]
    exact cmpIs_step (by simpa using h1) (by simpa using h2) (fun i hi => by have := h3 (i + 1) (by omega); simpa only [List.getD_cons_succ] using this) hn
theorem cmpIs_end : ∀ {L M : List Int}, (∀ i, i < L.length → i < M.length → L.getD i 0 = M.getD i 0) → cmpIs L M = if L.length < M.length then -1 else if M.length < L.length then 1 else 0
  | [], [], _ => rfl
  | [], _ :: _, _ => by simp [cmpIs]
  | _ :: _, [], _ => by simp [cmpIs]
  | a :: l, b :: m, h => by
    have h0 := h 0 (by simp) (by simp)
    simp only [List.getD_cons_zero] at h0
    rw [cmpIs, if_pos h0, cmpIs_end (fun i hi hj => by have := h (i + 1) (by simpa using hi) (by simpa using hj); simpa only [List.getD_cons_succ] using this)]
    simp only [List.length_cons, Nat.add_lt_add_iff_right]
/-- occurrences in order -/
noncomputable def cmpO (a b : OccM) : Int :=
  if cmpIs a.path b.path ≠ 0 then cmpIs a.path b.path else if cmpL a.left b.left ≠ 0 then cmpL a.left b.left else if cmpL a.right b.right ≠ 0 then cmpL a.right b.right else cmpQs a.m b.m
/-- what the laws count -/
noncomputable def osz (a : OccM) : Nat := a.path.length + sizes a.left + sizes a.right + bsz a.m
def HasOc (n lo : Nat) (w : World) (vp vl vr vm : Value) (o : OccM) : Prop := HasL lo w vp (ivs o.path) ∧ HasTs n lo w vl o.left ∧ HasTs n lo w vr o.right ∧ HasBs n lo w vm o.m
theorem HasOc.kept {n lo : Nat} {w w' : World} {vp vl vr vm : Value} {o : OccM} (h : HasOc n lo w vp vl vr vm o) (hk : Kept lo w w') : HasOc n lo w' vp vl vr vm o :=
  ⟨h.1.kept hk, HasR.kept (RT_steady n) h.2.1 hk, HasR.kept (RT_steady n) h.2.2.1 hk, HasR.kept (RB_steady n) h.2.2.2 hk⟩
theorem HasOc.mono {n lo lo' : Nat} {w : World} {vp vl vr vm : Value} {o : OccM} (h : HasOc n lo w vp vl vr vm o) (hl : lo' ≤ lo) : HasOc n lo' w vp vl vr vm o :=
  ⟨h.1.mono hl, HasR.mono (RT_steady n) h.2.1 hl, HasR.mono (RT_steady n) h.2.2.1 hl, HasR.mono (RB_steady n) h.2.2.2 hl⟩
theorem HasOc.below {n lo : Nat} {w w' : World} {vp vl vr vm : Value} {o : OccM} (h : HasOc n lo w vp vl vr vm o) (hb : Below w.heap.size w w') : HasOc n lo w' vp vl vr vm o := h.kept (Kept.below hb (Nat.le_refl _))
theorem HasOc.up {n n' lo : Nat} {w : World} {vp vl vr vm : Value} {o : OccM} (hn : n ≤ n') (h : HasOc n lo w vp vl vr vm o) : HasOc n' lo w vp vl vr vm o := ⟨h.1, h.2.1.up hn, h.2.2.1.up hn, h.2.2.2.up hn⟩
theorem HasOc.shape {n lo : Nat} {w : World} {vp vl vr vm : Value} {o : OccM} (h : HasOc n lo w vp vl vr vm o) : ∃ A0 c0 A1 c1 A2 c2 A3 c3, vp = .slice A0 o.path.length c0 ∧ vl = .slice A1 o.left.length c1 ∧ vr = .slice A2 o.right.length c2 ∧ vm = .slice A3 o.m.length c3 := by
  obtain ⟨A0, c0, e0, _⟩ := h.1.has.shape (ivs_len o.path)
  obtain ⟨A1, c1, e1, _⟩ := HasR.shape h.2.1 rfl
  obtain ⟨A2, c2, e2, _⟩ := HasR.shape h.2.2.1 rfl
  obtain ⟨A3, c3, e3, _⟩ := HasR.shape h.2.2.2 rfl
  exact ⟨A0, c0, A1, c1, A2, c2, A3, c3, e0, e1, e2, e3⟩
theorem four4 {w : World} {x : Nat} {v0 v1 v2 v3 : Value} {t : TypeId} (h : w.heap[x]? = some (.cells #[v0, v1, v2, v3] t (0, 0))) : w.cell? ⟨x, 0, none⟩ = some v0 ∧ w.cell? ⟨x, 1, none⟩ = some v1 ∧ w.cell? ⟨x, 2, none⟩ = some v2 ∧ w.cell? ⟨x, 3, none⟩ = some v3 :=
  ⟨cell_of_row w x 0 _ _ _ h, cell_of_row w x 1 _ _ _ h, cell_of_row w x 2 _ _ _ h, cell_of_row w x 3 _ _ _ h⟩
/-- laws.szIntS -/
theorem szI_any (L : List Int) (v : Value) (w : World) {lo : Nat} (h : HasL lo w v (ivs L)) (m : Int) (hm : 0 ≤ m) (hm2 : m ≤ 1048576) :
    Calls Try.prog 20 #[v, .int .i64 m] w fun e w' => ∃ r : Int, e = .returned (.int .i64 r) ∧ (0 ≤ r → r + L.length ≤ m) ∧ -1 ≤ r ∧ r ≤ 1048576 ∧ Below w.heap.size w w' := by
  obtain ⟨A, c, rfl, h2⟩ := h.has.shape (ivs_len L)
  have hl := h2.len.2
  obtain ⟨k, hk⟩ : ∃ k, k = L.length := ⟨_, rfl⟩
  rw [← hk] at hl ⊢
  clear h h2 hk
  by_cases hneg : m - (k : Int) < 0
  · go_enter Try.func20, Try.ntmps20
    go_wp2
    go_ret
    exact ⟨-1, rfl, fun h => by omega, by omega, by omega, Below.refl _ _⟩
  · go_enter Try.func20, Try.ntmps20
    go_wp2
    go_ret
    exact ⟨m - k, rfl, fun h => by omega, by omega, by omega, Below.refl _ _⟩
set_option maxRecDepth 20000 in
set_option maxHeartbeats 1000000 in
/-- laws.szOccurrence -/
theorem szO_any {n : Nat} (o : OccM) (vp vl vr vm : Value) (w : World) {lo : Nat} (h : HasOc n lo w vp vl vr vm o) (m : Int) (hm : 0 ≤ m) (hm2 : m ≤ 1048576) :
    Calls Try.prog 5 #[.agg #[vp, vl, vr, vm], .int .i64 m] w fun e w' => ∃ r : Int, e = .returned (.int .i64 r) ∧ (0 ≤ r → r + osz o ≤ m) ∧ -1 ≤ r ∧ r ≤ 1048576 ∧ Below w.heap.size w w' := by
  have H0 := Lib.hid (fun W (hW : Below w.heap.size w W) m h1 h2 => szI_any o.path vp W (HasL.kept h.1 (Kept.below hW (Nat.le_refl _))) m h1 h2)
  have H1 := Lib.hid (fun W (hW : Below w.heap.size w W) m h1 h2 => szTermS_any n o.left vl W lo (h.2.1.below (Nat.le_refl _) hW) m h1 h2)
  have H2 := Lib.hid (fun W (hW : Below w.heap.size w W) m h1 h2 => szTermS_any n o.right vr W lo (h.2.2.1.below (Nat.le_refl _) hW) m h1 h2)
  have H3 := Lib.hid (fun W (hW : Below w.heap.size w W) m h1 h2 => szBS_any o.m vm W (h.2.2.2.below (Nat.le_refl _) hW) m h1 h2)
  obtain ⟨A0, c0, A1, c1, A2, c2, A3, c3, rfl, rfl, rfl, rfl⟩ := h.shape
  obtain ⟨z0, hz0⟩ : ∃ q, q = o.path.length := ⟨_, rfl⟩
  obtain ⟨z1, hz1⟩ : ∃ q, q = sizes o.left := ⟨_, rfl⟩
  obtain ⟨z2, hz2⟩ : ∃ q, q = sizes o.right := ⟨_, rfl⟩
  obtain ⟨z3, hz3⟩ : ∃ q, q = bsz o.m := ⟨_, rfl⟩
  have HZ : Hid (osz o = z0 + z1 + z2 + z3) := Lib.hid (by rw [hz0, hz1, hz2, hz3]; rfl)
  rw [← hz0] at H0 ⊢
  rw [← hz1] at H1
  rw [← hz2] at H2
  rw [← hz3] at H3
  obtain ⟨k1, hk1⟩ : ∃ q, q = o.left.length := ⟨_, rfl⟩
  rw [← hk1] at H1 ⊢
  obtain ⟨k2, hk2⟩ : ∃ q, q = o.right.length := ⟨_, rfl⟩
  rw [← hk2] at H2 ⊢
  obtain ⟨k3, hk3⟩ : ∃ q, q = o.m.length := ⟨_, rfl⟩
  rw [← hk3] at H3 ⊢
  obtain ⟨oz, hoz⟩ : ∃ q, q = osz o := ⟨_, rfl⟩
  rw [← hoz] at HZ ⊢
  obtain ⟨W, hW⟩ : ∃ W, W = w.alloc (.cells #[.slice A0 z0 c0, .slice A1 k1 c1, .slice A2 k2 c2, .slice A3 k3 c3] 26) := ⟨_, rfl⟩
  have hb0 : Below w.heap.size w W := by rw [hW]; exact (Below.refl _ _).alloc (Nat.le_refl _) _
  have hx0 : W.heap[w.heap.size]? = some (.cells #[.slice A0 z0 c0, .slice A1 k1 c1, .slice A2 k2 c2, .slice A3 k3 c3] 26 (0, 0)) := by rw [hW]; exact heap_at _ _ _ rfl
  have HX0 := Lib.hid hx0
  have HB0 := Lib.hid hb0
  obtain ⟨x0, x1, x2, x3⟩ := four4 hx0
  clear h hz0 hz1 hz2 hz3 hk1 hk2 hk3 hoz hb0 hx0
  go_enter Try.func5, Try.ntmps5
  go_wp2_with fail
  rw [← hW]
  clear hW
  refine (H0.out W HB0.out m hm hm2).mono ?_
  rintro e w1 ⟨r1, rfl, hr, hr1_1, hr2_1, hb⟩
  have HR1 := Lib.hid hr
  have HB1 := Lib.hid (HB0.out.trans (hb.mono HB0.out.size))
  have hx := (hb.block _ (Array.getElem?_eq_some_iff.1 HX0.out).1).trans HX0.out
  have HX1 := Lib.hid hx
  clear x0 x1 x2 x3
  obtain ⟨x0, x1, x2, x3⟩ := four4 hx
  clear hr hb hx
  by_cases hn1 : r1 < 0
  · go_wp2
    go_ret
    exact ⟨-1, rfl, fun h => by omega, by omega, by omega, HB1.out⟩
  go_wp2_with fail
  refine (H1.out w1 HB1.out r1 (by omega) hr2_1).mono ?_
  rintro e w2 ⟨r2, rfl, hr, hr1_2, hr2_2, hb⟩
  have HR2 := Lib.hid hr
  have HB2 := Lib.hid (HB1.out.trans (hb.mono HB1.out.size))
  have hx := (hb.block _ (Array.getElem?_eq_some_iff.1 HX1.out).1).trans HX1.out
  have HX2 := Lib.hid hx
  clear x0 x1 x2 x3
  obtain ⟨x0, x1, x2, x3⟩ := four4 hx
  clear hr hb hx
  by_cases hn2 : r2 < 0
  · go_wp2
    go_ret
    exact ⟨-1, rfl, fun h => by omega, by omega, by omega, HB2.out⟩
  go_wp2_with fail
  refine (H2.out w2 HB2.out r2 (by omega) hr2_2).mono ?_
  rintro e w3 ⟨r3, rfl, hr, hr1_3, hr2_3, hb⟩
  have HR3 := Lib.hid hr
  have HB3 := Lib.hid (HB2.out.trans (hb.mono HB2.out.size))
  have hx := (hb.block _ (Array.getElem?_eq_some_iff.1 HX2.out).1).trans HX2.out
  have HX3 := Lib.hid hx
  clear x0 x1 x2 x3
  obtain ⟨x0, x1, x2, x3⟩ := four4 hx
  clear hr hb hx
  by_cases hn3 : r3 < 0
  · go_wp2
    go_ret
    exact ⟨-1, rfl, fun h => by omega, by omega, by omega, HB3.out⟩
  go_wp2_with fail
  refine (H3.out w3 HB3.out r3 (by omega) hr2_3).mono ?_
  rintro e w4 ⟨r4, rfl, hr, hr1_4, hr2_4, hb⟩
  have HR4 := Lib.hid hr
  have HB4 := Lib.hid (HB3.out.trans (hb.mono HB3.out.size))
  clear x0 x1 x2 x3 hr hb
  by_cases hn4 : r4 < 0
  · go_wp2
    go_ret
    exact ⟨-1, rfl, fun h => by omega, by omega, by omega, HB4.out⟩
  go_wp2
  go_ret
  exact ⟨r4, rfl, fun h => by have h1 := HR1.out (by omega); have h2 := HR2.out (by omega); have h3 := HR3.out (by omega); have h4 := HR4.out (by omega); have h5 := HZ.out; omega, hr1_4, hr2_4, HB4.out⟩
set_option maxRecDepth 20000 in
set_option maxHeartbeats 1000000 in
/-- laws.toOccurrence -/
theorem toO_any {n : Nat} (o : OccM) (vp vl vr vm : Value) (w : World) {lo : Nat} (h : HasOc n lo w vp vl vr vm o) (hs : osz o ≤ 1048576) :
    Calls Try.prog 7 #[.agg #[vp, vl, vr, vm]] w fun e w' => ∃ v0 v1 v2 v3, e = .returned (.agg #[v0, v1, v2, v3]) ∧ HasOc (n + 1) w.heap.size w' v0 v1 v2 v3 o ∧ Below w.heap.size w w' := by
  unfold osz at hs
  have H0 := Lib.hid (fun W (hW : Below w.heap.size w W) => (intl.to_any o.path (by omega) vp W (h.1.has.below (Nat.le_refl _) hW)).mono (fun e w' ⟨u, h1, h2, h3⟩ => (show ∃ u, e = Ending.returned u ∧ HasL W.heap.size w' u (ivs o.path) ∧ Below W.heap.size W w' from ⟨u, h1, HasL.of_own h2, h3⟩)))
  have H1 := Lib.hid (fun W (hW : Below w.heap.size w W) => (toTermS_any n o.left vl W lo (h.2.1.below (Nat.le_refl _) hW) (by omega)).mono (fun e w' ⟨u, S, h1, h2, h3⟩ => (show ∃ u, e = Ending.returned u ∧ HasTs (n + 1) W.heap.size w' u o.left ∧ Below W.heap.size W w' from ⟨u, h1, h2.has, h3⟩)))
  have H2 := Lib.hid (fun W (hW : Below w.heap.size w W) => (toTermS_any n o.right vr W lo (h.2.2.1.below (Nat.le_refl _) hW) (by omega)).mono (fun e w' ⟨u, S, h1, h2, h3⟩ => (show ∃ u, e = Ending.returned u ∧ HasTs (n + 1) W.heap.size w' u o.right ∧ Below W.heap.size W w' from ⟨u, h1, h2.has, h3⟩)))
  have H3 := Lib.hid (fun W (hW : Below w.heap.size w W) => toBS_any o.m vm W (h.2.2.2.below (Nat.le_refl _) hW) (by omega))
  have HS0 : Hid (∀ {W l v}, HasL l W v (ivs o.path) → ∃ A c, v = .slice A o.path.length c) := Lib.hid (fun h => by obtain ⟨A, c, e, _⟩ := h.has.shape (ivs_len o.path); exact ⟨A, c, e⟩)
  have HS1 : Hid (∀ {W l v}, HasTs (n + 1) l W v o.left → ∃ A c, v = .slice A o.left.length c) := Lib.hid (fun h => by obtain ⟨A, c, e, _⟩ := HasR.shape h rfl; exact ⟨A, c, e⟩)
  have HS2 : Hid (∀ {W l v}, HasTs (n + 1) l W v o.right → ∃ A c, v = .slice A o.right.length c) := Lib.hid (fun h => by obtain ⟨A, c, e, _⟩ := HasR.shape h rfl; exact ⟨A, c, e⟩)
  have HS3 : Hid (∀ {W l v}, HasBs (n + 1) l W v o.m → ∃ A c, v = .slice A o.m.length c) := Lib.hid (fun h => by obtain ⟨A, c, e, _⟩ := HasR.shape h rfl; exact ⟨A, c, e⟩)
  obtain ⟨A0, c0, A1, c1, A2, c2, A3, c3, rfl, rfl, rfl, rfl⟩ := h.shape
  obtain ⟨k0, hk0⟩ : ∃ q, q = o.path.length := ⟨_, rfl⟩
  rw [← hk0] at H0 HS0 ⊢
  obtain ⟨k1, hk1⟩ : ∃ q, q = o.left.length := ⟨_, rfl⟩
  rw [← hk1] at H1 HS1 ⊢
  obtain ⟨k2, hk2⟩ : ∃ q, q = o.right.length := ⟨_, rfl⟩
  rw [← hk2] at H2 HS2 ⊢
  obtain ⟨k3, hk3⟩ : ∃ q, q = o.m.length := ⟨_, rfl⟩
  rw [← hk3] at H3 HS3 ⊢
  obtain ⟨W, hW⟩ : ∃ W, W = ((w.alloc (.cells #[.slice A0 k0 c0, .slice A1 k1 c1, .slice A2 k2 c2, .slice A3 k3 c3] 26)).alloc (.cells #[.slice none 0 0, .slice none 0 0, .slice none 0 0, .slice none 0 0] 32)).alloc (.cells #[.slice none 0 0, .slice none 0 0, .slice none 0 0, .slice none 0 0] 32) := ⟨_, rfl⟩
  have hb0 : Below w.heap.size w W := by rw [hW]; exact (((Below.refl _ _).alloc (Nat.le_refl _) _).alloc (by simp) _).alloc (by simp; omega) _
  have hz0 : W.heap.size = w.heap.size + 3 := by rw [hW]; simp
  have hp : W.heap[w.heap.size]? = some (.cells #[.slice A0 k0 c0, .slice A1 k1 c1, .slice A2 k2 c2, .slice A3 k3 c3] 26 (0, 0)) := by rw [hW]; exact (Below.heap_alloc _ _ _ (by simp; omega)).trans ((Below.heap_alloc _ _ _ (by simp)).trans (heap_at _ _ _ rfl))
  have hr : W.heap[w.heap.size + 1]? = some (.cells #[.slice none 0 0, .slice none 0 0, .slice none 0 0, .slice none 0 0] 32 (0, 0)) := by rw [hW]; exact (Below.heap_alloc _ _ _ (by simp)).trans (heap_at _ _ _ (by simp))
  have hq : W.heap[w.heap.size + 2]? = some (.cells #[.slice none 0 0, .slice none 0 0, .slice none 0 0, .slice none 0 0] 32 (0, 0)) := by rw [hW]; exact heap_at _ _ _ (by simp)
  obtain ⟨x0, x1, x2, x3⟩ := four4 hp
  have HP0 := Lib.hid hp
  have HR0 := Lib.hid hr
  have HQ0 := Lib.hid hq
  have HB0 := Lib.hid hb0
  have HZ0 : Hid (w.heap.size + 3 ≤ W.heap.size) := Lib.hid (by omega)
  clear h hs hk0 hk1 hk2 hk3 hb0 hz0 hp hr hq
  go_enter Try.func7, Try.ntmps7
  go_wp2_with fail
  rw [← hW]
  clear hW
  refine (H0.out W HB0.out).mono ?_
  rintro e w1 ⟨v0, rfl, ht, hb⟩
  obtain ⟨B0, b0, rfl⟩ := HS0.out ht
  have hz : w.heap.size + 3 ≤ w1.heap.size := Nat.le_trans HZ0.out hb.size
  have hp := (hb.block (w.heap.size) (by have := HZ0.out; omega)).trans HP0.out
  have hr := (hb.block (w.heap.size + 1) (by have := HZ0.out; omega)).trans HR0.out
  have hq := (hb.block (w.heap.size + 2) (by have := HZ0.out; omega)).trans HQ0.out
  have hbw := HB0.out.trans (hb.mono HB0.out.size)
  clear x0 x1 x2 x3
  obtain ⟨x0, x1, x2, x3⟩ := four4 hp
  obtain ⟨q0, q1, q2, q3⟩ := four4 hq
  have f0 := frozen_of_row w1 _ 0 _ _ hq
  obtain ⟨u1, hu⟩ : ∃ u, u = w1.setCell ⟨w.heap.size + 2, 0, none⟩ (.slice B0 k0 b0) := ⟨_, rfl⟩
  have hk : Kept (w.heap.size + 3) w1 u1 := by rw [hu]; exact Kept.set (by simp) _
  have hc : Chg [w.heap.size + 2] w1 u1 := by rw [hu]; exact Chg.set (by simp) _
  have HQ1 := Lib.hid (show u1.heap[w.heap.size + 2]? = some (.cells #[.slice B0 k0 b0, .slice none 0 0, .slice none 0 0, .slice none 0 0] 32 (0, 0)) by rw [hu]; exact set_heap hq 0 _)
  have HP1 := Lib.hid ((hc.block (w.heap.size) (by omega) (by simp)).trans hp)
  have HR1 := Lib.hid ((hc.block (w.heap.size + 1) (by omega) (by simp)).trans hr)
  have HB1 := Lib.hid (hbw.trans (hc.below (by omega) (by simp)))
  have HZ1 : Hid (w.heap.size + 3 ≤ u1.heap.size) := Lib.hid (Nat.le_trans hz hk.1)
  have HT0 := Lib.hid (HasL.kept (HasL.mono ht HZ0.out) hk)
  clear ht hb hz hp hr hq hbw hk hc
  go_wp2_with fail
  rw [← hu]
  clear hu q0 q1 q2 q3 f0
  refine (H1.out u1 HB1.out).mono ?_
  rintro e w2 ⟨v1, rfl, ht, hb⟩
  obtain ⟨B1, b1, rfl⟩ := HS1.out ht
  have hz : w.heap.size + 3 ≤ w2.heap.size := Nat.le_trans HZ1.out hb.size
  have hp := (hb.block (w.heap.size) (by have := HZ1.out; omega)).trans HP1.out
  have hr := (hb.block (w.heap.size + 1) (by have := HZ1.out; omega)).trans HR1.out
  have hq := (hb.block (w.heap.size + 2) (by have := HZ1.out; omega)).trans HQ1.out
  have hbw := HB1.out.trans (hb.mono HB1.out.size)
  clear x0 x1 x2 x3
  obtain ⟨x0, x1, x2, x3⟩ := four4 hp
  obtain ⟨q0, q1, q2, q3⟩ := four4 hq
  have f1 := frozen_of_row w2 _ 1 _ _ hq
  obtain ⟨u2, hu⟩ : ∃ u, u = w2.setCell ⟨w.heap.size + 2, 1, none⟩ (.slice B1 k1 b1) := ⟨_, rfl⟩
  have hk : Kept (w.heap.size + 3) w2 u2 := by rw [hu]; exact Kept.set (by simp) _
  have hc : Chg [w.heap.size + 2] w2 u2 := by rw [hu]; exact Chg.set (by simp) _
  have HQ2 := Lib.hid (show u2.heap[w.heap.size + 2]? = some (.cells #[.slice B0 k0 b0, .slice B1 k1 b1, .slice none 0 0, .slice none 0 0] 32 (0, 0)) by rw [hu]; exact set_heap hq 1 _)
  have HP2 := Lib.hid ((hc.block (w.heap.size) (by omega) (by simp)).trans hp)
  have HR2 := Lib.hid ((hc.block (w.heap.size + 1) (by omega) (by simp)).trans hr)
  have HB2 := Lib.hid (hbw.trans (hc.below (by omega) (by simp)))
  have HZ2 : Hid (w.heap.size + 3 ≤ u2.heap.size) := Lib.hid (Nat.le_trans hz hk.1)
  have HT0 := Lib.hid (HasL.kept (HasL.kept HT0.out (Kept.below hb (Nat.le_refl _))) hk)
  have HT1 := Lib.hid (HasR.kept (RT_steady _) (HasR.mono (RT_steady _) ht HZ1.out) hk)
  clear ht hb hz hp hr hq hbw hk hc
  go_wp2_with fail
  rw [← hu]
  clear hu q0 q1 q2 q3 f1
  refine (H2.out u2 HB2.out).mono ?_
  rintro e w3 ⟨v2, rfl, ht, hb⟩
  obtain ⟨B2, b2, rfl⟩ := HS2.out ht
  have hz : w.heap.size + 3 ≤ w3.heap.size := Nat.le_trans HZ2.out hb.size
  have hp := (hb.block (w.heap.size) (by have := HZ2.out; omega)).trans HP2.out
  have hr := (hb.block (w.heap.size + 1) (by have := HZ2.out; omega)).trans HR2.out
  have hq := (hb.block (w.heap.size + 2) (by have := HZ2.out; omega)).trans HQ2.out
  have hbw := HB2.out.trans (hb.mono HB2.out.size)
  clear x0 x1 x2 x3
  obtain ⟨x0, x1, x2, x3⟩ := four4 hp
  obtain ⟨q0, q1, q2, q3⟩ := four4 hq
  have f2 := frozen_of_row w3 _ 2 _ _ hq
  obtain ⟨u3, hu⟩ : ∃ u, u = w3.setCell ⟨w.heap.size + 2, 2, none⟩ (.slice B2 k2 b2) := ⟨_, rfl⟩
  have hk : Kept (w.heap.size + 3) w3 u3 := by rw [hu]; exact Kept.set (by simp) _
  have hc : Chg [w.heap.size + 2] w3 u3 := by rw [hu]; exact Chg.set (by simp) _
  have HQ3 := Lib.hid (show u3.heap[w.heap.size + 2]? = some (.cells #[.slice B0 k0 b0, .slice B1 k1 b1, .slice B2 k2 b2, .slice none 0 0] 32 (0, 0)) by rw [hu]; exact set_heap hq 2 _)
  have HP3 := Lib.hid ((hc.block (w.heap.size) (by omega) (by simp)).trans hp)
  have HR3 := Lib.hid ((hc.block (w.heap.size + 1) (by omega) (by simp)).trans hr)
  have HB3 := Lib.hid (hbw.trans (hc.below (by omega) (by simp)))
  have HZ3 : Hid (w.heap.size + 3 ≤ u3.heap.size) := Lib.hid (Nat.le_trans hz hk.1)
  have HT0 := Lib.hid (HasL.kept (HasL.kept HT0.out (Kept.below hb (Nat.le_refl _))) hk)
  have HT1 := Lib.hid (HasR.kept (RT_steady _) (HasR.kept (RT_steady _) HT1.out (Kept.below hb (Nat.le_refl _))) hk)
  have HT2 := Lib.hid (HasR.kept (RT_steady _) (HasR.mono (RT_steady _) ht HZ2.out) hk)
  clear ht hb hz hp hr hq hbw hk hc
  go_wp2_with fail
  rw [← hu]
  clear hu q0 q1 q2 q3 f2
  refine (H3.out u3 HB3.out).mono ?_
  rintro e w4 ⟨v3, rfl, ht, hb⟩
  obtain ⟨B3, b3, rfl⟩ := HS3.out ht
  have hz : w.heap.size + 3 ≤ w4.heap.size := Nat.le_trans HZ3.out hb.size
  have hp := (hb.block (w.heap.size) (by have := HZ3.out; omega)).trans HP3.out
  have hr := (hb.block (w.heap.size + 1) (by have := HZ3.out; omega)).trans HR3.out
  have hq := (hb.block (w.heap.size + 2) (by have := HZ3.out; omega)).trans HQ3.out
  have hbw := HB3.out.trans (hb.mono HB3.out.size)
  clear x0 x1 x2 x3
  obtain ⟨x0, x1, x2, x3⟩ := four4 hp
  obtain ⟨q0, q1, q2, q3⟩ := four4 hq
  have f3 := frozen_of_row w4 _ 3 _ _ hq
  obtain ⟨z0, z1, z2, z3⟩ := four4 hr
  have g0 := frozen_of_row w4 _ 0 _ _ hr
  have g1 := frozen_of_row w4 _ 1 _ _ hr
  have g2 := frozen_of_row w4 _ 2 _ _ hr
  have g3 := frozen_of_row w4 _ 3 _ _ hr
  have HK : Hid (∀ w9, Chg [w.heap.size + 1, w.heap.size + 2] w4 w9 → ∃ v0 v1 v2 v3, (Ending.returned (.agg #[.slice B0 k0 b0, .slice B1 k1 b1, .slice B2 k2 b2, .slice B3 k3 b3])) = .returned (.agg #[v0, v1, v2, v3]) ∧ HasOc (n + 1) w.heap.size w9 v0 v1 v2 v3 o ∧ Below w.heap.size w w9) := Lib.hid (fun w9 h9 => by
    have k9 : Kept (w.heap.size + 3) w4 w9 := ⟨h9.size, fun k h1 h2 => h9.block k h2 (by simp; omega)⟩
    refine ⟨_, _, _, _, rfl, HasOc.mono (lo := w.heap.size + 3) ?_ (by omega), hbw.trans (h9.below (by omega) (by simp))⟩
    refine HasOc.kept ?_ k9
    exact ⟨HasL.kept HT0.out (Kept.below hb (Nat.le_refl _)), HasR.kept (RT_steady _) HT1.out (Kept.below hb (Nat.le_refl _)), HasR.kept (RT_steady _) HT2.out (Kept.below hb (Nat.le_refl _)), HasR.mono (RB_steady _) ht HZ3.out⟩)
  clear ht hb hz hp hr hq hbw H0 H1 H2 H3 HS0 HS1 HS2 HS3
  go_wp2
  refine bodyPost_ret (v := .agg #[.slice B0 k0 b0, .slice B1 k1 b1, .slice B2 k2 b2, .slice B3 k3 b3]) (by simp [results, Try.results7, go_sem, z0, z1, z2, z3]) rfl (HK.out _ ?_)
  repeat (refine Chg.trans ?_ (Chg.set (by simp) _))
  exact Chg.refl _ _
set_option maxRecDepth 20000 in
set_option maxHeartbeats 1000000 in
/-- laws.eqOccurrence, at equal occurrences -/
theorem eqO_any {n m : Nat} (o : OccM) (vp vl vr vm up ul ur um : Value) (w : World) {lo lo' : Nat} (h : HasOc n lo w vp vl vr vm o) (h' : HasOc m lo' w up ul ur um o) :
    Calls Try.prog 9 #[.agg #[vp, vl, vr, vm], .agg #[up, ul, ur, um]] w fun e w' => e = .returned (.bool true) ∧ Below w.heap.size w w' := by
  have H0 := Lib.hid (fun W (hW : Below w.heap.size w W) => intl.eq_same o.path vp up W (h.1.has.below (Nat.le_refl _) hW) (h'.1.has.below (Nat.le_refl _) hW))
  have H1 := Lib.hid (fun W (hW : Below w.heap.size w W) => eqS_any o.left vl ul W (h.2.1.below (Nat.le_refl _) hW) (h'.2.1.below (Nat.le_refl _) hW))
  have H2 := Lib.hid (fun W (hW : Below w.heap.size w W) => eqS_any o.right vr ur W (h.2.2.1.below (Nat.le_refl _) hW) (h'.2.2.1.below (Nat.le_refl _) hW))
  have H3 := Lib.hid (fun W (hW : Below w.heap.size w W) => eqBS_any o.m vm um W (h.2.2.2.below (Nat.le_refl _) hW) (h'.2.2.2.below (Nat.le_refl _) hW))
  obtain ⟨A0, c0, A1, c1, A2, c2, A3, c3, rfl, rfl, rfl, rfl⟩ := h.shape
  obtain ⟨B0, b0, B1, b1, B2, b2, B3, b3, rfl, rfl, rfl, rfl⟩ := h'.shape
  obtain ⟨k0, hk0⟩ : ∃ q, q = o.path.length := ⟨_, rfl⟩
  rw [← hk0] at H0 ⊢
  obtain ⟨k1, hk1⟩ : ∃ q, q = o.left.length := ⟨_, rfl⟩
  rw [← hk1] at H1 ⊢
  obtain ⟨k2, hk2⟩ : ∃ q, q = o.right.length := ⟨_, rfl⟩
  rw [← hk2] at H2 ⊢
  obtain ⟨k3, hk3⟩ : ∃ q, q = o.m.length := ⟨_, rfl⟩
  rw [← hk3] at H3 ⊢
  obtain ⟨W, hW⟩ : ∃ W, W = (w.alloc (.cells #[.slice A0 k0 c0, .slice A1 k1 c1, .slice A2 k2 c2, .slice A3 k3 c3] 32)).alloc (.cells #[.slice B0 k0 b0, .slice B1 k1 b1, .slice B2 k2 b2, .slice B3 k3 b3] 32) := ⟨_, rfl⟩
  have hb0 : Below w.heap.size w W := by rw [hW]; exact ((Below.refl _ _).alloc (Nat.le_refl _) _).alloc (by simp) _
  have hp : W.heap[w.heap.size]? = some (.cells #[.slice A0 k0 c0, .slice A1 k1 c1, .slice A2 k2 c2, .slice A3 k3 c3] 32 (0, 0)) := by rw [hW]; exact (Below.heap_alloc _ _ _ (by simp)).trans (heap_at _ _ _ rfl)
  have hq : W.heap[w.heap.size + 1]? = some (.cells #[.slice B0 k0 b0, .slice B1 k1 b1, .slice B2 k2 b2, .slice B3 k3 b3] 32 (0, 0)) := by rw [hW]; exact heap_at _ _ _ (by simp)
  have HP0 := Lib.hid hp
  have HQ0 := Lib.hid hq
  have HB0 := Lib.hid hb0
  obtain ⟨x0, x1, x2, x3⟩ := four4 hp
  obtain ⟨y0, y1, y2, y3⟩ := four4 hq
  clear h h' hk0 hk1 hk2 hk3 hb0 hp hq
  go_enter Try.func9, Try.ntmps9
  go_wp2_with fail
  rw [← hW]
  clear hW
  refine (H0.out W HB0.out).mono ?_
  rintro e w1 ⟨rfl, hb⟩
  have HB1 := Lib.hid (HB0.out.trans (hb.mono HB0.out.size))
  have hp := (hb.block _ (Array.getElem?_eq_some_iff.1 HP0.out).1).trans HP0.out
  have hq := (hb.block _ (Array.getElem?_eq_some_iff.1 HQ0.out).1).trans HQ0.out
  have HP1 := Lib.hid hp
  have HQ1 := Lib.hid hq
  clear x0 x1 x2 x3 y0 y1 y2 y3
  obtain ⟨x0, x1, x2, x3⟩ := four4 hp
  obtain ⟨y0, y1, y2, y3⟩ := four4 hq
  clear hb hp hq
  go_wp2_with fail
  refine (H1.out w1 HB1.out).mono ?_
  rintro e w2 ⟨rfl, hb⟩
  have HB2 := Lib.hid (HB1.out.trans (hb.mono HB1.out.size))
  have hp := (hb.block _ (Array.getElem?_eq_some_iff.1 HP1.out).1).trans HP1.out
  have hq := (hb.block _ (Array.getElem?_eq_some_iff.1 HQ1.out).1).trans HQ1.out
  have HP2 := Lib.hid hp
  have HQ2 := Lib.hid hq
  clear x0 x1 x2 x3 y0 y1 y2 y3
  obtain ⟨x0, x1, x2, x3⟩ := four4 hp
  obtain ⟨y0, y1, y2, y3⟩ := four4 hq
  clear hb hp hq
  go_wp2_with fail
  refine (H2.out w2 HB2.out).mono ?_
  rintro e w3 ⟨rfl, hb⟩
  have HB3 := Lib.hid (HB2.out.trans (hb.mono HB2.out.size))
  have hp := (hb.block _ (Array.getElem?_eq_some_iff.1 HP2.out).1).trans HP2.out
  have hq := (hb.block _ (Array.getElem?_eq_some_iff.1 HQ2.out).1).trans HQ2.out
  have HP3 := Lib.hid hp
  have HQ3 := Lib.hid hq
  clear x0 x1 x2 x3 y0 y1 y2 y3
  obtain ⟨x0, x1, x2, x3⟩ := four4 hp
  obtain ⟨y0, y1, y2, y3⟩ := four4 hq
  clear hb hp hq
  go_wp2_with fail
  refine (H3.out w3 HB3.out).mono ?_
  rintro e w4 ⟨rfl, hb⟩
  have HB4 := Lib.hid (HB3.out.trans (hb.mono HB3.out.size))
  clear x0 x1 x2 x3 y0 y1 y2 y3 hb
  go_wp2
  go_ret
  exact ⟨rfl, HB4.out⟩
end Go.Proofs.Ytiilamngcoegiaa.occm
