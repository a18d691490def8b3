/-
  PARTS OF TERMS AT A PATH: the program's nodesOnPath, the model's l12At.
-/
import Derived.Test.YtiilamngcoegiaaIntl
import Derived.Test.YtiilamngcoegiaaTermv
import Derived.Test.YtiilamngcoegiaaTermx
import Derived.Test.YtiilamngcoegiaaQtail
import Derived.Deep.RegionHeld3
namespace Go.Proofs.Ytiilamngcoegiaa.occa
open Go.ChangeShapes Go.WideShapes Go.ChangeAt Go.RowKit
open mem setm sets intl rowl trm trmv terml termb termt termu termv termx qtail

/-- the part at a path -/
noncomputable def atM : TermM → List Int → Option TermM
  | t, [] => some t
  | t, i :: p => if 0 ≤ i ∧ i < t.args.length then atM (t.args.getD i.toNat default) p else none
theorem atM_snoc (i : Int) : ∀ (p : List Int) (t : TermM), atM t (p ++ [i]) = (atM t p).bind fun x => if 0 ≤ i ∧ i < x.args.length then some (x.args.getD i.toNat default) else none
  | [], t => by simp only [List.nil_append, atM, Option.bind_some]
  | j :: p, t => by
    simp only [List.cons_append, atM]
    split
    · exact atM_snoc i p _
    · rfl
theorem atM_none (q : List Int) : ∀ (p : List Int) (t : TermM), atM t p = none → atM t (p ++ q) = none
  | [], t, h => by simp [atM] at h
  | j :: p, t, h => by
    simp only [List.cons_append, atM] at h ⊢
    split at h
    · rename_i hj
      rw [if_pos hj]
      exact atM_none q p _ h
    · rename_i hj
      rw [if_neg hj]
theorem atM_take {t u : TermM} {p : List Int} {k : Nat} (hk : k < p.length) (h : atM t (p.take k) = some u) : atM t (p.take (k + 1)) = if 0 ≤ p.getD k 0 ∧ p.getD k 0 < u.args.length then some (u.args.getD (p.getD k 0).toNat default) else none := by
  rw [takeI p k hk, atM_snoc, h]; rfl
theorem atM_fail {t : TermM} {p : List Int} {k : Nat} (h : atM t (p.take k) = none) : atM t p = none := by
  have := atM_none (p.drop k) _ _ h
  rwa [List.take_append_drop] at this
theorem atM_size : ∀ (p : List Int) (t u : TermM), atM t p = some u → size u ≤ size t
  | [], t, u, h => by simp only [atM, Option.some.injEq] at h; rw [h]; exact Nat.le_refl _
  | i :: p, t, u, h => by
    simp only [atM] at h
    split at h
    · rename_i hj
      have h1 := atM_size p _ u h
      have h2 := size_le_sizes (l := t.args) (j := i.toNat) (by omega)
      have h3 := size_eq t
      omega
    · cases h
/-- a pointer to a term's four cells -/
def PtrTo (n lo : Nat) (w : World) (v : Value) (u : TermM) : Prop := ∃ g o A c, v = .pointer (some ⟨g, o, none⟩) ∧ g < w.heap.size ∧
  (w.cell? ⟨g, o, none⟩ = some (.int .i64 u.op) ∧ w.cell? ⟨g, o + 1, none⟩ = some (.string (bstr u.name)) ∧ w.cell? ⟨g, o + 2, none⟩ = some (.int .i64 u.sort) ∧ w.cell? ⟨g, o + 3, none⟩ = some (.slice A u.args.length c)) ∧
  HasTs n lo w (.slice A u.args.length c) u.args ∧ Bnd u
theorem PtrTo.below {n lo : Nat} {w w' : World} {v : Value} {u : TermM} (h : PtrTo n lo w v u) (hb : Below w.heap.size w w') : PtrTo n lo w' v u := by
  obtain ⟨g, o, A, c, e, hg, ⟨h0, h1, h2, h3⟩, ht, hB⟩ := h
  have k : ∀ {o : Nat} {v : Value}, w.cell? ⟨g, o, none⟩ = some v → w'.cell? ⟨g, o, none⟩ = some v := fun {o v} h => (hb.cell (p := ⟨g, o, none⟩) hg).trans h
  exact ⟨g, o, A, c, e, Nat.lt_of_lt_of_le hg hb.size, ⟨k h0, k h1, k h2, k h3⟩, ht.below (Nat.le_refl _) hb, hB⟩
/-- impl.isIndex -/
theorem idx_any (x : Int) (n : Nat) (r : Bool) (hr : decide (0 ≤ x ∧ x < n) = r) (w : World) :
    Calls Try.prog 48 #[.int .i64 x, .int .i64 n] w fun e w' => e = .returned (.bool r) ∧ w = w' := by
  by_cases h1 : 0 ≤ x
  · by_cases h2 : x < n
    · obtain rfl : r = true := by rw [← hr]; exact decide_eq_true ⟨h1, h2⟩
      clear hr
      go_enter Try.func48, Try.ntmps48
      go_wp2
      go_ret
      exact ⟨rfl, rfl⟩
    · obtain rfl : r = false := by rw [← hr]; exact decide_eq_false (fun h => h2 h.2)
      clear hr
      go_enter Try.func48, Try.ntmps48
      go_wp2
      go_ret
      exact ⟨rfl, rfl⟩
  · obtain rfl : r = false := by rw [← hr]; exact decide_eq_false (fun h => h1 h.1)
    clear hr
    go_enter Try.func48, Try.ntmps48
    go_wp2
    go_ret
    exact ⟨rfl, rfl⟩
theorem info_tptr : (Try.prog.info? 63).map (fun i => (i.zero, i.size, i.bytes)) = some (some (.pointer none), 1, 8) := by kernel_rfl
/-- what nodesOnPath leaves -/
def NodesP (n lo : Nat) (t : TermM) (p : List Int) (w : World) (e : Ending) (w' : World) : Prop :=
  (atM t p = none ∧ e = .returned (.tuple #[.slice none 0 0, .bool false]) ∨
    ∃ u ps v, atM t p = some u ∧ e = .returned (.tuple #[v, .bool true]) ∧ w'.ownsRow w.heap.size 63 1 v (p.length + 1) ps ∧ ∀ j, j ≤ p.length → ∃ x, atM t (p.take j) = some x ∧ PtrTo n lo w (ps.getD j undef) x) ∧ Below w.heap.size w w'
set_option maxRecDepth 20000 in
set_option maxHeartbeats 1000000 in
/-- impl.nodesOnPath -/
theorem nodes_any {n lo : Nat} (t : TermM) (v : Value) (p : List Int) (vp : Value) (w : World) (h : PtrTo n lo w v t) (hp : Has w vp (ivs p)) (hN : p.length ≤ 1048576) :
    Calls Try.prog 35 #[v, vp] w (NodesP n lo t p w) := by
  have HPT := Lib.hid h
  obtain ⟨g, o, A, c, rfl, hg, hcs, hts, hB⟩ := h
  obtain ⟨P, cp, rfl, hp⟩ := hp.shape (ivs_len p)
  obtain ⟨i0, hi, hz0, hz1, hz2⟩ := info_parts info_tptr
  have hlp := hp.len.2
  have HP0 := Lib.hid hp
  have HNN := Lib.hid hN
  obtain ⟨N, hNN⟩ : ∃ N, N = p.length := ⟨_, rfl⟩
  rw [← hNN] at HP0 hlp hN ⊢
  have HL := Lib.hid hNN
  clear hcs hts hB hp hNN hg
  go_enter Try.func35, Try.ntmps35
  go_wp2
  go_loopw [6, 14] (fun v i wr => ∃ (k : Nat) (u : TermM) (ps : List Value), i = .int .i64 k ∧ k ≤ N ∧ Hid (atM t (p.take k) = some u) ∧ wr.ownsRow w.heap.size 63 1 v (k + 1) ps ∧ Hid (∀ j, j ≤ k → ∃ x, atM t (p.take j) = some x ∧ PtrTo n lo w (ps.getD j undef) x) ∧ Below w.heap.size w wr) (fun _ i _ => N - (intOf i).toNat)
  case atStart =>
    refine ⟨0, t, [.pointer (some ⟨g, o, none⟩)], rfl, Nat.zero_le _, Lib.hid rfl, ?_, Lib.hid (fun j hj => ⟨t, ?_, ?_⟩), (Below.refl _ _).alloc (Nat.le_refl _) _⟩
    · simpa using World.ownsRow_lit (e := 63) (size := 1) w #[.pointer (some ⟨g, o, none⟩)] 1 (Nat.le_refl _) (by unfold maxLen; omega) rfl
    · obtain rfl : j = 0 := by omega
      rfl
    · obtain rfl : j = 0 := by omega
      exact HPT.out
  case round =>
    obtain ⟨k, u, ps, rfl, hk, HA, hown, HP, hbel⟩ := hrel
    have HO := Lib.hid (own_block hown)
    by_cases hlt : k < N
    · obtain ⟨uk, hu1, g1, o1, A1, c1, hps, hg1, ⟨_, _, _, d3⟩, ht1, hB1⟩ := HP.out k (Nat.le_refl _)
      obtain rfl : uk = u := Option.some.inj (hu1.symm.trans HA.out)
      have hlen : ps.length = k + 1 := by have := hown.1; omega
      obtain ⟨gv, capv, rfl, hgv, hgl⟩ := own_shape hown (by intro e; rw [e] at hlen; simp at hlen)
      have hck : wr.cell? ⟨gv, k, none⟩ = some (.pointer (some ⟨g1, o1, none⟩)) := by
        rw [hown.cellAt k (by omega), ← hps, List.getElem?_eq_getElem (by omega)]
        simp [List.getD, List.getElem?_eq_getElem (show k < ps.length by omega)]
      obtain ⟨gp, op, rfl, hgp, hcp⟩ := HP0.out.cellAt hlt
      rw [ivs_get p k (by have := HL.out; omega), ← hbel.cell (p := ⟨gp, op + k, none⟩) hgp] at hcp
      have d3' : wr.cell? ⟨g1, o1 + 3, none⟩ = some (.slice A1 uk.args.length c1) := (hbel.cell (p := ⟨g1, o1 + 3, none⟩) hg1).trans d3
      have HT := Lib.hid (atM_take (t := t) (u := uk) (p := p) (k := k) (by have := HL.out; omega) HA.out)
      obtain ⟨x, hx⟩ : ∃ x, x = p.getD k 0 := ⟨_, rfl⟩
      rw [← hx] at hcp HT
      obtain ⟨L, hL⟩ : ∃ L, L = uk.args.length := ⟨_, rfl⟩
      have hLl := ht1.len.2.1
      rw [← hL] at HT d3' hLl
      by_cases hin : 0 ≤ x ∧ x < L
      · obtain ⟨q, hq⟩ : ∃ q : Nat, x = (q : Int) := ⟨x.toNat, by omega⟩
        have HI := Lib.hid (fun W => idx_any x L true (decide_eq_true hin) W)
        obtain ⟨kn, g2, o2, A2, c2, hn, hA1, _, hg2, e0, e1, e2, e3, ht2, b1, b2, b3⟩ := term_at ht1 (j := q) (by omega)
        subst hq
        subst hA1
        have hqL : q < L := by omega
        have HTk : Hid (atM t (p.take (k + 1)) = some (uk.args.getD q default)) := Lib.hid (by rw [HT.out, if_pos hin]; rfl)
        have HPn : Hid (PtrTo n lo w (.pointer (some ⟨g2, o2 + q * 4, none⟩)) (uk.args.getD q default)) := Lib.hid ⟨g2, o2 + q * 4, A2, c2, rfl, hg2, ⟨e0, e1, e2, e3⟩, ht2.up (by omega), b1, b2, b3⟩
        have hown' := Lib.hid hown
        clear ht1 hB1 hps d3 hu1 e0 e1 e2 e3 ht2 b1 b2 b3 hx hL hin HT hn
        go_wp2_with fail
        refine (HI.out _).mono ?_
        rintro e w1 ⟨rfl, rfl⟩
        clear HI
        go_wp2_with (first | (at_builtin; refine wpList_append_own _ rfl _ _ 60 rfl w.heap.size 63 i0 (.pointer none) 1 8 Try.underlying60 hi hz0 hz1 hz2 rfl (by decide) _ _ _ rfl (hown.alloc _) ⟨wr.heap.size, 0, none⟩ 1 1 [.pointer (some ⟨g2, o2 + q * 4, none⟩)] rfl rfl (one_cell _ _ _) (one_one _ rfl) (by unfold maxLen; omega) (by omega) (by have := hbel.size; simp; omega) ?_))
        intro v1 w1 hown1 hgrow1 _
        have HB := (hbel.alloc hbel.size (.cells #[.pointer (some ⟨g2, o2 + q * 4, none⟩)] 63)).grown hgrow1 (by have := hbel.size; simp; omega) HO.out
        have HOWN : w1.ownsRow w.heap.size 63 1 v1 (k + 1 + 1) (ps ++ [.pointer (some ⟨g2, o2 + q * 4, none⟩)]) := by simpa using hown1
        have HPP : Hid (∀ j, j ≤ k + 1 → ∃ x, atM t (p.take j) = some x ∧ PtrTo n lo w ((ps ++ [Value.pointer (some ⟨g2, o2 + q * 4, none⟩)]).getD j undef) x) := Lib.hid (fun j hj => by
          by_cases hjk : j ≤ k
          · obtain ⟨x, h1, h2⟩ := HP.out j hjk
            refine ⟨x, h1, ?_⟩
            have : (ps ++ [Value.pointer (some ⟨g2, o2 + q * 4, none⟩)]).getD j undef = ps.getD j undef := by simp only [List.getD]; rw [List.getElem?_append_left (by omega)]
            rw [this]; exact h2
          · obtain rfl : j = k + 1 := by omega
            refine ⟨_, HTk.out, ?_⟩
            have : (ps ++ [Value.pointer (some ⟨g2, o2 + q * 4, none⟩)]).getD (k + 1) undef = .pointer (some ⟨g2, o2 + q * 4, none⟩) := by simp only [List.getD]; rw [List.getElem?_append_right (by omega), hlen, Nat.sub_self]; rfl
            rw [this]; exact HPn.out)
        clear hown1 hgrow1 hown hbel
        go_wp2
        go_roundw
        case rel => exact ⟨k + 1, _, _, by go_num, by omega, HTk, HOWN, HPP, HB⟩
        case measure => simp [intOf]; omega
      · have HI := Lib.hid (fun W => idx_any x L false (decide_eq_false hin) W)
        have HF : Hid (atM t p = none) := Lib.hid (atM_fail (k := k + 1) (by rw [HT.out, if_neg hin]))
        clear ht1 hB1 hps d3 hu1 hx hL hin HT
        go_wp2_with fail
        refine (HI.out _).mono ?_
        rintro e w1 ⟨rfl, rfl⟩
        go_wp2
        refine bodyPost_ret (v := .tuple #[.slice none 0 0, .bool false]) (by simp [results, Try.results35, go_sem]) rfl ?_
        exact ⟨.inl ⟨HF.out, rfl⟩, hbel⟩
    · obtain rfl : k = N := by omega
      have HF : Hid (atM t p = some u) := Lib.hid (by have := HA.out; rwa [HL.out, List.take_length] at this)
      go_wp2
      refine bodyPost_ret (v := .tuple #[u6, .bool true]) (by simp [results, Try.results35, go_sem]) rfl ?_
      exact ⟨.inr ⟨u, ps, u6, HF.out, rfl, by rw [← HL.out]; exact hown, by rw [← HL.out]; exact HP.out⟩, hbel⟩
/-- what l12At leaves -/
def AtP (n lo : Nat) (t : TermM) (p : List Int) (w : World) (e : Ending) (w' : World) : Prop :=
  (atM t p = none ∧ e = .returned (.tuple #[.agg #[.int .i64 0, .string { data := #[] }, .int .i64 0, .slice none 0 0], .bool false]) ∨
    ∃ u vu, atM t p = some u ∧ e = .returned (.tuple #[.agg #[.int .i64 u.op, .string (bstr u.name), .int .i64 u.sort, vu], .bool true]) ∧ HasTs n lo w vu u.args ∧ Bnd u) ∧ Below w.heap.size w w'
theorem four_c {w : World} {x : Nat} {v0 v1 v2 v3 : Value} {t : TypeId} (h : w.heap[x]? = some (.cells #[v0, v1, v2, v3] t (0, 0))) : w.cell? ⟨x, 0, none⟩ = some v0 ∧ w.cell? ⟨x, 1, none⟩ = some v1 ∧ w.cell? ⟨x, 2, none⟩ = some v2 ∧ w.cell? ⟨x, 3, none⟩ = some v3 :=
  ⟨cell_of_row w x 0 _ _ _ h, cell_of_row w x 1 _ _ _ h, cell_of_row w x 2 _ _ _ h, cell_of_row w x 3 _ _ _ h⟩
theorem four_f {w : World} {x : Nat} {v0 v1 v2 v3 : Value} {t : TypeId} (h : w.heap[x]? = some (.cells #[v0, v1, v2, v3] t (0, 0))) : w.frozen? ⟨x, 0, none⟩ = false ∧ w.frozen? ⟨x, 1, none⟩ = false ∧ w.frozen? ⟨x, 2, none⟩ = false ∧ w.frozen? ⟨x, 3, none⟩ = false :=
  ⟨frozen_of_row w x 0 _ _ h, frozen_of_row w x 1 _ _ h, frozen_of_row w x 2 _ _ h, frozen_of_row w x 3 _ _ h⟩
theorem set_heap {w : World} {x : Nat} {cs : Array Value} {t : TypeId} {f : Nat × Nat} (h : w.heap[x]? = some (.cells cs t f)) (i : Nat) (u : Value) : (w.setCell ⟨x, i, none⟩ u).heap[x]? = some (.cells (cs.setIfInBounds i u) t f) := by
  simp [World.setCell, Array.getElem?_modify, h]
set_option maxRecDepth 20000 in
set_option maxHeartbeats 2000000 in
/-- spec.l12At -/
theorem sAt_any {n lo : Nat} (t : TermM) (va : Value) (p : List Int) (vp : Value) (w : World) (ht : HasTs n lo w va t.args) (hB : Bnd t) (hp : Has w vp (ivs p)) (hN : p.length ≤ 1048576) :
    Calls Try.prog 33 #[aggT t va, vp] w (AtP n lo t p w) := by
  obtain ⟨A, c, rfl, _⟩ := HasR.shape ht rfl
  obtain ⟨P, cp, rfl, hp⟩ := hp.shape (ivs_len p)
  have hlp := hp.len.2
  have HP0 := Lib.hid hp
  have HT0 := Lib.hid (And.intro ht hB)
  obtain ⟨N, hNN⟩ : ∃ N, N = p.length := ⟨_, rfl⟩
  rw [← hNN] at HP0 hlp hN ⊢
  have HL := Lib.hid hNN
  obtain ⟨W, hW⟩ : ∃ W, W = (w.alloc (.cells #[.int .i64 t.op, .string (bstr t.name), .int .i64 t.sort, .slice A t.args.length c] 40)).alloc (.cells #[.int .i64 0, .string { data := #[] }, .int .i64 0, .slice none 0 0] 40) := ⟨_, rfl⟩
  have hb0 : Below w.heap.size w W := by rw [hW]; exact ((Below.refl _ _).alloc (Nat.le_refl _) _).alloc (by simp) _
  have hx0 : W.heap[w.heap.size]? = some (.cells #[.int .i64 t.op, .string (bstr t.name), .int .i64 t.sort, .slice A t.args.length c] 40 (0, 0)) := by rw [hW]; exact (Below.heap_alloc _ _ _ (by simp)).trans (heap_at _ _ _ rfl)
  have hy0 : W.heap[w.heap.size + 1]? = some (.cells #[.int .i64 0, .string { data := #[] }, .int .i64 0, .slice none 0 0] 40 (0, 0)) := by rw [hW]; exact heap_at _ _ _ (by simp)
  have HX0 := Lib.hid (And.intro hb0 (And.intro hx0 hy0))
  unfold aggT
  obtain ⟨to, hto⟩ : ∃ q, q = t.op := ⟨_, rfl⟩
  obtain ⟨tn, htn⟩ : ∃ q, q = t.name := ⟨_, rfl⟩
  obtain ⟨ts, hts⟩ : ∃ q, q = t.sort := ⟨_, rfl⟩
  obtain ⟨tl, htl⟩ : ∃ q, q = t.args.length := ⟨_, rfl⟩
  rw [← hto, ← htn, ← hts, ← htl] at hW ⊢
  clear ht hB hp hNN hb0 hx0 hy0 hto htn hts htl
  go_enter Try.func33, Try.ntmps33
  go_wp2
  rw [← hW]
  clear hW
  go_loopw [6] (fun i wr => ∃ (k : Nat) (u : TermM) (A : Option Addr) (c : Nat), i = .int .i64 k ∧ k ≤ N ∧ Hid (atM t (p.take k) = some u) ∧ Hid (HasTs n lo w (.slice A u.args.length c) u.args ∧ Bnd u) ∧ wr.heap[w.heap.size]? = some (.cells #[.int .i64 u.op, .string (bstr u.name), .int .i64 u.sort, .slice A u.args.length c] 40 (0, 0)) ∧ wr.heap[w.heap.size + 1]? = some (.cells #[.int .i64 0, .string { data := #[] }, .int .i64 0, .slice none 0 0] 40 (0, 0)) ∧ Below w.heap.size w wr) (fun i _ => N - (intOf i).toNat)
  case atStart => exact ⟨0, t, A, c, rfl, Nat.zero_le _, Lib.hid rfl, HT0, HX0.out.2.1, HX0.out.2.2, HX0.out.1⟩
  case round =>
    obtain ⟨k, u, A1, c1, rfl, hk, HA, HT, hx, hy, hbel⟩ := hrel
    clear HX0 HT0
    obtain ⟨x0, x1, x2, x3⟩ := four_c hx
    obtain ⟨f0, f1, f2, f3⟩ := four_f hx
    obtain ⟨y0, y1, y2, y3⟩ := four_c hy
    obtain ⟨r0, r1, r2, r3⟩ := four_f hy
    have HX := Lib.hid (And.intro hx (And.intro hy hbel))
    have hxl : w.heap.size < wr.heap.size := (Array.getElem?_eq_some_iff.1 hx).1
    by_cases hlt : k < N
    · obtain ⟨gp, op, rfl, hgp, hcp⟩ := HP0.out.cellAt hlt
      rw [ivs_get p k (by have := HL.out; omega), ← hbel.cell (p := ⟨gp, op + k, none⟩) hgp] at hcp
      have HS := Lib.hid (atM_take (t := t) (u := u) (p := p) (k := k) (by have := HL.out; omega) HA.out)
      obtain ⟨x, hxx⟩ : ∃ x, x = p.getD k 0 := ⟨_, rfl⟩
      rw [← hxx] at hcp HS
      have hLl := HT.out.1.len.2.1
      have ht1 := HT.out.1
      obtain ⟨L, hL⟩ : ∃ L, L = u.args.length := ⟨_, rfl⟩
      rw [← hL] at HS x3 hLl
      have wL : IntKind.i64.wrap ((L : Int) - 1) = (L : Int) - 1 := IntWalk.i64_in _ (by omega)
      by_cases hin : 0 ≤ x ∧ x < L
      · have HI := Lib.hid (fun W => l1In_any x 0 ((L : Int) - 1) true (by unfold inI; exact decide_eq_true ⟨hin.1, by omega⟩) W)
        obtain ⟨q, hq⟩ : ∃ q : Nat, x = (q : Int) := ⟨x.toNat, by omega⟩
        obtain ⟨kn, g2, o2, A2, c2, hn, hA1, _, hg2, e0, e1, e2, e3, ht2, b1, b2, b3⟩ := term_at ht1 (j := q) (by omega)
        subst hq
        subst hA1
        have hqL : q < L := by omega
        have HTk : Hid (atM t (p.take (k + 1)) = some (u.args.getD q default)) := Lib.hid (by rw [HS.out, if_pos hin]; rfl)
        have HTn : Hid (HasTs n lo w (.slice A2 (u.args.getD q default).args.length c2) (u.args.getD q default).args ∧ Bnd (u.args.getD q default)) := Lib.hid ⟨ht2.up (by omega), b1, b2, b3⟩
        obtain ⟨z, hz⟩ : ∃ z, z = u.args.getD q default := ⟨_, rfl⟩
        rw [← hz] at e0 e1 e2 e3 HTk HTn
        obtain ⟨zl, hzl⟩ : ∃ z', z' = z.args.length := ⟨_, rfl⟩
        have HZL := Lib.hid hzl
        rw [← hzl] at e3
        rw [← hbel.cell (p := ⟨g2, o2 + q * 4, none⟩) hg2] at e0
        rw [← hbel.cell (p := ⟨g2, o2 + q * 4 + 1, none⟩) hg2] at e1
        rw [← hbel.cell (p := ⟨g2, o2 + q * 4 + 2, none⟩) hg2] at e2
        rw [← hbel.cell (p := ⟨g2, o2 + q * 4 + 3, none⟩) hg2] at e3
        have hbelH := Lib.hid hbel
        clear ht1 ht2 b1 b2 b3 hxx hL hin HS hn hz hzl hx hy hbel y0 y1 y2 y3 r0 r1 r2 r3
        go_wp2
        go_quiet ((go_at_call 47; exact (HI.out _).mono (fun _ _ h => ⟨h.1, _, h.2.symm⟩)))
        go_wp2_with fail
        have c3 := fun t : BoxC (Below wr.heap.size wr) => t.cell x3 hxl
        have cp := fun t : BoxC (Below wr.heap.size wr) => t.cell hcp (World.block_lt_of_cell? _ _ hcp)
        have c0 := fun t : BoxC (Below wr.heap.size wr) => t.cell e0 (World.block_lt_of_cell? _ _ e0)
        have c1' := fun t : BoxC (Below wr.heap.size wr) => t.cell e1 (World.block_lt_of_cell? _ _ e1)
        have c2' := fun t : BoxC (Below wr.heap.size wr) => t.cell e2 (World.block_lt_of_cell? _ _ e2)
        have c4 := fun t : BoxC (Below wr.heap.size wr) => t.cell e3 (World.block_lt_of_cell? _ _ e3)
        have nb : Nonempty (BoxC (Below wr.heap.size wr)) := ⟨⟨_, Below.refl _ _⟩⟩
        have i1 : (0 : Int) ≤ (k : Int) := by omega
        have i2 : (k : Int) < (N : Int) := by omega
        have i3 : (0 : Int) ≤ (q : Int) := by omega
        have i4 : (q : Int) < (L : Int) := by omega
        clear e0 e1 e2 e3 hcp x0 x1 x2 x3 f0 f1 f2 f3
        refine region_tail (C := Below wr.heap.size wr) 8 (by kernel_rfl) (by kernel_rfl) (by exact ((below_drewN (Below.refl _ _) _).drew)) ?_
        simp only [List.take_succ_cons, List.take_zero]
        repeat go_big_quiet_step (fail)
        refine wpQuiet_nil ?_
        rintro w5 ⟨t5, rfl⟩
        have hx5 := (t5.h.block _ hxl).trans HX.out.1
        have hy5 := (t5.h.block _ (Array.getElem?_eq_some_iff.1 HX.out.2.1).1).trans HX.out.2.1
        have hb5 := HX.out.2.2.trans (t5.h.mono HX.out.2.2.size)
        obtain ⟨W5, hW5⟩ : ∃ W5, W5 = t5.W := ⟨_, rfl⟩
        rw [← hW5] at hx5 hy5 hb5 ⊢
        obtain ⟨f0, f1, f2, f3⟩ := four_f hx5
        obtain ⟨x0, x1, x2, x3⟩ := four_c hx5
        have HX5 := Lib.hid (And.intro hx5 (And.intro hy5 hb5))
        clear c0 c1' c2' c3 c4 cp nb hW5 hx5 hy5 hb5
        simp only [List.drop_succ_cons, List.drop_zero]
        go_wp2
        go_roundw
        case rel =>
          refine ⟨k + 1, z, A2, c2, by go_num, by omega, HTk, HTn, ?_, ?_, ?_⟩
          · rw [← HZL.out]
            exact set_heap (set_heap (set_heap (set_heap HX5.out.1 0 _) 1 _) 2 _) 3 _
          · exact ((((Chg.set (S := [w.heap.size]) (by simp) _).trans (Chg.set (by simp) _)).trans (Chg.set (by simp) _)).trans (Chg.set (by simp) _)).block _ (Array.getElem?_eq_some_iff.1 HX5.out.2.1).1 (by simp) |>.trans HX5.out.2.1
          · exact (((HX5.out.2.2.setCell (Nat.le_refl _) _).setCell (Nat.le_refl _) _).setCell (Nat.le_refl _) _).setCell (Nat.le_refl _) _
        case measure => simp [intOf]; omega
      · have HI := Lib.hid (fun W => l1In_any x 0 ((L : Int) - 1) false (by unfold inI; exact decide_eq_false (fun h => hin ⟨h.1, by omega⟩)) W)
        have HF : Hid (atM t p = none) := Lib.hid (atM_fail (k := k + 1) (by rw [HS.out, if_neg hin]))
        have hbelH := Lib.hid hbel
        clear ht1 hxx hL hin HS hx hy hbel
        go_wp2
        go_quiet ((go_at_call 47; exact (HI.out _).mono (fun _ _ h => ⟨h.1, _, h.2.symm⟩)))
        go_wp2
        refine bodyPost_ret (v := .tuple #[.agg #[.int .i64 0, .string { data := #[] }, .int .i64 0, .slice none 0 0], .bool false]) (by simp [results, Try.results33, go_sem, y0, y1, y2, y3]) rfl ⟨.inl ⟨HF.out, rfl⟩, ?_⟩
        repeat (refine Below.setCell ?_ (by simp) _)
        first | exact hbelH.out | exact hbelH.out.drew | exact below_drewN hbelH.out _
    · obtain rfl : k = N := by omega
      have HF : Hid (atM t p = some u) := Lib.hid (by have := HA.out; rwa [HL.out, List.take_length] at this)
      obtain ⟨uo, huo⟩ : ∃ q, q = u.op := ⟨_, rfl⟩
      obtain ⟨un, hun⟩ : ∃ q, q = u.name := ⟨_, rfl⟩
      obtain ⟨us, hus⟩ : ∃ q, q = u.sort := ⟨_, rfl⟩
      obtain ⟨ul, hul⟩ : ∃ q, q = u.args.length := ⟨_, rfl⟩
      have HFN : Hid (∀ w9, Below w.heap.size w w9 → AtP n lo t p w (.returned (.tuple #[.agg #[.int .i64 uo, .string (bstr un), .int .i64 us, .slice A1 ul c1], .bool true])) w9) := Lib.hid (fun w9 h9 => ⟨.inr ⟨u, .slice A1 u.args.length c1, HF.out, by rw [huo, hun, hus, hul], HT.out.1, HT.out.2⟩, h9⟩)
      rw [← huo] at x0
      rw [← hun] at x1
      rw [← hus] at x2
      rw [← hul] at x3
      have hbelH := Lib.hid hbel
      clear huo hun hus hul hx hy hbel HX
      go_wp2
      refine bodyPost_ret (v := .tuple #[.agg #[.int .i64 uo, .string (bstr un), .int .i64 us, .slice A1 ul c1], .bool true]) (by simp [results, Try.results33, go_sem, y0, y1, y2, y3]) rfl (HFN.out _ ?_)
      repeat (refine Below.setCell ?_ (by simp) _)
      exact hbelH.out
end Go.Proofs.Ytiilamngcoegiaa.occa
