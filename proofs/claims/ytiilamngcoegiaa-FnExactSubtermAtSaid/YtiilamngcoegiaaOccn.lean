/-
  SubtermAt, THE PROGRAM'S AND THE MODEL'S.
-/
import Derived.Test.YtiilamngcoegiaaOcca
import Derived.Test.YtiilamngcoegiaaTermcy
import Derived.Test.YtiilamngcoegiaaTermlc
namespace Go.Proofs.Ytiilamngcoegiaa.occn
open Go.ChangeShapes Go.WideShapes Go.ChangeAt Go.RowKit
open mem setm sets intl rowl trm trmv terml termb termt termu termx termlc termcy occa

/-- the part at a path, or the zero Term -/
noncomputable def subT (t : TermM) (p : List Int) : TermM := (atM t p).getD (.mk 0 [] 0 [])
noncomputable def subOk (t : TermM) (p : List Int) : Bool := (atM t p).isSome
theorem subT_size {t : TermM} {p : List Int} (h : sizes t.args ≤ 1048576) : sizes (subT t p).args ≤ 1048576 := by
  unfold subT
  cases hq : atM t p with
  | none => exact Nat.zero_le _
  | some u =>
    have h1 := atM_size p t u hq
    have h2 := termv.size_eq t
    have h3 := termv.size_eq u
    show sizes u.args ≤ _
    omega
set_option maxRecDepth 20000 in
set_option maxHeartbeats 2000000 in
/-- impl.SubtermAt -/
theorem iSub_any {n lo : Nat} (t : TermM) (va : Value) (p : List Int) (vp : Value) (w : World) (ht : HasTs n lo w va t.args) (hB : Bnd t) (hp : Has w vp (ivs p)) (hN : p.length ≤ 1048576) (hs : sizes t.args ≤ 1048576) :
    Calls Try.prog 14 #[aggT t va, vp] w fun e w' => ∃ v' S, e = .returned (.tuple #[aggT (subT t p) v', .bool (subOk t p)]) ∧ OT 40 (depth (subT t p)) w.heap.size w' v' (subT t p).args S ∧ Below w.heap.size w w' := by
  obtain ⟨A, c, rfl, _⟩ := HasR.shape ht rfl
  obtain ⟨P, cp, rfl, hp'⟩ := hp.shape (ivs_len p)
  obtain ⟨W, hW⟩ : ∃ W, W = (w.alloc (.cells #[.int .i64 t.op, .string (bstr t.name), .int .i64 t.sort, .slice A t.args.length c] 40)).alloc (.cells #[.int .i64 0, .string { data := #[] }, .int .i64 0, .slice none 0 0] 40) := ⟨_, rfl⟩
  have hb0 : Below w.heap.size w W := by rw [hW]; exact ((Below.refl _ _).alloc (Nat.le_refl _) _).alloc (by simp) _
  have hx0 : W.heap[w.heap.size]? = some (.cells #[.int .i64 t.op, .string (bstr t.name), .int .i64 t.sort, .slice A t.args.length c] 40 (0, 0)) := by rw [hW]; exact (Below.heap_alloc _ _ _ (by simp)).trans (heap_at _ _ _ rfl)
  have hy0 : W.heap[w.heap.size + 1]? = some (.cells #[.int .i64 0, .string { data := #[] }, .int .i64 0, .slice none 0 0] 40 (0, 0)) := by rw [hW]; exact heap_at _ _ _ (by simp)
  have HN := Lib.hid (nodes_any t (.pointer (some ⟨w.heap.size, 0, none⟩)) p _ W ⟨w.heap.size, 0, A, c, rfl, (Array.getElem?_eq_some_iff.1 hx0).1, four_c hx0, ht.below (Nat.le_refl _) hb0, hB⟩ (hp.below (Nat.le_refl _) hb0) hN)
  have HY := Lib.hid (And.intro hb0 hy0)
  have HS := Lib.hid hs
  have HSZ : Hid (∀ u, atM t p = some u → size u ≤ 1073741823) := Lib.hid (fun u hu => by
    have h1 := atM_size p t u hu
    have h2 := termv.size_eq t
    omega)
  obtain ⟨N, hNN⟩ : ∃ N, N = p.length := ⟨_, rfl⟩
  rw [← hNN] at HN hN ⊢
  have HL := Lib.hid hNN
  unfold aggT
  obtain ⟨to, hto⟩ : ∃ q, q = t.op := ⟨_, rfl⟩
  obtain ⟨tn, htn⟩ : ∃ q, q = t.name := ⟨_, rfl⟩
  obtain ⟨ts, hts⟩ : ∃ q, q = t.sort := ⟨_, rfl⟩
  obtain ⟨tl, htl⟩ : ∃ q, q = t.args.length := ⟨_, rfl⟩
  rw [← hto, ← htn, ← hts, ← htl] at hW ⊢
  clear ht hB hp hp' hNN hb0 hx0 hy0 hto htn hts htl hs
  go_enter Try.func14, Try.ntmps14
  go_wp2_with fail
  rw [← hW]
  clear hW
  refine HN.out.mono ?_
  rintro e w1 ⟨hcase, hb1⟩
  have hy1 := (hb1.block _ (Array.getElem?_eq_some_iff.1 HY.out.2).1).trans HY.out.2
  have hbw := HY.out.1.trans (hb1.mono HY.out.1.size)
  have HYZ := HY.out
  obtain ⟨y0, y1, y2, y3⟩ := four_c hy1
  obtain ⟨r0, r1, r2, r3⟩ := four_f hy1
  rcases hcase with ⟨hno, rfl⟩ | ⟨u, ps, v, hu, rfl, hown, hps⟩
  · have HF : Hid (∀ w9, Below w.heap.size w w9 → ∃ v' S, Ending.returned (.tuple #[.agg #[.int .i64 0, .string { data := #[] }, .int .i64 0, .slice none 0 0], .bool false]) = .returned (.tuple #[aggT (subT t p) v', .bool (subOk t p)]) ∧ OT 40 (depth (subT t p)) w.heap.size w9 v' (subT t p).args S ∧ Below w.heap.size w w9) := Lib.hid (fun w9 h9 => by
      have e1 : subT t p = .mk 0 [] 0 [] := by unfold subT; rw [hno]; rfl
      have e2 : subOk t p = false := by unfold subOk; rw [hno]; rfl
      rw [e1, e2]
      exact ⟨.slice none 0 0, [], rfl, by rw [termv.depth_eq]; exact OT.nil _ _ _ _, h9⟩)
    have HBW := Lib.hid hbw
    clear hno hb1 hy1 hbw HYZ HY HN HSZ
    go_wp2
    refine bodyPost_ret (v := .tuple #[.agg #[.int .i64 0, .string { data := #[] }, .int .i64 0, .slice none 0 0], .bool false]) (by simp [results, Try.results14, go_sem, y0, y1, y2, y3]) rfl (HF.out _ ?_)
    repeat (refine Below.setCell ?_ (by simp) _)
    exact HBW.out
  · obtain ⟨x, hxu, g1, o1, A1, c1, hps1, hg1, ⟨d0, d1, d2, d3⟩, ht1, hB1⟩ := hps N (by have := HL.out; omega)
    obtain rfl : x = u := by rw [HL.out, List.take_length, hu] at hxu; exact (Option.some.inj hxu).symm
    have hown' : w1.ownsRow W.heap.size 63 1 v (N + 1) ps := by rw [HL.out]; exact hown
    have hlen : ps.length = N + 1 := by have := hown'.1; omega
    obtain ⟨gv, capv, rfl, hgv, hgl⟩ := own_shape hown' (by intro e; rw [e] at hlen; simp at hlen)
    have hck : w1.cell? ⟨gv, N, none⟩ = some (.pointer (some ⟨g1, o1, none⟩)) := by
      rw [hown'.cellAt N (by omega), ← hps1, List.getElem?_eq_getElem (by omega)]
      simp [List.getD, List.getElem?_eq_getElem (show N < ps.length by omega)]
    have k : ∀ {o : Nat} {v : Value}, W.cell? ⟨g1, o, none⟩ = some v → w1.cell? ⟨g1, o, none⟩ = some v := fun {o v} h => (hb1.cell (p := ⟨g1, o, none⟩) hg1).trans h
    have d0' := k d0
    have d1' := k d1
    have d2' := k d2
    have d3' := k d3
    have HC := Lib.hid (icopy_any x _ w1 (ht1.below (Nat.le_refl _) hb1) (HSZ.out x hu))
    have HE : Hid (subT t p = x ∧ subOk t p = true) := Lib.hid ⟨by unfold subT; rw [hu]; rfl, by unfold subOk; rw [hu]; rfl⟩
    have HBW := Lib.hid hbw
    have HY1 := Lib.hid hy1
    have hxs : w.heap.size + 1 < w1.heap.size := (Array.getElem?_eq_some_iff.1 hy1).1
    have HT := Lib.hid (termro.depth_eq x)
    unfold aggT at HC
    obtain ⟨uo, huo⟩ : ∃ q, q = x.op := ⟨_, rfl⟩
    obtain ⟨un, hun⟩ : ∃ q, q = x.name := ⟨_, rfl⟩
    obtain ⟨us, hus⟩ : ∃ q, q = x.sort := ⟨_, rfl⟩
    obtain ⟨ul, hul⟩ : ∃ q, q = x.args.length := ⟨_, rfl⟩
    have HUL := Lib.hid (And.intro hul (And.intro huo (And.intro hun hus)))
    rw [← huo] at d0' HC
    rw [← hun] at d1' HC
    rw [← hus] at d2' HC
    rw [← hul] at d3' HC
    clear hb1 hy1 hbw HYZ HY HN HSZ hxu hps1 hg1 d0 d1 d2 d3 ht1 hB1 hown hown' hlen hps hgv k hu huo hun hus hul y0 y1 y2 y3 r0 r1 r2 r3
    go_wp2_with fail
    refine HC.out.mono ?_
    rintro e w2 ⟨v', S, rfl, hot, hb2⟩
    have hot' := hot
    rw [HT.out] at hot'
    obtain ⟨A7, c7, rfl⟩ := OT.shape hot'
    rw [← HUL.out.1]
    have hy2 := (hb2.block _ hxs).trans HY1.out
    obtain ⟨y0, y1, y2, y3⟩ := four_c hy2
    obtain ⟨r0, r1, r2, r3⟩ := four_f hy2
    have HFN : Hid (∀ u0 u1 u2 u3, ∃ v' S, Ending.returned (.tuple #[.agg #[.int .i64 uo, .string (bstr un), .int .i64 us, .slice A7 ul c7], .bool true]) = .returned (.tuple #[.agg #[.int .i64 (subT t p).op, .string (bstr (subT t p).name), .int .i64 (subT t p).sort, v'], .bool (subOk t p)]) ∧ OT 40 (depth (subT t p)) w.heap.size (st4 w2 (w.heap.size + 1) u0 u1 u2 u3) v' (subT t p).args S ∧ Below w.heap.size w (st4 w2 (w.heap.size + 1) u0 u1 u2 u3)) := Lib.hid (fun u0 u1 u2 u3 => by
      rw [HE.out.1, HE.out.2, HUL.out.2.1, HUL.out.2.2.1, HUL.out.2.2.2]
      refine ⟨_, S, rfl, ?_, st4_below (HBW.out.trans (hb2.mono HBW.out.size)) (by omega) _ _ _ _⟩
      rw [HUL.out.1]
      exact (ot_st4 hot (x := w.heap.size + 1) hxs u0 u1 u2 u3).mono (by omega))
    clear hot hot' hb2 hy2 HC d0' d1' d2' d3' hck
    go_wp2
    refine bodyPost_ret (v := .tuple #[.agg #[.int .i64 uo, .string (bstr un), .int .i64 us, .slice A7 ul c7], .bool true]) (by simp [results, Try.results14, go_sem, y0, y1, y2, y3]) rfl ?_
    exact HFN.out _ _ _ _
set_option maxRecDepth 20000 in
set_option maxHeartbeats 2000000 in
/-- spec.SubtermAt -/
theorem sSub_any {n lo : Nat} (t : TermM) (va : Value) (p : List Int) (vp : Value) (w : World) (ht : HasTs n lo w va t.args) (hB : Bnd t) (hp : Has w vp (ivs p)) (hN : p.length ≤ 1048576) (hs : sizes t.args ≤ 1048576) :
    Calls Try.prog 11 #[aggT t va, vp] w fun e w' => ∃ v', e = .returned (.tuple #[aggT (subT t p) v', .bool (subOk t p)]) ∧ HasTs n w.heap.size w' v' (subT t p).args ∧ Below w.heap.size w w' := by
  obtain ⟨A, c, rfl, _⟩ := HasR.shape ht rfl
  obtain ⟨P, cp, rfl, hp'⟩ := hp.shape (ivs_len p)
  obtain ⟨W, hW⟩ : ∃ W, W = (w.alloc (.cells #[.int .i64 t.op, .string (bstr t.name), .int .i64 t.sort, .slice A t.args.length c] 40)).alloc (.cells #[.int .i64 0, .string { data := #[] }, .int .i64 0, .slice none 0 0] 40) := ⟨_, rfl⟩
  have hb0 : Below w.heap.size w W := by rw [hW]; exact ((Below.refl _ _).alloc (Nat.le_refl _) _).alloc (by simp) _
  have hx0 : W.heap[w.heap.size]? = some (.cells #[.int .i64 t.op, .string (bstr t.name), .int .i64 t.sort, .slice A t.args.length c] 40 (0, 0)) := by rw [hW]; exact (Below.heap_alloc _ _ _ (by simp)).trans (heap_at _ _ _ rfl)
  have hy0 : W.heap[w.heap.size + 1]? = some (.cells #[.int .i64 0, .string { data := #[] }, .int .i64 0, .slice none 0 0] 40 (0, 0)) := by rw [hW]; exact heap_at _ _ _ (by simp)
  have HN := Lib.hid (sAt_any t _ p _ W (ht.below (Nat.le_refl _) hb0) hB (hp.below (Nat.le_refl _) hb0) hN)
  have HY := Lib.hid (And.intro hb0 hy0)
  have HSZ : Hid (∀ u, atM t p = some u → sizes u.args ≤ 1048576) := Lib.hid (fun u hu => by
    have h1 := atM_size p t u hu
    have h2 := termv.size_eq t
    have h3 := termv.size_eq u
    omega)
  obtain ⟨x0, x1, x2, x3⟩ := four_c hx0
  obtain ⟨N, hNN⟩ : ∃ N, N = p.length := ⟨_, rfl⟩
  rw [← hNN] at HN hN ⊢
  unfold aggT at HN ⊢
  have HNO : Hid (atM t p = none → ∀ w9, Below w.heap.size w w9 → ∃ v', Ending.returned (.tuple #[.agg #[.int .i64 0, .string { data := #[] }, .int .i64 0, .slice none 0 0], .bool false]) = .returned (.tuple #[.agg #[.int .i64 (subT t p).op, .string (bstr (subT t p).name), .int .i64 (subT t p).sort, v'], .bool (subOk t p)]) ∧ HasTs n w.heap.size w9 v' (subT t p).args ∧ Below w.heap.size w w9) := Lib.hid (fun hno w9 h9 => by
    have e1 : subT t p = .mk 0 [] 0 [] := by unfold subT; rw [hno]; rfl
    have e2 : subOk t p = false := by unfold subOk; rw [hno]; rfl
    rw [e1, e2]
    exact ⟨.slice none 0 0, rfl, HasR.nil _ _ _ (by unfold maxLen; omega) _, h9⟩)
  obtain ⟨to, hto⟩ : ∃ q, q = t.op := ⟨_, rfl⟩
  obtain ⟨tn, htn⟩ : ∃ q, q = t.name := ⟨_, rfl⟩
  obtain ⟨ts, hts⟩ : ∃ q, q = t.sort := ⟨_, rfl⟩
  obtain ⟨tl, htl⟩ : ∃ q, q = t.args.length := ⟨_, rfl⟩
  rw [← hto] at HN hW x0 ⊢
  rw [← htn] at HN hW x1 ⊢
  rw [← hts] at HN hW x2 ⊢
  rw [← htl] at HN hW x3 ⊢
  clear ht hB hp hp' hNN hb0 hx0 hy0 hto htn hts htl hs
  go_enter Try.func11, Try.ntmps11
  go_wp2_with fail
  rw [← hW]
  clear hW
  refine HN.out.mono ?_
  rintro e w1 ⟨hcase, hb1⟩
  have hy1 := (hb1.block _ (Array.getElem?_eq_some_iff.1 HY.out.2).1).trans HY.out.2
  have hbw := HY.out.1.trans (hb1.mono HY.out.1.size)
  have hxs : w.heap.size + 1 < w1.heap.size := (Array.getElem?_eq_some_iff.1 hy1).1
  have hyA : ∀ ob, (w1.alloc ob).heap[w.heap.size + 1]? = some (.cells #[.int .i64 0, .string { data := #[] }, .int .i64 0, .slice none 0 0] 40 (0, 0)) := fun ob => (Below.heap_alloc _ _ _ hxs).trans hy1
  have hbA : ∀ ob, Below w.heap.size w (w1.alloc ob) := fun ob => hbw.alloc hbw.size ob
  clear x0 x1 x2 x3
  rcases hcase with ⟨hno, rfl⟩ | ⟨u, vu, hu, rfl, hts, hBu⟩
  · have HF := Lib.hid (HNO.out hno)
    have HBW := Lib.hid hbw
    obtain ⟨s0, s1, s2, s3⟩ := four_f hy1
    obtain ⟨q0, q1, q2, q3⟩ := four_c hy1
    have hzA : ∀ ob, (((((w1.setCell ⟨w.heap.size + 1, 0, none⟩ (.int .i64 0)).setCell ⟨w.heap.size + 1, 1, none⟩ (.string { data := #[] })).setCell ⟨w.heap.size + 1, 2, none⟩ (.int .i64 0)).setCell ⟨w.heap.size + 1, 3, none⟩ (.slice none 0 0)).alloc ob).heap[w.heap.size + 1]? = some (.cells #[.int .i64 0, .string { data := #[] }, .int .i64 0, .slice none 0 0] 40 (0, 0)) := fun ob =>
      (Below.heap_alloc _ _ _ (by simpa using hxs)).trans (set_heap (set_heap (set_heap (set_heap hy1 0 _) 1 _) 2 _) 3 _)
    have y0 := fun ob => (four_c (hzA ob)).1
    have y1 := fun ob => (four_c (hzA ob)).2.1
    have y2 := fun ob => (four_c (hzA ob)).2.2.1
    have y3 := fun ob => (four_c (hzA ob)).2.2.2
    clear hno hb1 hy1 hbw HY HN HSZ hyA hbA hzA
    go_wp2
    refine bodyPost_ret (v := .tuple #[.agg #[.int .i64 0, .string { data := #[] }, .int .i64 0, .slice none 0 0], .bool false]) (by simp [results, Try.results11, go_sem, y0, y1, y2, y3]) rfl (HF.out _ ?_)
    exact ((((HBW.out.setCell (by simp) _).setCell (by simp) _).setCell (by simp) _).setCell (by simp) _).alloc (by simp; exact HBW.out.size) _
  · obtain ⟨A1, c1, rfl, _⟩ := HasR.shape hts rfl
    have HE : Hid (subT t p = u ∧ subOk t p = true) := Lib.hid ⟨by unfold subT; rw [hu]; rfl, by unfold subOk; rw [hu]; rfl⟩
    obtain ⟨V, hV⟩ : ∃ V, V = w1.alloc (.cells #[.int .i64 u.op, .string (bstr u.name), .int .i64 u.sort, .slice A1 u.args.length c1] 40) := ⟨_, rfl⟩
    have hbV : Below w1.heap.size w1 V := by rw [hV]; exact (Below.refl _ _).alloc (Nat.le_refl _) _
    have hyV := by have := hyA (.cells #[.int .i64 u.op, .string (bstr u.name), .int .i64 u.sort, .slice A1 u.args.length c1] 40); rw [← hV] at this; exact this
    have hV1 : V.heap[w1.heap.size]? = some (.cells #[.int .i64 u.op, .string (bstr u.name), .int .i64 u.sort, .slice A1 u.args.length c1] 40 (0, 0)) := by rw [hV]; exact heap_at _ _ _ rfl
    have HC := Lib.hid (copyT_any n u _ V lo ((hts.below (Nat.le_refl _) hb1).below (Nat.le_refl _) hbV) hBu (HSZ.out u hu))
    have HBW := Lib.hid (hbw.trans (hbV.mono hbw.size))
    have HYV := Lib.hid hyV
    have hxV : w.heap.size + 1 < V.heap.size := (Array.getElem?_eq_some_iff.1 hyV).1
    unfold CopyP at HC
    obtain ⟨uo, huo⟩ : ∃ q, q = u.op := ⟨_, rfl⟩
    obtain ⟨un, hun⟩ : ∃ q, q = u.name := ⟨_, rfl⟩
    obtain ⟨us, hus⟩ : ∃ q, q = u.sort := ⟨_, rfl⟩
    obtain ⟨ul, hul⟩ : ∃ q, q = u.args.length := ⟨_, rfl⟩
    have HUL := Lib.hid (And.intro hul (And.intro huo (And.intro hun hus)))
    rw [← huo, ← hun, ← hus, ← hul] at hV
    rw [← huo, ← hun, ← hus] at HC
    rw [← hul] at HC
    rw [← huo, ← hun, ← hus, ← hul]
    clear hb1 hy1 hbw HY HN HSZ hyA hbA hts hBu hV1 hbV hyV hu huo hun hus hul
    go_wp2_with fail
    rw [← hV]
    clear hV
    refine HC.out.mono ?_
    rintro e w2 ⟨v', rfl, hh, hb2⟩
    obtain ⟨A7, c7, rfl, _⟩ := HasR.shape hh rfl
    rw [← HUL.out.1]
    have hy2 := (hb2.block _ hxV).trans HYV.out
    obtain ⟨y0, y1, y2, y3⟩ := four_c hy2
    obtain ⟨r0, r1, r2, r3⟩ := four_f hy2
    have HFN : Hid (∀ u0 u1 u2 u3, ∃ v', Ending.returned (.tuple #[.agg #[.int .i64 uo, .string (bstr un), .int .i64 us, .slice A7 ul c7], .bool true]) = .returned (.tuple #[.agg #[.int .i64 (subT t p).op, .string (bstr (subT t p).name), .int .i64 (subT t p).sort, v'], .bool (subOk t p)]) ∧ HasTs n w.heap.size (st4 w2 (w.heap.size + 1) u0 u1 u2 u3) v' (subT t p).args ∧ Below w.heap.size w (st4 w2 (w.heap.size + 1) u0 u1 u2 u3)) := Lib.hid (fun u0 u1 u2 u3 => by
      rw [HE.out.1, HE.out.2, HUL.out.2.1, HUL.out.2.2.1, HUL.out.2.2.2]
      refine ⟨_, rfl, ?_, st4_below (HBW.out.trans (hb2.mono HBW.out.size)) (by omega) _ _ _ _⟩
      rw [HUL.out.1]
      have kk : Kept V.heap.size w2 (st4 w2 (w.heap.size + 1) u0 u1 u2 u3) := (((Kept.set (p := ⟨w.heap.size + 1, 0, none⟩) hxV u0).trans (Kept.set (p := ⟨w.heap.size + 1, 1, none⟩) hxV u1)).trans (Kept.set (p := ⟨w.heap.size + 1, 2, none⟩) hxV u2)).trans (Kept.set (p := ⟨w.heap.size + 1, 3, none⟩) hxV u3)
      exact HasR.mono (RT_steady _) (HasR.kept (RT_steady _) hh kk) (by omega))
    clear hh hb2 hy2 HC
    go_wp2
    refine bodyPost_ret (v := .tuple #[.agg #[.int .i64 uo, .string (bstr un), .int .i64 us, .slice A7 ul c7], .bool true]) (by simp [results, Try.results11, go_sem, y0, y1, y2, y3]) rfl ?_
    exact HFN.out _ _ _ _
end Go.Proofs.Ytiilamngcoegiaa.occn
