/-
  THE PROGRAM'S WALK THROUGH A TREE (walkTerm), for any function that is called at the nodes.
-/
import Derived.Test.YtiilamngcoegiaaTermx
namespace Go.Proofs.Ytiilamngcoegiaa.termz
open Go.ChangeShapes Go.WideShapes Go.ChangeAt Go.RowKit
open mem dec rowl trm trmv terml termb termt

/-- a pending node: its block, its first cell, its depth -/
abbrev Ent := Nat × Nat × Nat
def ptr (e : Ent) : Value := .pointer (some ⟨e.1, e.2.1, none⟩)
def flatE : List Ent → List Value
  | [] => []
  | e :: L => flatE L ++ [ptr e, .int .i64 e.2.2]
theorem flatE_len : ∀ L : List Ent, (flatE L).length = L.length * 2
  | [] => rfl
  | p :: R => by simp [flatE, flatE_len R]; omega
/-- the m nodes of a row, the last one first -/
def kids (g o d : Nat) : Nat → List Ent
  | 0 => []
  | m + 1 => (g, o + m * 4, d) :: kids g o d m
theorem kids_len (g o d : Nat) : ∀ m, (kids g o d m).length = m
  | 0 => rfl
  | m + 1 => by rw [kids, List.length_cons, kids_len g o d m]
/-- the place of a node, as it's handed to the function -/
def placeV (e : Ent) : Value := .agg #[ptr e, .int .i64 e.2.2]
/-- what is asked of the function that is called at the nodes: R n S L w: at most n calls are to come, the blocks of S are the walk's own, the nodes L are pending -/
structure Visits (vf : Nat) (cb : Array Value) (R : Nat → List Nat → List Ent → World → Prop) : Prop where
  keep : ∀ {n : Nat} {S S' : List Nat} {L : List Ent} {w w' : World}, R n S L w → Chg S w w' → (∀ k ∈ S', (k ∈ S ∨ w.heap.size ≤ k) ∧ k < w'.heap.size) → R n S' L w'
  ent : ∀ {n : Nat} {S : List Nat} {e : Ent} {L : List Ent} {w : World}, R n S (e :: L) w → e.1 < w.heap.size ∧ e.1 ∉ S ∧ e.2.2 ≤ 1073741824 ∧ n ≤ 1073741824 ∧ L.length ≤ 1073741824
  visit : ∀ {n : Nat} {S : List Nat} {e : Ent} {L : List Ent} {w : World}, R n S (e :: L) w → ∃ n', n = n' + 1 ∧
    Calls Try.prog vf (#[placeV e] ++ cb) w fun ex w' => ∃ b, ex = .returned (.bool b) ∧ w.heap.size ≤ w'.heap.size ∧ (∀ k ∈ S, k < w.heap.size → w'.heap[k]? = w.heap[k]?) ∧
      ((b = false ∧ R n' S L w') ∨ (b = true ∧ ∃ A m c, w'.cell? ⟨e.1, e.2.1 + 3, none⟩ = some (.slice A m c) ∧ m ≤ 1073741824 ∧ m ≤ c ∧
        ∃ g o, (m ≠ 0 → A = some ⟨g, o, none⟩) ∧ R n' S (kids g o (e.2.2 + 1) m ++ L) w'))
theorem info_place : (Try.prog.info? 90).map (fun i => (i.zero, i.size, i.bytes)) = some (some (.agg #[.pointer none, .int .i64 0]), 2, 16) := by kernel_rfl
theorem flatE_top {R : List Ent} {p : Ent} {k : Nat} (hk : k = R.length) : (flatE (p :: R))[k * 2]? = some (ptr p) ∧ (flatE (p :: R))[k * 2 + 1]? = some (.int .i64 p.2.2) := by
  have h := flatE_len R
  rw [flatE, hk]
  refine ⟨?_, ?_⟩
  · rw [List.getElem?_append_right (by omega), h, Nat.sub_self]; rfl
  · rw [List.getElem?_append_right (by omega), h, Nat.add_sub_cancel_left]; rfl
theorem flatE_pop {R : List Ent} {p : Ent} {k : Nat} (hk : k = R.length) : (flatE (p :: R)).take (k * 2) = flatE R := by
  have h := flatE_len R
  rw [flatE, hk, List.take_append_of_le_length (by omega), List.take_of_length_le (by omega)]
theorem two_at (w : World) (u v : Value) (t : TypeId) (b : Nat) (h : b = w.heap.size) : ∀ (j : Nat) (x : Value), [u, v][j]? = some x → (w.alloc (.cells #[u, v] t)).cell? ((⟨b, 0, none⟩ : Addr).add j) = some x := by
  subst h; exact termx.two_cells w u v t
theorem own_same {w w' : World} {base n g cap : Nat} {e : TypeId} {size : Nat} {xs : List Value} (h : w.ownsRow base e size (.slice (some ⟨g, 0, none⟩) n cap) n xs) (hb : w'.heap[g]? = w.heap[g]?) : w'.ownsRow base e size (.slice (some ⟨g, 0, none⟩) n cap) n xs := by
  refine ⟨h.1, ?_⟩
  rcases h.2 with h2 | ⟨g', cap', cur, hv, hg, hh, r⟩
  · exact .inl h2
  · have e := hv
    simp only [Value.slice.injEq, Option.some.injEq, Addr.mk.injEq, and_true, true_and] at e
    obtain ⟨rfl, rfl⟩ := e
    exact .inr ⟨g, cap, cur, rfl, hg, by rw [hb]; exact hh, r⟩
theorem own_lt {w : World} {base n g cap : Nat} {e : TypeId} {size : Nat} {xs : List Value} (h : w.ownsRow base e size (.slice (some ⟨g, 0, none⟩) n cap) n xs) : base ≤ g ∧ g < w.heap.size ∧ n ≤ cap := by
  rcases h.2 with ⟨hv, _⟩ | ⟨g', cap', cur, hv, hb, hg, hc, _⟩
  · cases hv
  · simp only [Value.slice.injEq, Option.some.injEq, Addr.mk.injEq, and_true, true_and] at hv
    obtain ⟨rfl, rfl⟩ := hv
    exact ⟨hb, (Array.getElem?_eq_some_iff.1 hg).1, hc⟩
theorem keep_far {wr w0 w1 : World} {x gx ox g5 : Nat} {v0 v1 v2 : Value} (h : (w0.cell? ⟨x, 0, none⟩ = some v0 ∧ w0.cell? ⟨x, 1, none⟩ = some v1 ∧ w0.cell? ⟨gx, ox, none⟩ = some v2) ∧ Chg [g5] wr w0) (hx : x < wr.heap.size) (hg : gx < wr.heap.size) (hb : Below w0.heap.size w0 w1) :
    (w1.cell? ⟨x, 0, none⟩ = some v0 ∧ w1.cell? ⟨x, 1, none⟩ = some v1 ∧ w1.cell? ⟨gx, ox, none⟩ = some v2) ∧ Chg [g5] wr w1 := by
  have hs := h.2.size
  have k : ∀ y, w1.cell? ⟨x, y, none⟩ = w0.cell? ⟨x, y, none⟩ := fun y => hb.cell (p := ⟨x, y, none⟩) (by show x < _; omega)
  rw [k, k, hb.cell (p := ⟨gx, ox, none⟩) (by show gx < _; omega)]
  exact ⟨h.1, h.2.trans (Chg.of_below hb)⟩
theorem app_far {wr W w4 : World} {x gx ox g5 : Nat} {v0 v1 v2 : Value} (hgr : W.grownBy w4 (some g5)) (h0 : W.cell? ⟨x, 0, none⟩ = some v0 ∧ W.cell? ⟨x, 1, none⟩ = some v1 ∧ W.cell? ⟨gx, ox, none⟩ = some v2) (hc : Chg [g5] wr W)
    (hne : g5 ≠ x ∧ g5 ≠ gx) (hx : x < wr.heap.size) (hg : gx < wr.heap.size) :
    (w4.cell? ⟨x, 0, none⟩ = some v0 ∧ w4.cell? ⟨x, 1, none⟩ = some v1 ∧ w4.cell? ⟨gx, ox, none⟩ = some v2) ∧ Chg [g5] wr w4 := by
  have hs := hc.size
  have k : ∀ y, w4.cell? ⟨x, y, none⟩ = W.cell? ⟨x, y, none⟩ := fun y => hgr.cell_far ⟨x, y, none⟩ (by show x < _; omega) (by show some x ≠ some g5; intro e; injection e; omega)
  rw [k, k, hgr.cell_far ⟨gx, ox, none⟩ (by show gx < _; omega) (by show some gx ≠ some g5; intro e; injection e; omega)]
  exact ⟨h0, hc.trans ⟨hgr.os, hgr.tape, hgr.output, hgr.size, fun k hk hn => hgr.block k hk (by intro e; injection e; simp at hn; omega)⟩⟩
set_option maxRecDepth 50000 in
set_option maxHeartbeats 8000000 in
theorem walk_any (vf : Nat) (cb : Array Value) (eg : ∀ args w, (callFunc vf args).run Try.prog w = .ok (.enter vf args) w) (R : Nat → List Nat → List Ent → World → Prop) (hV : Visits vf cb R) (n g0 o0 : Nat) (w : World) (h : R n [] [(g0, o0, 1)] w) :
    Calls Try.prog 49 #[.pointer (some ⟨g0, o0, none⟩), .func (.func vf) #[] cb] w fun e w' => e = .returned (.tuple #[]) ∧ ∃ n S, R n S [] w' := by
  have HV := Lib.hid hV
  have HR := Lib.hid h
  obtain ⟨j0, hij, hy0, hy1, hy2⟩ := info_parts info_place
  obtain ⟨O, hmk, hown0⟩ : ∃ O, (∀ W, (Instr.makeSlice 88 (.int .i64 0) (.int .i64 60)).run Try.prog W = .ok (.slice (some ⟨W.heap.size, 0, none⟩) 0 60) (W.alloc O)) ∧ ∀ W : World, (W.alloc O).ownsRow W.heap.size 90 2 (.slice (some ⟨W.heap.size, 0, none⟩) 0 60) 0 [] := by
    refine ⟨.cells (madeCells (Value.agg #[.pointer none, .int .i64 0]).cells ((60 : Int).toNat * j0.size)) 90, fun W => ?_, fun W => ?_⟩
    · exact run_make W _ _ _ _ Try.underlying88 hij hy0 .i64 .i64 0 60 (by omega) (by omega) (by rw [hy2]; omega) (by omega)
    · exact World.ownsRow_made W _ 60 (Nat.le_refl _) (by unfold maxLen; omega) (by rw [size_madeCells, hy1]; rfl)
  have HOW := Lib.hid (hown0 w)
  clear hV h hown0
  go_enter Try.func49, Try.ntmps49
  have HB0 : Hid (Below w.heap.size w (w.alloc O)) := Lib.hid ((Below.refl _ _).alloc (Nat.le_refl _) _)
  have hsz0 : (w.alloc O).heap.size = w.heap.size + 1 := by simp
  go_wp2_with (at_builtin; refine wpList_append_d rfl _ _ _ rfl w.heap.size 90 j0 _ 2 16 Try.underlying88 hij hy0 hy1 hy2 rfl (by omega) w.heap.size 0 60 [] rfl (own_below HOW.out ((Below.refl _ _).alloc (Nat.le_refl _) _)) ⟨w.heap.size + 1, 0, none⟩ 1 1 [.pointer (some ⟨g0, o0, none⟩), .int .i64 1] rfl rfl (two_at _ _ _ _ _ (by simp)) (termx.two_one rfl rfl) (by unfold maxLen; omega) (by omega) (by simp; omega) ?_; intro g' cap' w1 hown1 hgr1 hg1 hlt1 hdr1)
  have hg2 : w.heap.size ≤ g' := by
    rcases hg1 with h | h
    · omega
    · rw [h]; simp; omega
  have HR1 : Hid (R n [g'] [(g0, o0, 1)] w1) := Lib.hid ((HV.out.keep HR.out (Chg.of_below ((HB0.out.alloc (by simp) _).grown hgr1 (by simp; omega) (by intro k hk; cases hk; exact Nat.le_refl _))) (fun k hk => by
    simp at hk; subst hk; exact ⟨.inr hg2, hlt1⟩)))
  have HO1 := Lib.hid hown1
  clear hown1 hgr1 hg1 hdr1 HB0 hsz0 hmk
  go_wp2
  go_loopg [4] n (fun gk v4 wr => ∃ (L : List Ent) (g k cap : Nat), v4 = .slice (some ⟨g, 0, none⟩) k cap ∧ Hid (k = L.length) ∧ Hid (R gk [g] L wr) ∧ Hid (wr.ownsRow w.heap.size 90 2 (.slice (some ⟨g, 0, none⟩) k cap) k (flatE L)))
  case atStart => exact ⟨[(g0, o0, 1)], g', 1, cap', rfl, Lib.hid rfl, HR1, HO1⟩
  case round =>
    obtain ⟨L, g, k, cap, rfl, HKL, HRW, HOWN⟩ := hrel
    cases L with
    | nil =>
      obtain rfl : k = 0 := HKL.out
      have HF : Hid (∃ n S, R n S [] wr) := Lib.hid ⟨_, _, HRW.out⟩
      go_wp2
      go_end0
      exact ⟨rfl, HF.out⟩
    | cons e L =>
      obtain ⟨k', rfl⟩ : ∃ k', k = k' + 1 := ⟨L.length, by have := HKL.out; simpa using this⟩
      have HK2 : Hid (k' = L.length) := Lib.hid (by have := HKL.out; simpa using this)
      obtain ⟨he1, he2, he3, he4, he5⟩ := HV.out.ent HRW.out
      obtain ⟨n', hn', hvis⟩ := HV.out.visit HRW.out
      obtain ⟨hbg, hgw, hkc⟩ := own_lt HOWN.out
      obtain ⟨ft1, ft2⟩ := flatE_top (p := e) HK2.out
      have s1 := (HOWN.out.cellAt (k' * 2) (by omega)).trans ft1
      have s2 := (HOWN.out.cellAt (k' * 2 + 1) (by omega)).trans ft2
      have hk5 : k' ≤ 1073741824 := by have := HK2.out; omega
      have HPO : Hid (wr.ownsRow w.heap.size 90 2 (.slice (some ⟨g, 0, none⟩) k' cap) k' (flatE L)) := Lib.hid (by
        have h := own_take HOWN.out (m := k') (by omega)
        rwa [flatE_pop HK2.out] at h)
      obtain ⟨ge, oe, de⟩ := e
      unfold ptr at s1
      simp only [] at s1 s2
      have HE2 := Lib.hid (And.intro he2 hn')
      simp only [] at he1 he3
      clear ft1 ft2 he2 hn' hvis
      obtain ⟨wo, hwo⟩ : ∃ wo, wo = wr := ⟨wr, rfl⟩
      subst hwo
      go_wp2_with fail
      have hbx : (wo.alloc (.cells #[.pointer (some ⟨ge, oe, none⟩), .int .i64 de] 90)).heap[wo.heap.size]? = some (.cells #[.pointer (some ⟨ge, oe, none⟩), .int .i64 de] 90 (0, 0)) := heap_at _ _ _ rfl
      have hb1 : Below wo.heap.size wo (wo.alloc (.cells #[.pointer (some ⟨ge, oe, none⟩), .int .i64 de] 90)) := (Below.refl _ _).alloc (Nat.le_refl _) _
      have hs1 : (wo.alloc (.cells #[.pointer (some ⟨ge, oe, none⟩), .int .i64 de] 90)).heap.size = wo.heap.size + 1 := by simp
      have HRV : Hid (R gk [g, wo.heap.size] ((ge, oe, de) :: L) (wo.alloc (.cells #[.pointer (some ⟨ge, oe, none⟩), .int .i64 de] 90))) := Lib.hid (HV.out.keep HRW.out (Chg.of_below hb1) (fun k hk => by
        simp at hk
        rcases hk with rfl | rfl
        · exact ⟨.inl (by simp), by omega⟩
        · exact ⟨.inr (Nat.le_refl _), by omega⟩))
      have HPO1 := Lib.hid (own_below HPO.out hb1)
      generalize wo.alloc (.cells #[.pointer (some ⟨ge, oe, none⟩), .int .i64 de] 90) = W1 at hbx hb1 hs1 HRV HPO1 ⊢
      obtain ⟨n', hn', hvis⟩ := HV.out.visit HRV.out
      refine hvis.mono ?_
      rintro ex w2 ⟨b, rfl, hsz2, hsame, hcase⟩
      have hg2 : w2.heap[g]? = W1.heap[g]? := hsame g (by simp) (by omega)
      have hx2 : w2.heap[wo.heap.size]? = some (.cells #[.pointer (some ⟨ge, oe, none⟩), .int .i64 de] 90 (0, 0)) := by rw [hsame wo.heap.size (by simp) (by omega)]; exact hbx
      have b0 := cell_of_row w2 _ 0 _ _ _ hx2
      have b1 := cell_of_row w2 _ 1 _ _ _ hx2
      have HPO2 := Lib.hid (own_same HPO1.out hg2)
      have hszx : wo.heap.size < w2.heap.size := by omega
      have hgw2 : g < w2.heap.size := by omega
      have hge2 : ge < w2.heap.size := by omega
      have HGE : Hid (ge ≠ g ∧ ge ≠ wo.heap.size ∧ gk = n' + 1) := Lib.hid ⟨fun h => HE2.out.1 (by rw [h]; simp), by omega, hn'⟩
      have hbase : w.heap.size ≤ w2.heap.size := by omega
      clear hbx hb1 hs1 HRV HPO1 hsz2 hsame hg2 hx2 HPO HE2 hvis hn' s1 s2
      rcases hcase with ⟨rfl, hRf⟩ | ⟨rfl, A, m, c, hcl, hm30, hmc, g1, o1, hA, hRt⟩
      · have HRF : Hid (R n' [g] L w2) := Lib.hid (HV.out.keep hRf (Chg.refl _ _) (fun k hk => by simp at hk; subst hk; exact ⟨.inl (by simp), hgw2⟩))
        clear hRf
        go_wp2
        go_roundg n'
        case measure => have := HGE.out; omega
        case rel => exact ⟨L, g, k', cap, rfl, HK2, HRF, HPO2⟩
      · have HRT := Lib.hid hRt
        have HA := Lib.hid hA
        clear hRt hA
        go_wp2
        go_loopw [4, 36] (fun v4 v36 wr => ∃ (j g5 k5 cap5 : Nat), v4 = .slice (some ⟨g5, 0, none⟩) k5 cap5 ∧ v36 = .int .i64 j ∧ j ≤ m ∧ k5 = j + k' ∧ Hid (R n' [g5, wo.heap.size] (kids g1 o1 (de + 1) m ++ L) wr) ∧ Hid (wr.ownsRow w.heap.size 90 2 (.slice (some ⟨g5, 0, none⟩) k5 cap5) k5 (flatE (kids g1 o1 (de + 1) j ++ L))) ∧
            wr.cell? ⟨wo.heap.size, 0, none⟩ = some (.pointer (some ⟨ge, oe, none⟩)) ∧ wr.cell? ⟨wo.heap.size, 1, none⟩ = some (.int .i64 de) ∧ wr.cell? ⟨ge, oe + 3, none⟩ = some (.slice A m c) ∧ w2.heap.size ≤ wr.heap.size ∧ Hid (g5 ≠ wo.heap.size ∧ g5 ≠ ge)) (fun _ i _ => m - (intOf i).toNat)
        case atStart => exact ⟨0, g, k', cap, rfl, rfl, Nat.zero_le _, by omega, HRT, HPO2, b0, b1, hcl, Nat.le_refl _, Lib.hid ⟨by omega, fun h => HGE.out.1 h.symm⟩⟩
        case round =>
          clear b0 b1 hcl
          obtain ⟨j, g5, k5, cap5, rfl, rfl, hj, rfl, HRJ, HOJ, b0, b1, hcl, hszj, HNE⟩ := hrel
          obtain ⟨hbg5, hgw5, hkc5⟩ := own_lt HOJ.out
          by_cases hlt : j < m
          · have hAA := HA.out (by omega)
            subst hAA
            have hxr : wo.heap.size < wr.heap.size := by omega
            have hger : ge < wr.heap.size := by omega
            have hbr : w.heap.size ≤ wr.heap.size := by omega
            have hi1 : (0 : Int) ≤ (j : Int) := by omega
            have hi2 : (j : Int) < (m : Int) := by omega
            go_wp2_with fail
            go_region_held3 (fun w' => (w'.cell? ⟨wo.heap.size, 0, none⟩ = some (.pointer (some ⟨ge, oe, none⟩)) ∧ w'.cell? ⟨wo.heap.size, 1, none⟩ = some (.int .i64 de) ∧ w'.cell? ⟨ge, oe + 3, none⟩ = some (.slice (some ⟨g1, o1, none⟩) m c)) ∧ Chg [g5] wr w')
              (first | assumption | (refine ⟨⟨?_, ?_, ?_⟩, Chg.of_below (Below.refl _ _).drew⟩ <;> assumption) | (go_split_ands; exact keep_far ⟨⟨by assumption, by assumption, by assumption⟩, by assumption⟩ hxr hger ((Below.refl _ _).alloc (Nat.le_refl _) _)))
              ((refine step_append_d (by rfl) _ _ _ (by rfl) w.heap.size 90 j0 _ 2 16 Try.underlying88 hij hy0 hy1 hy2 rfl (by omega) g5 (j + k') cap5 (flatE (kids g1 o1 (de + 1) j ++ L)) (by rfl) (own_below HOJ.out ((Below.refl _ _).alloc (Nat.le_refl _) _).drew) ⟨_, 0, none⟩ 1 1 [.pointer (some ⟨g1, o1 + j * 4, none⟩), .int .i64 (IntKind.i64.wrap ((de : Int) + 1))] (by rfl) (by rfl) (fun q x hq => termx.two_cells wr _ _ _ q x hq) (termx.two_one rfl rfl) (by unfold maxLen; omega) (by omega) (by simp; omega) ?_; intro g4 cap4 w4 hown4 hgr4 hg4 hlt4 hdr4; have hS4 := app_far hgr4 (by go_split_ands; exact ⟨by assumption, by assumption, by assumption⟩) (by go_split_ands; assumption) HNE.out hxr hger))
            all_goals
              have hck := hS4.2
              have hz4 := hck.size
              have HO4 : Hid (w4.ownsRow w.heap.size 90 2 (.slice (some ⟨g4, 0, none⟩) (j + k' + 1) cap4) (j + k' + 1) (flatE (kids g1 o1 (de + 1) (j + 1) ++ L))) := Lib.hid (by
                have hwr : IntKind.i64.wrap ((de : Int) + 1) = ((de + 1 : Nat) : Int) := by simp only [IntKind.wrap, IntKind.bits, IntKind.signed]; simp; omega
                rw [hwr] at hown4
                exact hown4)
              have HR4 : Hid (R n' [g4, wo.heap.size] (kids g1 o1 (de + 1) m ++ L) w4) := Lib.hid (HV.out.keep HRJ.out (hck.mono (fun q hq => by simp at hq; subst hq; simp)) (fun q hq => by
                simp at hq
                rcases hq with rfl | rfl
                · refine ⟨?_, hlt4⟩
                  rcases hg4 with h | h
                  · exact .inl (by rw [h]; simp)
                  · exact .inr (by rw [h]; simp)
                · exact ⟨.inl (by simp), by omega⟩))
              have HN4 : Hid (g4 ≠ wo.heap.size ∧ g4 ≠ ge) := Lib.hid (by
                rcases hg4 with h | h
                · rw [h]; exact HNE.out
                · rw [h]; simp; omega)
              obtain ⟨⟨c0, c1, c2⟩, _⟩ := hS4
              clear hown4 hgr4 hg4 hck hdr4
              go_wp2
              go_roundw
              case rel => exact ⟨j + 1, g4, j + k' + 1, cap4, rfl, by go_num, by omega, by omega, HR4, HO4, c0, c1, c2, by omega, HN4⟩
              case measure => simp [intOf]; omega
          · obtain rfl : j = m := by omega
            have HRN : Hid (R n' [g5] (kids g1 o1 (de + 1) j ++ L) wr) := Lib.hid (HV.out.keep HRJ.out (Chg.refl _ _) (fun q hq => by simp at hq; subst hq; exact ⟨.inl (by simp), hgw5⟩))
            have HKN : Hid (j + k' = (kids g1 o1 (de + 1) j ++ L).length) := Lib.hid (by rw [List.length_append, kids_len, ← HK2.out])
            go_wp2
            go_roundg n'
            case measure => have := HGE.out; omega
            case rel => exact ⟨kids g1 o1 (de + 1) j ++ L, g5, j + k', cap5, rfl, HKN, HRN, HOJ⟩
end Go.Proofs.Ytiilamngcoegiaa.termz
