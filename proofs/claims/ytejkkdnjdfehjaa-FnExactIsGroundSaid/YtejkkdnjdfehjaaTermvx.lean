/-
  CONTRACTS OF THE PROGRAM'S VariablesOf AND IsGround.
-/
import Derived.Test.YtejkkdnjdfehjaaTermcf
import Derived.Test.YtejkkdnjdfehjaaTermso
namespace Go.Proofs.Ytejkkdnjdfehjaa.termvx
open Go.ChangeShapes Go.WideShapes Go.ChangeAt Go.RowKit
open mem dec rowl trm trmv terml termb termt termx termz termro termsd termvr termcf termso

theorem flat_ext {V : List TermM} {xs : List Value} (hl : xs.length = V.length * 4) (h : ∀ j, j < V.length → Cells4 xs j (V.getD j default) (.slice none 0 0)) : xs = flatV V := by
  apply List.ext_getElem?
  intro p
  by_cases hp : p < V.length * 4
  · obtain ⟨a, b, c, d⟩ := h (p / 4) (by omega)
    obtain ⟨a', b', c', d'⟩ := flatV_at (l := V) (j := p / 4) (by omega)
    have hpm : p = p / 4 * 4 + p % 4 := by omega
    rw [hpm]
    match p % 4, (show p % 4 < 4 by omega) with
    | 0, _ => exact a.trans a'.symm
    | 1, _ => exact b.trans b'.symm
    | 2, _ => exact c.trans c'.symm
    | 3, _ => exact d.trans d'.symm
  · rw [List.getElem?_eq_none (by omega), List.getElem?_eq_none (by rw [flatV_len]; omega)]
def Flat (x : TermM) : Prop := x.args = [] ∧ Bnd x
/-- what the sort leaves of a row of variables -/
def SortPost (V : List TermM) (k g cap base : Nat) (w : World) (e : Ending) (w' : World) : Prop := e = .returned (.tuple #[]) ∧ ∃ V' : List TermM, V'.Perm V ∧ Srt V' ∧ w'.ownsRow base 51 4 (.slice (some ⟨g, 0, none⟩) k cap) k (flatV V') ∧ Chg [g] w w'
theorem sortV_any (V : List TermM) (k g cap base : Nat) (w : World) (hk : k = V.length) (hk30 : k ≤ 1073741824) (hV : ∀ x ∈ V, Flat x) (ho : w.ownsRow base 51 4 (.slice (some ⟨g, 0, none⟩) k cap) k (flatV V)) :
    Calls Try.prog 61 #[.slice (some ⟨g, 0, none⟩) k cap, .func (.func 62) #[] #[]] w (SortPost V k g cap base w) := by
  have mk : ∀ x ∈ V, ∃ e : Elt 1 (g + 1) w, e.t = x ∧ e.v = .slice none 0 0 := fun x hx =>
    ⟨⟨x, .slice none 0 0, by rw [(hV x hx).1]; exact HasR.nil _ _ _ (by unfold maxLen; omega) _, (hV x hx).2, by rw [(hV x hx).1]; simp [sizes]⟩, rfl, rfl⟩
  obtain ⟨l, hl, hlv⟩ : ∃ l : List (Elt 1 (g + 1) w), l.map (·.t) = V ∧ ∀ e ∈ l, e.v = .slice none 0 0 := by
    clear ho hk
    induction V with
    | nil => exact ⟨[], rfl, fun e he => by simp at he⟩
    | cons x V ih =>
      obtain ⟨l, h1, h2⟩ := ih (fun y hy => hV y (by simp [hy])) (fun y hy => mk y (by simp [hy]))
      obtain ⟨e, h3, h4⟩ := mk x (by simp)
      refine ⟨e :: l, by rw [List.map_cons, h1, h3], fun y hy => ?_⟩
      rcases List.mem_cons.1 hy with rfl | hy
      · exact h4
      · exact h2 y hy
  have hsz : l.toArray.size = k := by rw [List.size_toArray, hk, ← hl, List.length_map]
  have hat : ∀ (d : Array (Elt 1 (g + 1) w)) j (hj : j < d.size), d[j]! = d[j] := fun d j hj => getElem!_pos d j hj
  have hc := sort_any (N := 1) (lo := g + 1) (cap := cap) (base := base) w l.toArray (Nat.lt_succ_self g) (flatV V) (by rw [hsz]; exact ho) (fun j hj => by
    have hjl : j < l.length := by simpa using hj
    have hjv : j < V.length := by rw [← hl, List.length_map]; exact hjl
    rw [hat _ _ hj]
    have h1 := flatV_at hjv
    have e1 : V.getD j default = l.toArray[j].t := by
      rw [getD_at hjv]; simp [← hl]
    have e2 : l.toArray[j].v = .slice none 0 0 := hlv _ (by simp)
    rw [e1] at h1
    rw [e2]; exact h1) (by rw [hsz]; omega)
  rw [hsz] at hc
  refine hc.mono ?_
  rintro e w' ⟨rfl, d', xs', h1, h2, h3, h4, h5, h6⟩
  have hV' : (d'.toList.map (·.t)).length = k := by simp [h1]
  refine ⟨rfl, d'.toList.map (·.t), ?_, ?_, ?_, h6⟩
  · rw [← hl]; exact (h2.map _)
  · refine List.pairwise_iff_getElem.2 (fun i j hi hj hij => ?_)
    have h := h3 i j hij (by omega)
    rw [hat d' i (by omega), hat d' j (by omega)] at h
    simpa using h
  · have hx : xs' = flatV (d'.toList.map (·.t)) := by
      refine flat_ext (by rw [h4.1, hV']) (fun j hj => ?_)
      have hjk : j < k := by omega
      have h := h5 j hjk
      rw [hat d' j (by omega)] at h
      have e2 : d'[j].v = .slice none 0 0 := hlv _ (by
        have := (h2.mem_iff (a := d'[j])).1 (by simp)
        simpa using this)
      rw [e2] at h
      rw [getD_at hj]
      simpa using h
    rw [← hx]; exact h4
theorem own_mono {w : World} {base base' n : Nat} {e : TypeId} {size : Nat} {v : Value} {xs : List Value} (h : w.ownsRow base e size v n xs) (hb : base' ≤ base) : w.ownsRow base' e size v n xs := by
  refine ⟨h.1, ?_⟩
  rcases h.2 with h2 | ⟨g, cap, cur, hv, hg, r⟩
  · exact .inl h2
  · exact .inr ⟨g, cap, cur, hv, Nat.le_trans hb hg, r⟩
/-- the state of the walk: the variables met lie in the cell's row -/
def VJ (B c : Nat) (t0 : TermM) (T : Pend) (F : List Nat) (w : World) : Prop := ∃ (vb k cap : Nat) (V : List TermM), F = [c, vb] ∧ c ≠ vb ∧ k = V.length ∧ k + sizeP T ≤ 1073741824 ∧ (∀ x, (x ∈ V ∨ ∃ p ∈ T, vin x p.1) ↔ vin x t0) ∧ (∀ x ∈ V, Flat x) ∧
  w.cell? ⟨c, 0, none⟩ = some (.slice (some ⟨vb, 0, none⟩) k cap) ∧ w.frozen? ⟨c, 0, none⟩ = false ∧ w.ownsRow B 51 4 (.slice (some ⟨vb, 0, none⟩) k cap) k (flatV V)
theorem vj_state (B c : Nat) (t0 : TermM) : ROState (VJ B c t0) where
  same := by
    rintro T F w w' ⟨vb, k, cap, V, rfl, h1, h2, h3, h4, h5, h6, h7, h8⟩ hs
    exact ⟨vb, k, cap, V, rfl, h1, h2, h3, h4, h5, same_cell h6 (hs c (by simp)), same_frozen h7 (hs c (by simp)), own_same h8 (hs vb (by simp))⟩
  lt := by
    rintro T F w ⟨vb, k, cap, V, rfl, h1, h2, h3, h4, h5, h6, h7, h8⟩ q hq
    simp at hq
    rcases hq with rfl | rfl
    · exact block_lt_of_cell h6
    · exact (own_lt h8).2.1
theorem vin_eta (x t : TermM) : vin x t ↔ (t.op = -1 ∧ x = var t.name t.sort) ∨ (t.op ≠ -1 ∧ ∃ a ∈ t.args, vin x a) := by
  cases t; exact vin_mk _ _ _ _ _
theorem kidsP_vin (x t : TermM) (d : Nat) : (∃ p ∈ kidsP t d, vin x p.1) ↔ ∃ a ∈ t.args, vin x a := by
  unfold kidsP
  simp only [List.mem_reverse, List.mem_map]
  constructor
  · rintro ⟨p, ⟨a, ha, rfl⟩, hv⟩; exact ⟨a, ha, hv⟩
  · rintro ⟨a, ha, hv⟩; exact ⟨_, ⟨a, ha, rfl⟩, hv⟩
theorem var_states (t0 : TermM) (W1 : World) (N lo c B : Nat) (hB : B ≤ W1.heap.size) :
    Visits 58 #[.pointer (some ⟨c, 0, none⟩)] (ROR W1 N lo (VJ B c t0)) :=
  ro_visits (vj_state _ _ _) _ _ (by
    rintro e t d T F w hE hb hF ⟨vb, k, cap, V, rfl, h1, h2, h3, h4, h5, h6, h7, h8⟩
    obtain ⟨a1, a2, a3, t0c, t1, t2, vt, t3, ht, hBt⟩ := hE
    have kg : ∀ y, w.cell? ⟨e.1, y, none⟩ = W1.cell? ⟨e.1, y, none⟩ := fun y => hb.cell (p := ⟨e.1, y, none⟩) a3
    have hsz : sizeP ((t, d) :: T) = 1 + sizes t.args + sizeP T := by rw [← size_eq]; rfl
    have hcF := hF c (by simp)
    have hvF := hF vb (by simp)
    obtain ⟨g, o, dd⟩ := e
    simp only [] at a3 kg
    refine (varVis B c vb k cap g o dd t V w h2 (by omega) h1 (Nat.le_trans hB hb.size) h6 h7 h8 ((kg o).trans t0c) ((kg (o + 1)).trans t1) ((kg (o + 2)).trans t2) (by omega) (by omega)).mono ?_
    rintro ex w' (⟨hop, rfl, hbw⟩ | ⟨hop, rfl, vb', cap', hch, hvb, hcl, hfr, hown⟩)
    · refine ⟨true, [c, vb], rfl, Chg.of_below hbw, fun q hq => .inl hq, ?_⟩
      have hcw : c < w.heap.size := block_lt_of_cell h6
      refine ⟨vb, k, cap, V, rfl, h1, h2, ?_, fun x => ?_, h5, ?_, ?_, own_below h8 hbw⟩
      · rw [if_pos rfl, sizeP_append, sizeP_kids]; omega
      · rw [← h4 x, if_pos rfl]
        simp only [List.mem_append, List.mem_cons, or_and_right, exists_or, exists_eq_left]
        rw [kidsP_vin, vin_eta x t]
        simp only [hop, false_and, ne_eq, not_false_eq_true, true_and, false_or]
      · exact (hbw.cell (p := ⟨c, 0, none⟩) hcw).trans h6
      · exact (hbw.frozen (p := ⟨c, 0, none⟩) hcw).trans h7
    · have hcw : c < w.heap.size := block_lt_of_cell h6
      refine ⟨false, [c, vb'], rfl, hch, fun q hq => ?_, vb', k + 1, cap', V ++ [var t.name t.sort], rfl, ?_, by simp [h2], ?_, fun x => ?_, fun x hx => ?_, hcl, hfr, hown⟩
      · simp at hq
        rcases hq with rfl | rfl
        · exact .inl (by simp)
        · rcases hvb with h | h
          · exact .inl (by simp [h])
          · exact .inr h
      · rcases hvb with h | h
        · rw [h]; exact h1
        · omega
      · simp only [Bool.false_eq_true, if_false]; omega
      · rw [← h4 x]
        simp only [Bool.false_eq_true, if_false, List.mem_append, List.mem_cons, List.not_mem_nil, or_false, or_and_right, exists_or, exists_eq_left]
        rw [vin_eta x t]
        simp only [hop, true_and, ne_eq, not_true_eq_false, false_and, or_false, or_assoc]
      · rcases List.mem_append.1 hx with hx | hx
        · exact h5 x hx
        · rw [List.mem_singleton] at hx
          subst hx
          exact ⟨rfl, hBt.1, by show I64 (-1); unfold I64; omega, hBt.2.2⟩)
/-- a row of the variables of t, in a block of its own -/
def VarsPost (t : TermM) (w : World) (e : Ending) (w' : World) : Prop := ∃ g cap m, m = (varsT t).length ∧ e = .returned (.slice (some ⟨g, 0, none⟩) m cap) ∧ w'.ownsRow w.heap.size 51 4 (.slice (some ⟨g, 0, none⟩) m cap) m (flatV (varsT t)) ∧ Below w.heap.size w w'
/-- what the walk leaves -/
def WalkPost (t : TermM) (w0 : World) (c : Nat) (e : Ending) (w' : World) : Prop := e = .returned (.tuple #[]) ∧ ∃ (vb k cap : Nat) (V : List TermM), c ≠ vb ∧ k = V.length ∧ k ≤ 1073741824 ∧ (∀ x, x ∈ V ↔ vin x t) ∧ (∀ x ∈ V, Flat x) ∧
  w'.cell? ⟨c, 0, none⟩ = some (.slice (some ⟨vb, 0, none⟩) k cap) ∧ w'.ownsRow w0.heap.size 51 4 (.slice (some ⟨vb, 0, none⟩) k cap) k (flatV V) ∧ Below w0.heap.size w0 w'
set_option maxRecDepth 20000 in
/-- impl.VariablesOf -/
theorem varsOf_any {n : Nat} (t : TermM) (v : Value) (w : World) {lo : Nat} (h : HasTs n lo w v t.args) (hB : Bnd t) (hsz : sizes t.args ≤ 1048576) :
    Calls Try.prog 39 #[aggT t v] w (VarsPost t w) := by
  obtain ⟨A, c, rfl, _⟩ := HasR.shape h rfl
  have HH := Lib.hid h
  have HBN := Lib.hid hB
  have hst := size_eq t
  have hdt := depth_le t
  have eg : ∀ args w, (callFunc 58 args).run Try.prog w = .ok (.enter 58 args) w := Go.Proofs.enters_of Try.func58 (by kernel_rfl) rfl
  have HC : Hid (∀ W W1, Below W1.heap.size W1 W → W1.heap.size = w.heap.size + 1 → Below w.heap.size w W1 → W1.cell? ⟨w.heap.size, 0, none⟩ = some (.int .i64 t.op) → W1.cell? ⟨w.heap.size, 1, none⟩ = some (.string (bstr t.name)) → W1.cell? ⟨w.heap.size, 2, none⟩ = some (.int .i64 t.sort) → W1.cell? ⟨w.heap.size, 3, none⟩ = some (.slice A t.args.length c) →
      W.cell? ⟨w.heap.size + 1 + 1, 0, none⟩ = some (.slice (some ⟨w.heap.size + 1, 0, none⟩) 0 0) → W.frozen? ⟨w.heap.size + 1 + 1, 0, none⟩ = false → W.ownsRow w.heap.size 51 4 (.slice (some ⟨w.heap.size + 1, 0, none⟩) 0 0) 0 [] →
      Calls Try.prog 57 #[.pointer (some ⟨w.heap.size, 0, none⟩), .func (.func 58) #[] #[.pointer (some ⟨w.heap.size + 1 + 1, 0, none⟩)]] W (WalkPost t w (w.heap.size + 1 + 1))) := Lib.hid (by
    intro W W1 hW1 hs1 hw1 c0 c1 c2 c3 hz hf ho
    refine (walk_any _ _ eg _ (var_states t W1 n lo (w.heap.size + 1 + 1) w.heap.size (by omega)) (size t) w.heap.size 0 W ⟨[(t, 1)], [w.heap.size + 1 + 1, w.heap.size + 1], ⟨root_ok HH.out hw1 (by omega) HBN.out (by omega) c0 c1 c2 c3, trivial⟩, by simp [sizeP], by omega, fun k hk => by simp at hk, hW1, ⟨w.heap.size + 1, 0, 0, [], rfl, by omega, rfl, by simp only [sizeP]; omega, fun x => by simp, fun x hx => by simp at hx, hz, hf, ho⟩, fun k hk => ?_⟩).mono ?_
    · simp at hk
      rcases hk with rfl | rfl
      · exact ⟨by omega, by simp⟩
      · exact ⟨by omega, by simp⟩
    · rintro e w' ⟨rfl, n', S, T, F, hA, _, _, _, hb, ⟨vb, k, cap, V, rfl, h1, h2, h3, h4, h5, h6, h7, h8⟩, _⟩
      cases T with
      | nil => exact ⟨rfl, vb, k, cap, V, h1, h2, by simp only [sizeP] at h3; omega, fun x => by rw [← h4 x]; simp, h5, h6, h8, hw1.trans (hb.mono (by omega))⟩
      | cons p T => exact hA.elim)
  have HSO : Hid (∀ (V V' : List TermM) (k : Nat), k = V.length → V'.Perm V → Srt V' → (∀ x, x ∈ V ↔ vin x t) → dedN V' k = varsT t) := Lib.hid (by
    intro V V' k hk hp hs hm
    have hl : k = V'.length := by rw [hk, hp.length_eq]
    refine vars_unique (dedN_asc V' hs k (by omega)).1 (fun x => ?_)
    rw [dedN_mem V' k (by omega), ← hm x, ← hp.mem_iff, List.mem_iff_getElem]
    constructor
    · rintro ⟨j, hj, rfl⟩; exact ⟨j, by omega, (getD_at (by omega)).symm⟩
    · rintro ⟨j, hj, rfl⟩; exact ⟨j, by omega, (getD_at hj).symm⟩)
  unfold aggT
  obtain ⟨q, hq⟩ : ∃ q, q = t.args.length := ⟨_, rfl⟩
  rw [← hq] at HC
  rw [← hq]
  obtain ⟨to, hto⟩ : ∃ q, q = t.op := ⟨_, rfl⟩
  obtain ⟨tn, htn⟩ : ∃ q, q = t.name := ⟨_, rfl⟩
  obtain ⟨ts, hts⟩ : ∃ q, q = t.sort := ⟨_, rfl⟩
  rw [← hto, ← htn, ← hts] at HC ⊢
  clear h hB hsz hst hdt hq hto htn hts
  go_enter Try.func39, Try.ntmps39
  go_wp2_with fail
  refine (HC.out _ (w.alloc (.cells #[.int .i64 to, .string (bstr tn), .int .i64 ts, .slice A q c] 51)) ?_ (by simp) ((Below.refl _ _).alloc (Nat.le_refl _) _) (by simp) (by simp) (by simp) (by simp) ?_ ?_ ?_).mono ?_
  · repeat (first | exact Below.refl _ _ | refine Below.alloc ?_ (by first | (simp; done) | (simp; omega)) _)
  · exact cell_of_row _ _ 0 _ _ _ (heap_at _ _ _ (by simp))
  · exact frozen_of_row _ _ 0 _ _ (heap_at _ _ _ (by simp))
  · have h := World.ownsRow_lit (e := 51) (size := 4) (w.alloc (.cells #[.int .i64 to, .string (bstr tn), .int .i64 ts, .slice A q c] 51)) #[] 0 (Nat.le_refl _) (by unfold maxLen; omega) rfl
    have h2 := own_below (by simpa using h) ((Below.refl _ _).alloc (Nat.le_refl _) (.cells #[.slice (some ⟨w.heap.size + 1, 0, none⟩) 0 0] 49))
    exact own_mono h2 (by omega)
  rintro e w1 ⟨rfl, vb, k, cap, V, hne, hk, hk30, hm, hF, hc1, ho1, hb1⟩
  have HK := Lib.hid hk
  have HM := Lib.hid hm
  have HF := Lib.hid hF
  have HO1 := Lib.hid ho1
  clear hk hm hF ho1 HC
  go_wp2_with fail
  refine (sortV_any V k vb cap w.heap.size w1 HK.out hk30 HF.out HO1.out).mono ?_
  rintro e w2 ⟨rfl, V', hp, hs, ho2, hch⟩
  have hc2 : w2.cell? ⟨w.heap.size + 1 + 1, 0, none⟩ = some (.slice (some ⟨vb, 0, none⟩) k cap) := by
    rw [← hc1]
    exact World.cell?_of_block (a := ⟨w.heap.size + 1 + 1, 0, none⟩) (hch.block _ (block_lt_of_cell hc1) (by simp; exact hne))
  have HS : Hid (dedN V' k = varsT t) := Lib.hid (HSO.out V V' k HK.out hp hs HM.out)
  have HL : Hid (k = V'.length) := Lib.hid (by rw [HK.out, hp.length_eq])
  have HF2 : Hid (∀ x ∈ V', x.args = []) := Lib.hid (fun x hx => (HF.out x (hp.mem_iff.1 hx)).1)
  have HO2 := Lib.hid ho2
  have hvb := (own_lt HO1.out).1
  have HB2 : Hid (Below w.heap.size w w2) := Lib.hid (hb1.trans (hch.below hb1.size (fun q hq => by simp at hq; omega)))
  clear hp hs ho2 hch hc1 hb1 HSO
  go_wp2_with fail
  refine (compact_any V' k vb cap w.heap.size w2 HL.out hk30 HF2.out HO2.out).mono ?_
  rintro e w3 ⟨m, hm, rfl, ho3, hch3⟩
  have HR : Hid (VarsPost t w (.returned (.slice (some ⟨vb, 0, none⟩) m cap)) w3) := Lib.hid (by
    rw [HS.out] at hm ho3
    exact ⟨vb, cap, m, hm, rfl, ho3, HB2.out.trans (hch3.below HB2.out.size (fun q hq => by simp at hq; omega))⟩)
  clear hm ho3 hch3
  go_wp2
  go_ret
  exact HR.out
set_option maxRecDepth 20000 in
/-- impl.IsGround -/
theorem isGround_any {n : Nat} (t : TermM) (v : Value) (w : World) {lo : Nat} (h : HasTs n lo w v t.args) (hB : Bnd t) (hsz : sizes t.args ≤ 1048576) (r : Bool) (hr : decide (varsT t = []) = r) :
    Calls Try.prog 19 #[aggT t v] w fun e w' => e = .returned (.bool r) ∧ Below w.heap.size w w' := by
  obtain ⟨A, c, rfl, _⟩ := HasR.shape h rfl
  have HC := Lib.hid (fun W (hW : Below w.heap.size w W) => varsOf_any t _ W (h.below (Nat.le_refl _) hW) hB hsz)
  have HR : Hid (∀ m : Nat, m = (varsT t).length → r = ((m : Int) == 0)) := Lib.hid (fun m hm => by
    rw [← hr, hm, Bool.eq_iff_iff]
    simp)
  unfold aggT at HC ⊢
  obtain ⟨q, hq⟩ : ∃ q, q = t.args.length := ⟨_, rfl⟩
  rw [← hq] at HC
  rw [← hq]
  obtain ⟨to, hto⟩ : ∃ q, q = t.op := ⟨_, rfl⟩
  obtain ⟨tn, htn⟩ : ∃ q, q = t.name := ⟨_, rfl⟩
  obtain ⟨ts, hts⟩ : ∃ q, q = t.sort := ⟨_, rfl⟩
  rw [← hto, ← htn, ← hts] at HC ⊢
  clear h hB hsz hr hq hto htn hts
  go_enter Try.func19, Try.ntmps19
  go_wp2_with fail
  have hb0 : Below w.heap.size w (w.alloc (.cells #[.int .i64 to, .string (bstr tn), .int .i64 ts, .slice A q c] 51)) := (Below.refl _ _).alloc (Nat.le_refl _) _
  refine (HC.out _ hb0).mono ?_
  rintro e w1 ⟨g, cap, m, hm, rfl, _, hb1⟩
  have HE : Hid (r = ((m : Int) == 0)) := Lib.hid (HR.out m hm)
  have hb2 := hb0.trans (hb1.mono hb0.size)
  clear hm hb1 hb0
  go_wp2
  go_ret
  exact ⟨ret_bool HE.out.symm, hb2⟩
end Go.Proofs.Ytejkkdnjdfehjaa.termvx
