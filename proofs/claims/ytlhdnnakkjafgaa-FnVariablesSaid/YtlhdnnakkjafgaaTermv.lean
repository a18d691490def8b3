/-
  CONTRACTS OF THE MODEL'S FUNCTIONS ON TERMS: SizeOfTerm, DepthOfTerm, CompareTerms, l5Same, OccursIn.
-/
import Derived.Test.YtlhdnnakkjafgaaTermu
import Derived.Test.YtlhdnnakkjafgaaTermb
import Derived.BigQuiet
namespace Go.Proofs.Ytlhdnnakkjafgaa.termv
open Go.ChangeShapes Go.WideShapes Go.ChangeAt Go.RowKit
open mem dec rowl trm trmv terml termb termt termu

theorem size_eq (t : TermM) : size t = 1 + sizes t.args := by cases t; exact size_mk _ _ _ _
theorem depth_eq (t : TermM) : depth t = depths t.args + 1 := by cases t; exact depth_mk _ _ _ _
theorem depths_cons (a : TermM) (l : List TermM) : depths (a :: l) = max (depth a) (depths l) := rfl
/-- spec.SizeOfTerm, at arguments of at most this depth -/
def SizeT (n : Nat) : Prop := ∀ (op : Int) (l : List UInt8) (s : Int) (L : List TermM) (v : Value) (w : World) (lo : Nat), HasTs n lo w v L → sizes L ≤ 1048576 →
  Calls Try.prog 25 #[.agg #[.int .i64 op, .string (bstr l), .int .i64 s, v]] w fun e w' => e = .returned (.int .i64 ((1 + sizes L : Nat) : Int)) ∧ Below w.heap.size w w'
theorem sizeT_step {n : Nat} (hS : ∀ k, n = k + 1 → SizeT k) : SizeT n := by
  intro op l s L v w lo h hsz
  obtain ⟨N, hN⟩ : ∃ N, N = L.length := ⟨_, rfl⟩
  obtain ⟨A, c, rfl, h⟩ := HasR.shape h hN.symm
  have hNl : N ≤ 1048576 := by have := sizes_len L; omega
  have HN := Lib.hid hN
  have HH := Lib.hid h
  have HS := Lib.hid hS
  have HSZ := Lib.hid hsz
  clear h hN hS hsz
  go_enter Try.func25, Try.ntmps25
  go_wp2
  generalize hW : w.alloc (.cells #[.int .i64 op, .string (bstr l), .int .i64 s, .slice A N c] 26) = W
  have hb0 : Below w.heap.size w W := by rw [← hW]; exact (Below.refl _ _).alloc (Nat.le_refl _) _
  have hlt0 : w.heap.size < W.heap.size := by rw [← hW]; simp
  have hbox : W.cell? ⟨w.heap.size, 3, none⟩ = some (.slice A N c) := by rw [← hW]; simp
  clear hW
  go_loopw [3, 4] (fun v i wr => ∃ (k : Nat), k ≤ N ∧ i = .int .i64 k ∧ v = .int .i64 ((1 + sizes (L.take k) : Nat) : Int) ∧ Below W.heap.size W wr) (fun _ i _ => N - (intOf i).toNat)
  case atStart => exact ⟨0, Nat.zero_le _, rfl, by simp [sizes], Below.refl _ _⟩
  case round =>
    obtain ⟨k, hk, rfl, rfl, hbel⟩ := hrel
    have hbx : wr.cell? ⟨w.heap.size, 3, none⟩ = some (.slice A N c) := (hbel.cell (p := ⟨w.heap.size, 3, none⟩) hlt0).trans hbox
    by_cases hlt : k < N
    · have hlt2 : k < L.length := by have := HN.out; omega
      have hbw : Below w.heap.size w wr := hb0.trans (hbel.mono (Nat.le_of_lt hlt0))
      obtain ⟨k', g, o, A2, c2, hnk, rfl, _, hg, hc0, hc1, hc2, hc3, hh, _⟩ := term_at HH.out hlt
      rw [← hbw.cell (p := ⟨g, o + k * 4, none⟩) hg] at hc0
      rw [← hbw.cell (p := ⟨g, o + k * 4 + 1, none⟩) hg] at hc1
      rw [← hbw.cell (p := ⟨g, o + k * 4 + 2, none⟩) hg] at hc2
      rw [← hbw.cell (p := ⟨g, o + k * 4 + 3, none⟩) hg] at hc3
      have hh2 := hh.below (Nat.le_refl _) hbw
      have hst : sizes (L.take (k + 1)) = sizes (L.take k) + size (L.getD k default) := sizes_take hlt2
      have hsl : sizes (L.take (k + 1)) ≤ 1048576 := by have := offs_le hlt2 (k := 0); have := offs_succ L 0 k hlt2; simp only [offs] at this; have := HSZ.out; have h0 := offs_le hlt2 (k := 0); simp only [offs] at h0; omega
      obtain ⟨t, ht⟩ : ∃ t, t = L.getD k default := ⟨_, rfl⟩
      rw [← ht] at hc0 hc1 hc2 hc3 hh2 hst
      have hsz2 : size t = 1 + sizes t.args := size_eq t
      have HT := Lib.hid (HS.out k' hnk t.op t.name t.sort t.args _ wr lo hh2 (by omega))
      rw [← hsz2] at HT
      obtain ⟨q, hq⟩ : ∃ q, q = t.args.length := ⟨_, rfl⟩
      rw [← hq] at hc3 HT
      obtain ⟨z, hz⟩ : ∃ z, z = size t := ⟨_, rfl⟩
      rw [← hz] at HT hst
      obtain ⟨y, hy⟩ : ∃ y, y = sizes (L.take k) := ⟨_, rfl⟩
      rw [← hy] at hst ⊢
      have hzy : y + z ≤ 1048576 := by omega
      have HST := Lib.hid hst
      clear hh hh2 hq ht hz hy hsz2 hsl hst
      go_wp2_with fail
      refine HT.out.mono ?_
      rintro e w2 ⟨rfl, hb2⟩
      have hbw2 := hbel.trans (hb2.mono hbel.size)
      clear hb2
      go_wp2
      go_roundw
      case rel => exact ⟨k + 1, by omega, by go_num, by rw [HST.out]; go_num, hbw2⟩
      case measure => simp [intOf]; omega
    · obtain rfl : k = N := by omega
      have HE : Hid (sizes (L.take k) = sizes L) := Lib.hid (by rw [HN.out, List.take_length])
      have hb3 : Below w.heap.size w wr := hb0.trans (hbel.mono (Nat.le_of_lt hlt0))
      go_wp2
      go_ret
      exact ⟨ret_int (by rw [HE.out]), hb3⟩
theorem sizeOf_all : ∀ n, SizeT n
  | 0 => sizeT_step (fun k h => by omega)
  | n + 1 => sizeT_step (fun k h => Nat.succ.inj h ▸ sizeOf_all n)
/-- spec.l1Max -/
theorem max_any (a b : Nat) (w : World) : Calls Try.prog 58 #[.int .i64 a, .int .i64 b] w fun e w' => e = .returned (.int .i64 ((max a b : Nat) : Int)) ∧ w = w' := by
  by_cases h : b < a
  · have e : max a b = a := by omega
    rw [e]
    go_enter Try.func58, Try.ntmps58
    go_wp2
    go_ret
    exact ⟨rfl, rfl⟩
  · have e : max a b = b := by omega
    rw [e]
    go_enter Try.func58, Try.ntmps58
    go_wp2
    go_ret
    exact ⟨rfl, rfl⟩
theorem depths_take {L : List TermM} {k : Nat} (h : k < L.length) : depths (L.take (k + 1)) = max (depths (L.take k)) (depth (L.getD k default)) := by
  rw [List.take_succ_eq_append_getElem h, getD_at h]
  generalize L[k] = t
  induction L.take k with
  | nil => simp [depths]
  | cons a l ih => rw [List.cons_append, depths_cons, depths_cons, ih]; omega
theorem depth_le_size : ∀ t, depth t ≤ size t := by
  refine TermM.ind (fun o n s l ih => ?_)
  rw [depth_mk, size_mk]
  have : depths l ≤ sizes l := by
    induction l with
    | nil => simp [depths]
    | cons a l ih2 =>
      have h1 := ih a (by simp)
      have h2 := ih2 (fun t ht => ih t (by simp [ht]))
      rw [depths_cons]
      simp only [sizes, List.map_cons, List.sum_cons] at h2 ⊢
      omega
  omega
theorem depths_le (L : List TermM) : depths L ≤ sizes L := by
  induction L with
  | nil => simp [depths]
  | cons a l ih2 =>
    have h1 := depth_le_size a
    rw [depths_cons]
    simp only [sizes, List.map_cons, List.sum_cons] at ih2 ⊢
    omega
/-- spec.DepthOfTerm, at arguments of at most this depth -/
def DepthT (n : Nat) : Prop := ∀ (op : Int) (l : List UInt8) (s : Int) (L : List TermM) (v : Value) (w : World) (lo : Nat), HasTs n lo w v L → sizes L ≤ 1048576 →
  Calls Try.prog 29 #[.agg #[.int .i64 op, .string (bstr l), .int .i64 s, v]] w fun e w' => e = .returned (.int .i64 ((depths L + 1 : Nat) : Int)) ∧ Below w.heap.size w w'
theorem depthT_step {n : Nat} (hS : ∀ k, n = k + 1 → DepthT k) : DepthT n := by
  intro op l s L v w lo h hsz
  obtain ⟨N, hN⟩ : ∃ N, N = L.length := ⟨_, rfl⟩
  obtain ⟨A, c, rfl, h⟩ := HasR.shape h hN.symm
  have hNl : N ≤ 1048576 := by have := sizes_len L; omega
  have HN := Lib.hid hN
  have HH := Lib.hid h
  have HS := Lib.hid hS
  have HSZ := Lib.hid hsz
  clear h hN hS hsz
  go_enter Try.func29, Try.ntmps29
  go_wp2
  generalize hW : w.alloc (.cells #[.int .i64 op, .string (bstr l), .int .i64 s, .slice A N c] 26) = W
  have hb0 : Below w.heap.size w W := by rw [← hW]; exact (Below.refl _ _).alloc (Nat.le_refl _) _
  have hlt0 : w.heap.size < W.heap.size := by rw [← hW]; simp
  have hbox : W.cell? ⟨w.heap.size, 3, none⟩ = some (.slice A N c) := by rw [← hW]; simp
  clear hW
  go_loopw [3, 4] (fun v i wr => ∃ (k : Nat), k ≤ N ∧ i = .int .i64 k ∧ v = .int .i64 ((depths (L.take k) : Nat) : Int) ∧ Below W.heap.size W wr) (fun _ i _ => N - (intOf i).toNat)
  case atStart => exact ⟨0, Nat.zero_le _, rfl, by simp [depths], Below.refl _ _⟩
  case round =>
    obtain ⟨k, hk, rfl, rfl, hbel⟩ := hrel
    have hbx : wr.cell? ⟨w.heap.size, 3, none⟩ = some (.slice A N c) := (hbel.cell (p := ⟨w.heap.size, 3, none⟩) hlt0).trans hbox
    have hdl : depths (L.take k) ≤ 1048576 := by
      have h1 := depths_le (L.take k)
      have h2 : sizes (L.take k) ≤ sizes L := by
        have e : sizes L = sizes (L.take k) + sizes (L.drop k) := by
          conv => lhs; rw [← List.take_append_drop k L]
          simp only [sizes, List.map_append, List.sum_append]
        omega
      have := HSZ.out
      omega
    by_cases hlt : k < N
    · have hlt2 : k < L.length := by have := HN.out; omega
      have hbw : Below w.heap.size w wr := hb0.trans (hbel.mono (Nat.le_of_lt hlt0))
      obtain ⟨k', g, o, A2, c2, hnk, rfl, _, hg, hc0, hc1, hc2, hc3, hh, _⟩ := term_at HH.out hlt
      rw [← hbw.cell (p := ⟨g, o + k * 4, none⟩) hg] at hc0
      rw [← hbw.cell (p := ⟨g, o + k * 4 + 1, none⟩) hg] at hc1
      rw [← hbw.cell (p := ⟨g, o + k * 4 + 2, none⟩) hg] at hc2
      rw [← hbw.cell (p := ⟨g, o + k * 4 + 3, none⟩) hg] at hc3
      have hh2 := hh.below (Nat.le_refl _) hbw
      have hst : depths (L.take (k + 1)) = max (depths (L.take k)) (depth (L.getD k default)) := depths_take hlt2
      have hsl : size (L.getD k default) ≤ 1048576 := by have := size_le_sizes hlt2; have := HSZ.out; omega
      obtain ⟨t, ht⟩ : ∃ t, t = L.getD k default := ⟨_, rfl⟩
      rw [← ht] at hc0 hc1 hc2 hc3 hh2 hst hsl
      have hsz2 : size t = 1 + sizes t.args := size_eq t
      have hsz3 : depth t = depths t.args + 1 := depth_eq t
      have hdz := depth_le_size t
      have HT := Lib.hid (HS.out k' hnk t.op t.name t.sort t.args _ wr lo hh2 (by omega))
      rw [← hsz3] at HT
      obtain ⟨q, hq⟩ : ∃ q, q = t.args.length := ⟨_, rfl⟩
      rw [← hq] at hc3 HT
      obtain ⟨z, hz⟩ : ∃ z, z = depth t := ⟨_, rfl⟩
      rw [← hz] at HT hst hdz
      obtain ⟨y, hy⟩ : ∃ y, y = depths (L.take k) := ⟨_, rfl⟩
      rw [← hy] at hst hdl ⊢
      have HST := Lib.hid hst
      have hz2 : z ≤ 1048576 := by omega
      clear hh hh2 hq ht hz hy hsz2 hsz3 hsl hst hdz
      go_wp2_with fail
      refine HT.out.mono ?_
      rintro e w2 ⟨rfl, hb2⟩
      have hbw2 := hbel.trans (hb2.mono hbel.size)
      clear hb2
      go_wp2_with fail
      refine (max_any y z _).mono ?_
      rintro e w3 ⟨rfl, rfl⟩
      go_wp2
      go_roundw
      case rel => exact ⟨k + 1, by omega, by go_num, by rw [HST.out], hbw2⟩
      case measure => simp [intOf]; omega
    · obtain rfl : k = N := by omega
      have HE : Hid (depths (L.take k) = depths L) := Lib.hid (by rw [HN.out, List.take_length])
      have hb3 : Below w.heap.size w wr := hb0.trans (hbel.mono (Nat.le_of_lt hlt0))
      obtain ⟨y, hy⟩ : ∃ y, y = depths (L.take k) := ⟨_, rfl⟩
      rw [← hy] at hdl HE ⊢
      clear hy
      go_wp2
      go_ret
      exact ⟨ret_int (by rw [← HE.out]; omega), hb3⟩
theorem depthOf_all : ∀ n, DepthT n
  | 0 => depthT_step (fun k h => by omega)
  | n + 1 => depthT_step (fun k h => Nat.succ.inj h ▸ depthOf_all n)
/-- spec.CompareTerms, at arguments of at most this depth -/
def CmpT (n : Nat) : Prop := ∀ (t u : TermM) (va vb : Value) (w : World) (lo lo' : Nat), HasTs n lo w va t.args → HasTs n lo' w vb u.args →
  Calls Try.prog 21 #[.agg #[.int .i64 t.op, .string (bstr t.name), .int .i64 t.sort, va], .agg #[.int .i64 u.op, .string (bstr u.name), .int .i64 u.sort, vb]] w fun e w' => e = .returned (.int .i64 (cmp t u)) ∧ Below w.heap.size w w'
set_option maxRecDepth 50000 in
set_option maxHeartbeats 8000000 in
theorem cmpT_step {n : Nat} (hS : ∀ k, n = k + 1 → CmpT k) : CmpT n := by
  intro t u va vb w lo lo' ha hb
  obtain ⟨N, hN⟩ : ∃ N, N = t.args.length := ⟨_, rfl⟩
  obtain ⟨M, hM⟩ : ∃ M, M = u.args.length := ⟨_, rfl⟩
  obtain ⟨A, ca, rfl, ha⟩ := HasR.shape ha hN.symm
  obtain ⟨B, cb, rfl, hb⟩ := HasR.shape hb hM.symm
  have hNm := ha.len.2.1
  have hMm := hb.len.2.1
  have hlt := binOp_string_lss 9 (bstr t.name) (bstr u.name)
  rw [less_bstr] at hlt
  have hne := bstr_eq (a := t.name) (b := u.name)
  have HC : Hid (cmp t u = if cmpI t.op u.op ≠ 0 then cmpI t.op u.op else if cmpB t.name u.name ≠ 0 then cmpB t.name u.name else if cmpI t.sort u.sort ≠ 0 then cmpI t.sort u.sort else cmpL t.args u.args) := Lib.hid (by cases t; exact cmp_mk _ _ _ _ u)
  have HA := Lib.hid ha
  have HB := Lib.hid hb
  have HS := Lib.hid hS
  obtain ⟨c, hc⟩ : ∃ c, c = cmp t u := ⟨_, rfl⟩
  obtain ⟨L, hL⟩ : ∃ L, L = t.args := ⟨_, rfl⟩
  obtain ⟨K, hK⟩ : ∃ L, L = u.args := ⟨_, rfl⟩
  rw [← hc] at HC ⊢
  obtain ⟨to, hto⟩ : ∃ q, q = t.op := ⟨_, rfl⟩
  obtain ⟨tn, htn⟩ : ∃ q, q = t.name := ⟨_, rfl⟩
  obtain ⟨ts, hts⟩ : ∃ q, q = t.sort := ⟨_, rfl⟩
  obtain ⟨uo, huo⟩ : ∃ q, q = u.op := ⟨_, rfl⟩
  obtain ⟨un, hun⟩ : ∃ q, q = u.name := ⟨_, rfl⟩
  obtain ⟨us, hus⟩ : ∃ q, q = u.sort := ⟨_, rfl⟩
  rw [← hL] at HA hN HC
  rw [← hK] at HB hM HC
  rw [← hto, ← huo, ← htn, ← hun, ← hts, ← hus] at HC
  rw [← htn, ← hun] at hlt hne
  rw [← hto, ← huo, ← htn, ← hun, ← hts, ← hus]
  have HN := Lib.hid hN
  have HM := Lib.hid hM
  clear ha hb hS hc hL hK hto htn hts huo hun hus hN hM
  by_cases h1 : to = uo
  case neg =>
    by_cases h2 : to < uo
    · have HR : Hid (c = -1) := Lib.hid (by rw [HC.out, show cmpI to uo = -1 by (unfold cmpI; rw [if_neg h1, if_pos h2])]; simp)
      go_enter Try.func21, Try.ntmps21
      go_wp2
      go_ret
      exact ⟨ret_int HR.out.symm, ((Below.refl _ _).alloc (Nat.le_refl _) _).alloc (by simp) _⟩
    · have HR : Hid (c = 1) := Lib.hid (by rw [HC.out, show cmpI to uo = 1 by (unfold cmpI; rw [if_neg h1, if_neg h2])]; simp)
      go_enter Try.func21, Try.ntmps21
      go_wp2
      go_ret
      exact ⟨ret_int HR.out.symm, ((Below.refl _ _).alloc (Nat.le_refl _) _).alloc (by simp) _⟩
  subst h1
  have HC1 : Hid (c = if cmpB tn un ≠ 0 then cmpB tn un else if cmpI ts us ≠ 0 then cmpI ts us else cmpL L K) := Lib.hid (by rw [HC.out, show cmpI to to = 0 by (unfold cmpI; rw [if_pos rfl])]; simp)
  clear HC
  by_cases h1 : tn = un
  case neg =>
    rw [decide_eq_false h1] at hne
    cases hl : lessB tn un with
    | true =>
      have HR : Hid (c = -1) := Lib.hid (by rw [HC1.out, show cmpB tn un = -1 by (unfold cmpB; rw [if_neg h1, if_pos hl])]; simp)
      rw [hl] at hlt
      go_enter Try.func21, Try.ntmps21
      go_wp2
      go_ret
      exact ⟨ret_int HR.out.symm, ((Below.refl _ _).alloc (Nat.le_refl _) _).alloc (by simp) _⟩
    | false =>
      have HR : Hid (c = 1) := Lib.hid (by rw [HC1.out, show cmpB tn un = 1 by (unfold cmpB; rw [if_neg h1, if_neg (by rw [hl]; simp)])]; simp)
      rw [hl] at hlt
      go_enter Try.func21, Try.ntmps21
      go_wp2
      go_ret
      exact ⟨ret_int HR.out.symm, ((Below.refl _ _).alloc (Nat.le_refl _) _).alloc (by simp) _⟩
  subst h1
  have HC2 : Hid (c = if cmpI ts us ≠ 0 then cmpI ts us else cmpL L K) := Lib.hid (by rw [HC1.out, show cmpB tn tn = 0 by (unfold cmpB; rw [if_pos rfl])]; simp)
  clear HC1 hlt hne
  by_cases h1 : ts = us
  case neg =>
    by_cases h2 : ts < us
    · have HR : Hid (c = -1) := Lib.hid (by rw [HC2.out, show cmpI ts us = -1 by (unfold cmpI; rw [if_neg h1, if_pos h2])]; simp)
      go_enter Try.func21, Try.ntmps21
      go_wp2
      go_ret
      exact ⟨ret_int HR.out.symm, ((Below.refl _ _).alloc (Nat.le_refl _) _).alloc (by simp) _⟩
    · have HR : Hid (c = 1) := Lib.hid (by rw [HC2.out, show cmpI ts us = 1 by (unfold cmpI; rw [if_neg h1, if_neg h2])]; simp)
      go_enter Try.func21, Try.ntmps21
      go_wp2
      go_ret
      exact ⟨ret_int HR.out.symm, ((Below.refl _ _).alloc (Nat.le_refl _) _).alloc (by simp) _⟩
  subst h1
  have HC3 : Hid (c = cmpL L K) := Lib.hid (by rw [HC2.out, show cmpI ts ts = 0 by (unfold cmpI; rw [if_pos rfl])]; simp)
  clear HC2
  go_enter Try.func21, Try.ntmps21
  go_wp2
  generalize hW : (w.alloc (.cells #[.int .i64 to, .string (bstr tn), .int .i64 ts, .slice A N ca] 26)).alloc (.cells #[.int .i64 to, .string (bstr tn), .int .i64 ts, .slice B M cb] 26) = W
  have hb0 : Below w.heap.size w W := by rw [← hW]; exact ((Below.refl _ _).alloc (Nat.le_refl _) _).alloc (by simp) _
  have hlt0 : w.heap.size < W.heap.size := by rw [← hW]; simp; omega
  have hlt1 : w.heap.size + 1 < W.heap.size := by rw [← hW]; simp
  have hbox : W.cell? ⟨w.heap.size, 3, none⟩ = some (.slice A N ca) := by rw [← hW]; simp
  have hbox2 : W.cell? ⟨w.heap.size + 1, 3, none⟩ = some (.slice B M cb) := by rw [← hW]; simp
  clear hW
  go_loopw [5] (fun i wr => ∃ (k : Nat), k ≤ N ∧ k ≤ M ∧ i = .int .i64 k ∧ Hid (∀ j, j < k → cmp (L.getD j default) (K.getD j default) = 0) ∧ Below W.heap.size W wr) (fun i _ => N - (intOf i).toNat)
  case atStart => exact ⟨0, Nat.zero_le _, Nat.zero_le _, rfl, Lib.hid (fun j hj => by omega), Below.refl _ _⟩
  case round =>
    obtain ⟨k, hkN, hkM, rfl, HZ, hbel⟩ := hrel
    have hbx : wr.cell? ⟨w.heap.size, 3, none⟩ = some (.slice A N ca) := (hbel.cell (p := ⟨w.heap.size, 3, none⟩) hlt0).trans hbox
    have hbx2 : wr.cell? ⟨w.heap.size + 1, 3, none⟩ = some (.slice B M cb) := (hbel.cell (p := ⟨w.heap.size + 1, 3, none⟩) hlt1).trans hbox2
    have hbw : Below w.heap.size w wr := hb0.trans (hbel.mono (Nat.le_of_lt hlt0))
    by_cases hA : k < N
    case neg =>
      have hda : decide (k < N) = false := decide_eq_false hA
      have hda2 : decide ((k : Int) < (N : Int)) = false := decide_eq_false (by omega)
      have HE : Hid (c = cmpI (N : Int) (M : Int)) := Lib.hid (by
        rw [HC3.out, HN.out, HM.out]
        exact cmpL_end (fun j h1 h2 => HZ.out j (by have := HN.out; omega)))
      by_cases h2 : N < M
      · have HR : Hid (c = -1) := Lib.hid (by rw [HE.out]; unfold cmpI; rw [if_neg (by omega), if_pos (by omega)])
        go_wp2
        go_ret
        exact ⟨ret_int HR.out.symm, hbw⟩
      · by_cases h3 : M < N
        · exact absurd h3 (by omega)
        · have HR : Hid (c = 0) := Lib.hid (by rw [HE.out]; unfold cmpI; rw [if_pos (by omega)])
          go_wp2
          go_ret
          exact ⟨ret_int HR.out.symm, hbw⟩
    have hda : decide (k < N) = true := decide_eq_true hA
    have hda2 : decide ((k : Int) < (N : Int)) = true := decide_eq_true (by omega)
    by_cases hB : k < M
    case neg =>
      have hdb : decide (k < M) = false := decide_eq_false hB
      have hdb2 : decide ((k : Int) < (M : Int)) = false := decide_eq_false (by omega)
      have HE : Hid (c = cmpI (N : Int) (M : Int)) := Lib.hid (by
        rw [HC3.out, HN.out, HM.out]
        exact cmpL_end (fun j h1 h2 => HZ.out j (by have := HM.out; omega)))
      have h2 : ¬ N < M := by omega
      have h3 : M < N := by omega
      have HR : Hid (c = 1) := Lib.hid (by rw [HE.out]; unfold cmpI; rw [if_neg (by omega), if_neg (by omega)])
      go_wp2
      go_ret
      exact ⟨ret_int HR.out.symm, hbw⟩
    have hdb : decide (k < M) = true := decide_eq_true hB
    have hdb2 : decide ((k : Int) < (M : Int)) = true := decide_eq_true (by omega)
    obtain ⟨ka, ga, oa, A2, a2, hna, rfl, _, hga, ha0, ha1, ha2, ha3, hha, _⟩ := term_at HA.out hA
    obtain ⟨kb, gb, ob, B2, b2, hnb, rfl, _, hgb, hb0', hb1, hb2, hb3, hhb, _⟩ := term_at HB.out hB
    obtain rfl : ka = kb := by omega
    have hga2 : ga < wr.heap.size := Nat.lt_of_lt_of_le hga hbw.size
    have hgb2 : gb < wr.heap.size := Nat.lt_of_lt_of_le hgb hbw.size
    have hx0 : w.heap.size < wr.heap.size := Nat.lt_of_lt_of_le hlt0 hbel.size
    have hx1 : w.heap.size + 1 < wr.heap.size := Nat.lt_of_lt_of_le hlt1 hbel.size
    have hh1 := hha.below (Nat.le_refl _) hbw
    have hh2 := hhb.below (Nat.le_refl _) hbw
    obtain ⟨x, hx⟩ : ∃ d, d = L.getD k default := ⟨_, rfl⟩
    obtain ⟨y, hy⟩ : ∃ d, d = K.getD k default := ⟨_, rfl⟩
    rw [← hx] at ha0 ha1 ha2 ha3 hh1
    rw [← hy] at hb0' hb1 hb2 hb3 hh2
    obtain ⟨r, hr⟩ : ∃ r, r = cmp x y := ⟨_, rfl⟩
    have HCC := Lib.hid (fun W' (hW' : Below wr.heap.size wr W') => HS.out ka hna x y _ _ W' _ _ (hh1.below (Nat.le_refl _) hW') (hh2.below (Nat.le_refl _) hW'))
    rw [← hr] at HCC
    have HRX : Hid (r = cmp (L.getD k default) (K.getD k default)) := Lib.hid (by rw [hr, hx, hy])
    obtain ⟨m, hm⟩ : ∃ m, m = x.args.length := ⟨_, rfl⟩
    obtain ⟨m', hm'⟩ : ∃ m, m = y.args.length := ⟨_, rfl⟩
    rw [← hm] at ha3 HCC
    rw [← hm'] at hb3 HCC
    have hk1 : (0 : Int) ≤ (k : Int) := by omega
    have hk2 : (k : Int) < (N : Int) := by omega
    have hk3 : (k : Int) < (M : Int) := by omega
    have qa : ∀ o, w.cell? ⟨ga, o, none⟩ = wr.cell? ⟨ga, o, none⟩ := fun o => (hbw.cell (p := ⟨ga, o, none⟩) hga).symm
    have qb : ∀ o, w.cell? ⟨gb, o, none⟩ = wr.cell? ⟨gb, o, none⟩ := fun o => (hbw.cell (p := ⟨gb, o, none⟩) hgb).symm
    rw [qa] at ha0 ha1 ha2 ha3
    rw [qb] at hb0' hb1 hb2 hb3
    have r0 : ∀ t : BoxC (Below wr.heap.size wr), t.W.cell? ⟨ga, oa + k * 4, none⟩ = some (.int .i64 x.op) := fun t => t.cell ha0 hga2
    have r1 : ∀ t : BoxC (Below wr.heap.size wr), t.W.cell? ⟨ga, oa + k * 4 + 1, none⟩ = some (.string (bstr x.name)) := fun t => t.cell ha1 hga2
    have r2 : ∀ t : BoxC (Below wr.heap.size wr), t.W.cell? ⟨ga, oa + k * 4 + 2, none⟩ = some (.int .i64 x.sort) := fun t => t.cell ha2 hga2
    have r3 : ∀ t : BoxC (Below wr.heap.size wr), t.W.cell? ⟨ga, oa + k * 4 + 3, none⟩ = some (.slice A2 m a2) := fun t => t.cell ha3 hga2
    have s0 : ∀ t : BoxC (Below wr.heap.size wr), t.W.cell? ⟨gb, ob + k * 4, none⟩ = some (.int .i64 y.op) := fun t => t.cell hb0' hgb2
    have s1 : ∀ t : BoxC (Below wr.heap.size wr), t.W.cell? ⟨gb, ob + k * 4 + 1, none⟩ = some (.string (bstr y.name)) := fun t => t.cell hb1 hgb2
    have s2 : ∀ t : BoxC (Below wr.heap.size wr), t.W.cell? ⟨gb, ob + k * 4 + 2, none⟩ = some (.int .i64 y.sort) := fun t => t.cell hb2 hgb2
    have s3 : ∀ t : BoxC (Below wr.heap.size wr), t.W.cell? ⟨gb, ob + k * 4 + 3, none⟩ = some (.slice B2 m' b2) := fun t => t.cell hb3 hgb2
    have x0 : ∀ t : BoxC (Below wr.heap.size wr), t.W.cell? ⟨w.heap.size, 3, none⟩ = some (.slice (some ⟨ga, oa, none⟩) N ca) := fun t => t.cell hbx hx0
    have x1 : ∀ t : BoxC (Below wr.heap.size wr), t.W.cell? ⟨w.heap.size + 1, 3, none⟩ = some (.slice (some ⟨gb, ob, none⟩) M cb) := fun t => t.cell hbx2 hx1
    clear hha hhb hh1 hh2 hx hy hr hm hm' qa qb hna hnb ha0 ha1 ha2 ha3 hb0' hb1 hb2 hb3
    go_wp2
    refine region_boxC (C := Below wr.heap.size wr) (by kernel_rfl) (by kernel_rfl) (Below.refl _ _).drew ?_
    have nb : Nonempty (BoxC (Below wr.heap.size wr)) := ⟨⟨_, Below.refl _ _⟩⟩
    repeat (go_big_quiet_step ((go_at_call 21; exact (HCC.out _ (BoxC.h _)).mono (fun _ _ h => ⟨h.1, BoxC.step _ h.2⟩))))
    refine wpQuiet_nil ?_
    rintro w5 ⟨t5, rfl⟩
    have hh := t5.h
    clear r0 r1 r2 r3 s0 s1 s2 s3 x0 x1
    by_cases hr0 : r = 0
    · subst hr0
      go_wp2
      go_roundw
      case rel => exact ⟨k + 1, by omega, by omega, by go_num, Lib.hid (fun j hj => by
        by_cases e : j = k
        · subst e; exact HRX.out.symm
        · exact HZ.out j (by omega)), hbel.trans (hh.mono hbel.size)⟩
      case measure => simp [intOf]; omega
    · have HR : Hid (c = r) := Lib.hid (by
        rw [HC3.out, HRX.out]
        exact cmpL_hit (by have := HN.out; omega) (by have := HM.out; omega) HZ.out (by rw [← HRX.out]; exact hr0))
      go_wp2
      go_ret
      exact ⟨ret_int HR.out.symm, hbw.trans (hh.mono hbw.size)⟩
theorem cmpOf_all : ∀ n, CmpT n
  | 0 => cmpT_step (fun k h => by omega)
  | n + 1 => cmpT_step (fun k h => Nat.succ.inj h ▸ cmpOf_all n)
theorem scmp_any {n m : Nat} (t u : TermM) (va vb : Value) (w : World) {lo lo' : Nat} (ha : HasTs n lo w va t.args) (hb : HasTs m lo' w vb u.args) :
    Calls Try.prog 21 #[.agg #[.int .i64 t.op, .string (bstr t.name), .int .i64 t.sort, va], .agg #[.int .i64 u.op, .string (bstr u.name), .int .i64 u.sort, vb]] w fun e w' => e = .returned (.int .i64 (cmp t u)) ∧ Below w.heap.size w w' :=
  cmpOf_all (max n m) t u va vb w lo lo' (ha.up (Nat.le_max_left _ _)) (hb.up (Nat.le_max_right _ _))
end Go.Proofs.Ytlhdnnakkjafgaa.termv
