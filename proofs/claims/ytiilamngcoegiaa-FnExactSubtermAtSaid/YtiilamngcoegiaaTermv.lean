/-
  CONTRACTS OF THE MODEL'S FUNCTIONS ON TERMS: SizeOfTerm, DepthOfTerm, CompareTerms, l5Same, OccursIn.
-/
import Derived.Test.YtiilamngcoegiaaTermu
import Derived.Test.YtiilamngcoegiaaTermb
import Derived.BigQuiet
namespace Go.Proofs.Ytiilamngcoegiaa.termv
open Go.ChangeShapes Go.WideShapes Go.ChangeAt Go.RowKit
open mem dec rowl trm trmv terml termb termt termu

theorem size_eq (t : TermM) : size t = 1 + sizes t.args := by cases t; exact size_mk _ _ _ _
theorem depth_eq (t : TermM) : depth t = depths t.args + 1 := by cases t; exact depth_mk _ _ _ _
theorem depths_cons (a : TermM) (l : List TermM) : depths (a :: l) = max (depth a) (depths l) := rfl
/-- spec.CompareTerms, at arguments of at most this depth -/
def CmpT (n : Nat) : Prop := ∀ (t u : TermM) (va vb : Value) (w : World) (lo lo' : Nat), HasTs n lo w va t.args → HasTs n lo' w vb u.args →
  Calls Try.prog 40 #[.agg #[.int .i64 t.op, .string (bstr t.name), .int .i64 t.sort, va], .agg #[.int .i64 u.op, .string (bstr u.name), .int .i64 u.sort, vb]] w fun e w' => e = .returned (.int .i64 (cmp t u)) ∧ Below w.heap.size w w'
set_option maxRecDepth 50000 in
set_option maxHeartbeats 8000000 in
theorem cmpT_step {n : Nat} (hS : ∀ k, n = k + 1 → CmpT k) : CmpT n := by
  intro t u va vb w lo lo' ha hb
  obtain ⟨N, hN⟩ : ∃ N, N = t.args.length := ⟨_, rfl⟩
  obtain ⟨M, hM⟩ : ∃ M, M = u.args.length := ⟨_, rfl⟩
  obtain ⟨A, ca, rfl, ha⟩ := HasR.shape ha hN.symm
  obtain ⟨B, cb, rfl, hb⟩ := HasR.shape hb hM.symm
  have hNm := ha.len.2.1
  have hMm := hb.len.2.1
  have hlt := binOp_string_lss 9 (bstr t.name) (bstr u.name)
  rw [less_bstr] at hlt
  have hne := bstr_eq (a := t.name) (b := u.name)
  have HC : Hid (cmp t u = if cmpI t.op u.op ≠ 0 then cmpI t.op u.op else if cmpB t.name u.name ≠ 0 then cmpB t.name u.name else if cmpI t.sort u.sort ≠ 0 then cmpI t.sort u.sort else cmpL t.args u.args) := Lib.hid (by cases t; exact cmp_mk _ _ _ _ u)
  have HA := Lib.hid ha
  have HB := Lib.hid hb
  have HS := Lib.hid hS
  obtain ⟨c, hc⟩ : ∃ c, c = cmp t u := ⟨_, rfl⟩
  obtain ⟨L, hL⟩ : ∃ L, L = t.args := ⟨_, rfl⟩
  obtain ⟨K, hK⟩ : ∃ L, L = u.args := ⟨_, rfl⟩
  rw [← hc] at HC ⊢
  obtain ⟨to, hto⟩ : ∃ q, q = t.op := ⟨_, rfl⟩
  obtain ⟨tn, htn⟩ : ∃ q, q = t.name := ⟨_, rfl⟩
  obtain ⟨ts, hts⟩ : ∃ q, q = t.sort := ⟨_, rfl⟩
  obtain ⟨uo, huo⟩ : ∃ q, q = u.op := ⟨_, rfl⟩
  obtain ⟨un, hun⟩ : ∃ q, q = u.name := ⟨_, rfl⟩
  obtain ⟨us, hus⟩ : ∃ q, q = u.sort := ⟨_, rfl⟩
  rw [← hL] at HA hN HC
  rw [← hK] at HB hM HC
  rw [← hto, ← huo, ← htn, ← hun, ← hts, ← hus] at HC
  rw [← htn, ← hun] at hlt hne
  rw [← hto, ← huo, ← htn, ← hun, ← hts, ← hus]
  have HN := Lib.hid hN
  have HM := Lib.hid hM
  clear ha hb hS hc hL hK hto htn hts huo hun hus hN hM
  by_cases h1 : to = uo
  case neg =>
    by_cases h2 : to < uo
    · have HR : Hid (c = -1) := Lib.hid (by rw [HC.out, show cmpI to uo = -1 by (unfold cmpI; rw [if_neg h1, if_pos h2])]; simp)
      go_enter Try.func40, Try.ntmps40
      go_wp2
      go_ret
      exact ⟨ret_int HR.out.symm, ((Below.refl _ _).alloc (Nat.le_refl _) _).alloc (by simp) _⟩
    · have HR : Hid (c = 1) := Lib.hid (by rw [HC.out, show cmpI to uo = 1 by (unfold cmpI; rw [if_neg h1, if_neg h2])]; simp)
      go_enter Try.func40, Try.ntmps40
      go_wp2
      go_ret
      exact ⟨ret_int HR.out.symm, ((Below.refl _ _).alloc (Nat.le_refl _) _).alloc (by simp) _⟩
  subst h1
  have HC1 : Hid (c = if cmpB tn un ≠ 0 then cmpB tn un else if cmpI ts us ≠ 0 then cmpI ts us else cmpL L K) := Lib.hid (by rw [HC.out, show cmpI to to = 0 by (unfold cmpI; rw [if_pos rfl])]; simp)
  clear HC
  by_cases h1 : tn = un
  case neg =>
    rw [decide_eq_false h1] at hne
    cases hl : lessB tn un with
    | true =>
      have HR : Hid (c = -1) := Lib.hid (by rw [HC1.out, show cmpB tn un = -1 by (unfold cmpB; rw [if_neg h1, if_pos hl])]; simp)
      rw [hl] at hlt
      go_enter Try.func40, Try.ntmps40
      go_wp2
      go_ret
      exact ⟨ret_int HR.out.symm, ((Below.refl _ _).alloc (Nat.le_refl _) _).alloc (by simp) _⟩
    | false =>
      have HR : Hid (c = 1) := Lib.hid (by rw [HC1.out, show cmpB tn un = 1 by (unfold cmpB; rw [if_neg h1, if_neg (by rw [hl]; simp)])]; simp)
      rw [hl] at hlt
      go_enter Try.func40, Try.ntmps40
      go_wp2
      go_ret
      exact ⟨ret_int HR.out.symm, ((Below.refl _ _).alloc (Nat.le_refl _) _).alloc (by simp) _⟩
  subst h1
  have HC2 : Hid (c = if cmpI ts us ≠ 0 then cmpI ts us else cmpL L K) := Lib.hid (by rw [HC1.out, show cmpB tn tn = 0 by (unfold cmpB; rw [if_pos rfl])]; simp)
  clear HC1 hlt hne
  by_cases h1 : ts = us
  case neg =>
    by_cases h2 : ts < us
    · have HR : Hid (c = -1) := Lib.hid (by rw [HC2.out, show cmpI ts us = -1 by (unfold cmpI; rw [if_neg h1, if_pos h2])]; simp)
      go_enter Try.func40, Try.ntmps40
      go_wp2
      go_ret
      exact ⟨ret_int HR.out.symm, ((Below.refl _ _).alloc (Nat.le_refl _) _).alloc (by simp) _⟩
    · have HR : Hid (c = 1) := Lib.hid (by rw [HC2.out, show cmpI ts us = 1 by (unfold cmpI; rw [if_neg h1, if_neg h2])]; simp)
      go_enter Try.func40, Try.ntmps40
      go_wp2
      go_ret
      exact ⟨ret_int HR.out.symm, ((Below.refl _ _).alloc (Nat.le_refl _) _).alloc (by simp) _⟩
  subst h1
  have HC3 : Hid (c = cmpL L K) := Lib.hid (by rw [HC2.out, show cmpI ts ts = 0 by (unfold cmpI; rw [if_pos rfl])]; simp)
  clear HC2
  go_enter Try.func40, Try.ntmps40
  go_wp2
  generalize hW : (w.alloc (.cells #[.int .i64 to, .string (bstr tn), .int .i64 ts, .slice A N ca] 40)).alloc (.cells #[.int .i64 to, .string (bstr tn), .int .i64 ts, .slice B M cb] 40) = W
  have hb0 : Below w.heap.size w W := by rw [← hW]; exact ((Below.refl _ _).alloc (Nat.le_refl _) _).alloc (by simp) _
  have hlt0 : w.heap.size < W.heap.size := by rw [← hW]; simp; omega
  have hlt1 : w.heap.size + 1 < W.heap.size := by rw [← hW]; simp
  have hbox : W.cell? ⟨w.heap.size, 3, none⟩ = some (.slice A N ca) := by rw [← hW]; simp
  have hbox2 : W.cell? ⟨w.heap.size + 1, 3, none⟩ = some (.slice B M cb) := by rw [← hW]; simp
  clear hW
  go_loopw [5] (fun i wr => ∃ (k : Nat), k ≤ N ∧ k ≤ M ∧ i = .int .i64 k ∧ Hid (∀ j, j < k → cmp (L.getD j default) (K.getD j default) = 0) ∧ Below W.heap.size W wr) (fun i _ => N - (intOf i).toNat)
  case atStart => exact ⟨0, Nat.zero_le _, Nat.zero_le _, rfl, Lib.hid (fun j hj => by omega), Below.refl _ _⟩
  case round =>
    obtain ⟨k, hkN, hkM, rfl, HZ, hbel⟩ := hrel
    have hbx : wr.cell? ⟨w.heap.size, 3, none⟩ = some (.slice A N ca) := (hbel.cell (p := ⟨w.heap.size, 3, none⟩) hlt0).trans hbox
    have hbx2 : wr.cell? ⟨w.heap.size + 1, 3, none⟩ = some (.slice B M cb) := (hbel.cell (p := ⟨w.heap.size + 1, 3, none⟩) hlt1).trans hbox2
    have hbw := hb0.trans (hbel.mono (Nat.le_of_lt hlt0))
    by_cases hA : k < N
    case neg =>
      have hda : decide (k < N) = false := decide_eq_false hA
      have hda2 : decide ((k : Int) < (N : Int)) = false := decide_eq_false (by omega)
      have HE : Hid (c = cmpI (N : Int) (M : Int)) := Lib.hid (by
        rw [HC3.out, HN.out, HM.out]
        exact cmpL_end (fun j h1 h2 => HZ.out j (by have := HN.out; omega)))
      by_cases h2 : N < M
      · have HR : Hid (c = -1) := Lib.hid (by rw [HE.out]; unfold cmpI; rw [if_neg (by omega), if_pos (by omega)])
        go_wp2
        go_ret
        exact ⟨ret_int HR.out.symm, hbw⟩
      · by_cases h3 : M < N
        · exact absurd h3 (by omega)
        · have HR : Hid (c = 0) := Lib.hid (by rw [HE.out]; unfold cmpI; rw [if_pos (by omega)])
          go_wp2
          go_ret
          exact ⟨ret_int HR.out.symm, hbw⟩
    have hda : decide (k < N) = true := decide_eq_true hA
    have hda2 : decide ((k : Int) < (N : Int)) = true := decide_eq_true (by omega)
    by_cases hB : k < M
    case neg =>
      have hdb : decide (k < M) = false := decide_eq_false hB
      have hdb2 : decide ((k : Int) < (M : Int)) = false := decide_eq_false (by omega)
      have HE : Hid (c = cmpI (N : Int) (M : Int)) := Lib.hid (by
        rw [HC3.out, HN.out, HM.out]
        exact cmpL_end (fun j h1 h2 => HZ.out j (by have := HM.out; omega)))
      have h2 : ¬ N < M := by omega
      have h3 : M < N := by omega
      have HR : Hid (c = 1) := Lib.hid (by rw [HE.out]; unfold cmpI; rw [if_neg (by omega), if_neg (by omega)])
      go_wp2
      go_ret
      exact ⟨ret_int HR.out.symm, hbw⟩
    have hdb : decide (k < M) = true := decide_eq_true hB
    have hdb2 : decide ((k : Int) < (M : Int)) = true := decide_eq_true (by omega)
    obtain ⟨ka, ga, oa, A2, a2, hna, rfl, _, hga, ha0, ha1, ha2, ha3, hha, _⟩ := term_at HA.out hA
    obtain ⟨kb, gb, ob, B2, b2, hnb, rfl, _, hgb, hb0', hb1, hb2, hb3, hhb, _⟩ := term_at HB.out hB
    obtain rfl : ka = kb := by omega
    have hga2 : ga < wr.heap.size := Nat.lt_of_lt_of_le hga hbw.size
    have hgb2 : gb < wr.heap.size := Nat.lt_of_lt_of_le hgb hbw.size
    have hx0 : w.heap.size < wr.heap.size := Nat.lt_of_lt_of_le hlt0 hbel.size
    have hx1 : w.heap.size + 1 < wr.heap.size := Nat.lt_of_lt_of_le hlt1 hbel.size
    have hh1 := hha.below (Nat.le_refl _) hbw
    have hh2 := hhb.below (Nat.le_refl _) hbw
    obtain ⟨x, hx⟩ : ∃ d, d = L.getD k default := ⟨_, rfl⟩
    obtain ⟨y, hy⟩ : ∃ d, d = K.getD k default := ⟨_, rfl⟩
    rw [← hx] at ha0 ha1 ha2 ha3 hh1
    rw [← hy] at hb0' hb1 hb2 hb3 hh2
    obtain ⟨r, hr⟩ : ∃ r, r = cmp x y := ⟨_, rfl⟩
    have HCC := Lib.hid (fun W' (hW' : Below wr.heap.size wr W') => HS.out ka hna x y _ _ W' _ _ (hh1.below (Nat.le_refl _) hW') (hh2.below (Nat.le_refl _) hW'))
    rw [← hr] at HCC
    have HRX : Hid (r = cmp (L.getD k default) (K.getD k default)) := Lib.hid (by rw [hr, hx, hy])
    obtain ⟨m, hm⟩ : ∃ m, m = x.args.length := ⟨_, rfl⟩
    obtain ⟨m', hm'⟩ : ∃ m, m = y.args.length := ⟨_, rfl⟩
    rw [← hm] at ha3 HCC
    rw [← hm'] at hb3 HCC
    have hk1 : (0 : Int) ≤ (k : Int) := by omega
    have hk2 : (k : Int) < (N : Int) := by omega
    have hk3 : (k : Int) < (M : Int) := by omega
    have qa : ∀ o, w.cell? ⟨ga, o, none⟩ = wr.cell? ⟨ga, o, none⟩ := fun o => (hbw.cell (p := ⟨ga, o, none⟩) hga).symm
    have qb : ∀ o, w.cell? ⟨gb, o, none⟩ = wr.cell? ⟨gb, o, none⟩ := fun o => (hbw.cell (p := ⟨gb, o, none⟩) hgb).symm
    rw [qa] at ha0 ha1 ha2 ha3
    rw [qb] at hb0' hb1 hb2 hb3
    have r0 : ∀ t : BoxC (Below wr.heap.size wr), t.W.cell? ⟨ga, oa + k * 4, none⟩ = some (.int .i64 x.op) := fun t => t.cell ha0 hga2
    have r1 : ∀ t : BoxC (Below wr.heap.size wr), t.W.cell? ⟨ga, oa + k * 4 + 1, none⟩ = some (.string (bstr x.name)) := fun t => t.cell ha1 hga2
    have r2 : ∀ t : BoxC (Below wr.heap.size wr), t.W.cell? ⟨ga, oa + k * 4 + 2, none⟩ = some (.int .i64 x.sort) := fun t => t.cell ha2 hga2
    have r3 : ∀ t : BoxC (Below wr.heap.size wr), t.W.cell? ⟨ga, oa + k * 4 + 3, none⟩ = some (.slice A2 m a2) := fun t => t.cell ha3 hga2
    have s0 : ∀ t : BoxC (Below wr.heap.size wr), t.W.cell? ⟨gb, ob + k * 4, none⟩ = some (.int .i64 y.op) := fun t => t.cell hb0' hgb2
    have s1 : ∀ t : BoxC (Below wr.heap.size wr), t.W.cell? ⟨gb, ob + k * 4 + 1, none⟩ = some (.string (bstr y.name)) := fun t => t.cell hb1 hgb2
    have s2 : ∀ t : BoxC (Below wr.heap.size wr), t.W.cell? ⟨gb, ob + k * 4 + 2, none⟩ = some (.int .i64 y.sort) := fun t => t.cell hb2 hgb2
    have s3 : ∀ t : BoxC (Below wr.heap.size wr), t.W.cell? ⟨gb, ob + k * 4 + 3, none⟩ = some (.slice B2 m' b2) := fun t => t.cell hb3 hgb2
    have x0 : ∀ t : BoxC (Below wr.heap.size wr), t.W.cell? ⟨w.heap.size, 3, none⟩ = some (.slice (some ⟨ga, oa, none⟩) N ca) := fun t => t.cell hbx hx0
    have x1 : ∀ t : BoxC (Below wr.heap.size wr), t.W.cell? ⟨w.heap.size + 1, 3, none⟩ = some (.slice (some ⟨gb, ob, none⟩) M cb) := fun t => t.cell hbx2 hx1
    clear hha hhb hh1 hh2 hx hy hr hm hm' qa qb hna hnb ha0 ha1 ha2 ha3 hb0' hb1 hb2 hb3
    go_wp2
    refine region_boxC (C := Below wr.heap.size wr) (by kernel_rfl) (by kernel_rfl) (Below.refl _ _).drew ?_
    have nb : Nonempty (BoxC (Below wr.heap.size wr)) := ⟨⟨_, Below.refl _ _⟩⟩
    repeat (go_big_quiet_step ((go_at_call 40; exact (HCC.out _ (BoxC.h _)).mono (fun _ _ h => ⟨h.1, BoxC.step _ h.2⟩))))
    refine wpQuiet_nil ?_
    rintro w5 ⟨t5, rfl⟩
    have hh := t5.h
    clear r0 r1 r2 r3 s0 s1 s2 s3 x0 x1
    by_cases hr0 : r = 0
    · subst hr0
      go_wp2
      go_roundw
      case rel => exact ⟨k + 1, by omega, by omega, by go_num, Lib.hid (fun j hj => by
        by_cases e : j = k
        · subst e; exact HRX.out.symm
        · exact HZ.out j (by omega)), hbel.trans (hh.mono hbel.size)⟩
      case measure => simp [intOf]; omega
    · have HR : Hid (c = r) := Lib.hid (by
        rw [HC3.out, HRX.out]
        exact cmpL_hit (by have := HN.out; omega) (by have := HM.out; omega) HZ.out (by rw [← HRX.out]; exact hr0))
      go_wp2
      go_ret
      exact ⟨ret_int HR.out.symm, hbw.trans (hh.mono hbw.size)⟩
theorem cmpOf_all : ∀ n, CmpT n
  | 0 => cmpT_step (fun k h => by omega)
  | n + 1 => cmpT_step (fun k h => Nat.succ.inj h ▸ cmpOf_all n)
theorem scmp_any {n m : Nat} (t u : TermM) (va vb : Value) (w : World) {lo lo' : Nat} (ha : HasTs n lo w va t.args) (hb : HasTs m lo' w vb u.args) :
    Calls Try.prog 40 #[.agg #[.int .i64 t.op, .string (bstr t.name), .int .i64 t.sort, va], .agg #[.int .i64 u.op, .string (bstr u.name), .int .i64 u.sort, vb]] w fun e w' => e = .returned (.int .i64 (cmp t u)) ∧ Below w.heap.size w w' :=
  cmpOf_all (max n m) t u va vb w lo lo' (ha.up (Nat.le_max_left _ _)) (hb.up (Nat.le_max_right _ _))
end Go.Proofs.Ytiilamngcoegiaa.termv
