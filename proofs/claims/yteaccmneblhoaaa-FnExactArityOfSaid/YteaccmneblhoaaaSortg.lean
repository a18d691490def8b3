/-
  THE MODEL's FUNCTIONS OF SORTS: AboveSort, BelowSort, KindOfSort, LeastSorts, GreatestSorts, CommonSorts.
-/
import Derived.Test.YteaccmneblhoaaaSorts
namespace Go.Proofs.Yteaccmneblhoaaa.sortg
open Go.ChangeShapes Go.WideShapes Go.ChangeAt Go.RowKit
open mem split strl subs sortn setm sets sortm sortp sorti sortf sortu sorts

/-- what a valid argument gives -/
theorem ok_facts {P : List (List UInt8)} {Q : List (Int × Int)} (h : okS P Q = true) :
    1 ≤ P.length ∧ P.length ≤ 8 ∧ PIn P.length Q ∧ Q.length ≤ 16 ∧ ordU P Q = clo P.length (prs Q) ∧ (ordU P Q).length = P.length := by
  obtain ⟨h1, h2, h3, h4, _⟩ := okS_parts h
  exact ⟨h1, h2, h3, h4, ordU_yes h, by rw [ordU_len, if_pos h]⟩
theorem ok_ne {P : List (List UInt8)} {Q : List (Int × Int)} (h : okS P Q = true) : ∀ p ∈ Q, p.1 ≠ p.2 := by
  simp only [okS, subsOk, subOk, Bool.and_eq_true, List.all_eq_true, decide_eq_true_eq] at h
  intro p hp
  exact (h.1.2.2 p hp).2
set_option maxHeartbeats 2000000 in
/-- spec.KindOfSort -/
theorem sKind_any (P : List (List UInt8)) (Q : List (Int × Int)) (va vb : Value) (x : Int) (w : World) (h : HasS w va vb P Q) :
    Calls Try.prog 19 #[.agg #[va, vb], .int .i64 x] w fun e w' => e = .returned (.int .i64 (kindI P Q x)) ∧ Below w.heap.size w w' := by
  obtain ⟨A, ca, B, cb, rfl, rfl, hla, hlb, h'⟩ := h.shape
  have HH := Lib.hid h'
  clear h h'
  cases hok : okS P Q with
  | false =>
    have HQ : Hid (kindI P Q x = -1) := Lib.hid (by rw [kindI, ordU_no hok, if_neg (by first | (simp; done) | (simp; omega))])
    have HS := Lib.hid (fun W hW => sIsSorts_any P Q _ _ false hok W (HH.out.below (Nat.le_refl _) hW))
    clear hok
    go_enter Try.func19, Try.ntmps19
    go_wp2_with (go_at_call 12; refine (HS.out _ ((Below.refl _ _).alloc (Nat.le_refl _) _)).mono ?_; rintro e w1 ⟨rfl, hb1⟩)
    go_ret
    exact ⟨ret_int (by rw [HQ.out]), ((Below.refl _ _).alloc (Nat.le_refl _) _).trans (hb1.mono (by simp))⟩
  | true =>
    have HS := Lib.hid (fun W hW => sIsSorts_any P Q _ _ true hok W (HH.out.below (Nat.le_refl _) hW))
    obtain ⟨p1, p2, p3, p4, p5, p6⟩ := ok_facts hok
    have hne := ok_ne hok
    obtain ⟨n, hn⟩ : ∃ n, n = P.length := ⟨_, rfl⟩
    have hir := in_range x P.length p1
    rw [← hn] at hir p6
    cases hin : inI x 0 ((n : Int) - 1) with
    | false =>
      have HQ : Hid (kindI P Q x = -1) := Lib.hid (by
        rw [hir] at hin
        rw [kindI, if_neg (by rw [p6]; simpa using hin)])
      have HI := Lib.hid hin
      have HN := Lib.hid hn
      rw [← hn] at HS hla ⊢
      clear hok hin hir p3 p5 p6 hn hne
      go_enter Try.func19, Try.ntmps19
      go_wp2_with (first
        | (go_at_call 12; refine (HS.out _ ((Below.refl _ _).alloc (Nat.le_refl _) _)).mono ?_; rintro e w1 ⟨rfl, hb1⟩
           have c0 : w1.cell? ⟨w.heap.size, 0, none⟩ = some (.slice A n ca) := by rw [hb1.cell (p := ⟨w.heap.size, 0, none⟩) (by simp)]; simp)
        | (go_at_call 39; refine (l1In_any _ _ _ _ HI.out _).mono ?_; rintro e w2 ⟨rfl, rfl⟩))
      go_ret
      exact ⟨ret_int (by rw [HQ.out]), ((Below.refl _ _).alloc (Nat.le_refl _) _).trans (hb1.mono (by simp))⟩
    | true =>
      have hx : 0 ≤ x ∧ x < n := by rw [hir] at hin; simpa using hin
      obtain ⟨k, rfl⟩ : ∃ k : Nat, x = (k : Int) := ⟨x.toNat, by omega⟩
      have hk : k < n := by omega
      have HQ : Hid (kindI P Q (k : Int) = (((kin P.length (prs Q)).getD k 0 : Nat) : Int)) := Lib.hid (by rw [kindI, if_pos (by rw [p6]; omega)]; rfl)
      have HUP := Lib.hid (fun W hW => l3Kinds_any P Q p1 p2 (by omega) p3 hne _ _ W (HH.out.below (Nat.le_refl _) hW))
      have HI := Lib.hid hin
      have HN := Lib.hid hn
      rw [← hn] at HS hla HUP HQ p1 ⊢
      obtain ⟨U, hU⟩ : ∃ U, U = kin n (prs Q) := ⟨_, rfl⟩
      rw [← hU] at HUP HQ
      clear hok hin hir p3 p5 p6 hn hU hx hne
      go_enter Try.func19, Try.ntmps19
      go_wp2_with (first
        | (go_at_call 12; refine (HS.out _ ((Below.refl _ _).alloc (Nat.le_refl _) _)).mono ?_; rintro e w1 ⟨rfl, hb1⟩
           have c0 : w1.cell? ⟨w.heap.size, 0, none⟩ = some (.slice A n ca) := by rw [hb1.cell (p := ⟨w.heap.size, 0, none⟩) (by simp)]; simp
           have c1 : w1.cell? ⟨w.heap.size, 1, none⟩ = some (.slice B Q.length cb) := by rw [hb1.cell (p := ⟨w.heap.size, 1, none⟩) (by simp)]; simp
           have hbw : Below w.heap.size w w1 := ((Below.refl _ _).alloc (Nat.le_refl _) _).trans (hb1.mono (by simp))
           clear hb1)
        | (go_at_call 39; refine (l1In_any _ _ _ _ HI.out _).mono ?_; rintro e w2 ⟨rfl, rfl⟩)
        | (go_at_call 50; refine (HUP.out _ hbw).mono ?_; rintro e w2 ⟨uv, rfl, hown, hb2⟩
           obtain ⟨gu, cu, rfl, hgu, hgs⟩ := own_shape hown (by intro e; have := hown.1; rw [e] at this; simp at this; omega)
           obtain ⟨d0, _⟩ := in_cell hown hk
           clear hown))
      go_ret
      exact ⟨ret_int (by rw [HQ.out]; first | rfl | simp), hbw.trans (hb2.mono hbw.size)⟩
theorem gather_small {f : Nat → Bool} {j : Nat} (h : j ≤ 8) : gather f j < 65536 := Nat.lt_of_lt_of_le (gather_lt f j) (Nat.le_trans (pow8 h) (by decide))
theorem all_range_succ (f : Nat → Bool) (k : Nat) : (List.range (k + 1)).all f = ((List.range k).all f && f k) := by
  rw [List.range_succ, List.all_append]; simp
theorem all_range_bad (f : Nat → Bool) (n k : Nat) (hk : k < n) (h : f k = false) : (List.range n).all f = false := by
  simp only [List.all_eq_false]
  exact ⟨k, by simpa using hk, by simp [h]⟩
theorem leastU_zero (U : List Nat) : leastU U 0 = 0 := by
  apply Nat.eq_of_testBit_eq
  intro i
  rw [leastU, gather_bit, leastG]; simp
theorem mostU_zero (U : List Nat) : mostU U 0 = 0 := by
  apply Nat.eq_of_testBit_eq
  intro i
  rw [mostU, gather_bit, mostG]; simp
theorem inU_yes {n : Nat} {x : Int} (h : subI x ((2 ^ n - 1 : Nat) : Int) = true) : inU n x = x.toNat ∧ 0 ≤ x := by
  have h2 := h
  simp only [subI, ok, Bool.and_eq_true, decide_eq_true_eq] at h2
  exact ⟨by rw [inU, if_pos h], h2.1.1.1⟩
theorem inU_no {n : Nat} {x : Int} (h : subI x ((2 ^ n - 1 : Nat) : Int) = false) : inU n x = 0 := by rw [inU, if_neg (by simp [h])]
theorem inU_nat {n s : Nat} (hn : n ≤ 8) (h : s < 2 ^ n) : inU n (s : Int) = s := by
  have hp := pow8 hn
  have hs : sub s (2 ^ n - 1) = true := by
    rw [sub_iff]
    intro k hk
    rw [Nat.testBit_two_pow_sub_one]
    have := Nat.ge_two_pow_of_testBit hk
    simp only [decide_eq_true_eq]
    by_cases hkn : k < n
    · exact hkn
    · have := Nat.pow_le_pow_right (n := 2) (by decide) (Nat.le_of_not_lt hkn); omega
  have h1 : ok (s : Int) = true := by simp [ok]; omega
  have h2 : ok ((2 ^ n - 1 : Nat) : Int) = true := by simp [ok]; omega
  have : subI (s : Int) ((2 ^ n - 1 : Nat) : Int) = true := by simp only [subI, h1, h2, Int.toNat_natCast, hs]; rfl
  exact (inU_yes this).1
end Go.Proofs.Yteaccmneblhoaaa.sortg
