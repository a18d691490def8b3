/-
  THE MODEL's FUNCTIONS OF SORTS: AboveSort, BelowSort, KindOfSort, LeastSorts, GreatestSorts, CommonSorts.
-/
import Derived.Test.YtjejdcehlckfhaaGreatSorts
namespace Go.Proofs.YtjejdcehlckfhaaGreat.sortg
open Go.ChangeShapes Go.WideShapes Go.ChangeAt Go.RowKit
open mem split strl subs sortn setm sets sortm sortp sorti sortf sortu sorts

/-- what a valid argument gives -/
theorem ok_facts {P : List (List UInt8)} {Q : List (Int × Int)} (h : okS P Q = true) :
    1 ≤ P.length ∧ P.length ≤ 8 ∧ PIn P.length Q ∧ Q.length ≤ 16 ∧ ordU P Q = clo P.length (prs Q) ∧ (ordU P Q).length = P.length := by
  obtain ⟨h1, h2, h3, h4, _⟩ := okS_parts h
  exact ⟨h1, h2, h3, h4, ordU_yes h, by rw [ordU_len, if_pos h]⟩
theorem ok_ne {P : List (List UInt8)} {Q : List (Int × Int)} (h : okS P Q = true) : ∀ p ∈ Q, p.1 ≠ p.2 := by
  simp only [okS, subsOk, subOk, Bool.and_eq_true, List.all_eq_true, decide_eq_true_eq] at h
  intro p hp
  exact (h.1.2.2 p hp).2
theorem gather_small {f : Nat → Bool} {j : Nat} (h : j ≤ 8) : gather f j < 65536 := Nat.lt_of_lt_of_le (gather_lt f j) (Nat.le_trans (pow8 h) (by decide))
theorem all_range_succ (f : Nat → Bool) (k : Nat) : (List.range (k + 1)).all f = ((List.range k).all f && f k) := by
  rw [List.range_succ, List.all_append]; simp
theorem all_range_bad (f : Nat → Bool) (n k : Nat) (hk : k < n) (h : f k = false) : (List.range n).all f = false := by
  simp only [List.all_eq_false]
  exact ⟨k, by simpa using hk, by simp [h]⟩
theorem leastU_zero (U : List Nat) : leastU U 0 = 0 := by
  apply Nat.eq_of_testBit_eq
  intro i
  rw [leastU, gather_bit, leastG]; simp
theorem mostU_zero (U : List Nat) : mostU U 0 = 0 := by
  apply Nat.eq_of_testBit_eq
  intro i
  rw [mostU, gather_bit, mostG]; simp
theorem inU_yes {n : Nat} {x : Int} (h : subI x ((2 ^ n - 1 : Nat) : Int) = true) : inU n x = x.toNat ∧ 0 ≤ x := by
  have h2 := h
  simp only [subI, ok, Bool.and_eq_true, decide_eq_true_eq] at h2
  exact ⟨by rw [inU, if_pos h], h2.1.1.1⟩
theorem inU_no {n : Nat} {x : Int} (h : subI x ((2 ^ n - 1 : Nat) : Int) = false) : inU n x = 0 := by rw [inU, if_neg (by simp [h])]
theorem inU_nat {n s : Nat} (hn : n ≤ 8) (h : s < 2 ^ n) : inU n (s : Int) = s := by
  have hp := pow8 hn
  have hs : sub s (2 ^ n - 1) = true := by
    rw [sub_iff]
    intro k hk
    rw [Nat.testBit_two_pow_sub_one]
    have := Nat.ge_two_pow_of_testBit hk
    simp only [decide_eq_true_eq]
    by_cases hkn : k < n
    · exact hkn
    · have := Nat.pow_le_pow_right (n := 2) (by decide) (Nat.le_of_not_lt hkn); omega
  have h1 : ok (s : Int) = true := by simp [ok]; omega
  have h2 : ok ((2 ^ n - 1 : Nat) : Int) = true := by simp [ok]; omega
  have : subI (s : Int) ((2 ^ n - 1 : Nat) : Int) = true := by simp only [subI, h1, h2, Int.toNat_natCast, hs]; rfl
  exact (inU_yes this).1
set_option maxHeartbeats 4000000 in
/-- spec.LeastSorts -/
theorem sLeast_any (P : List (List UInt8)) (Q : List (Int × Int)) (va vb : Value) (x : Int) (w : World) (h : HasS w va vb P Q) :
    Calls Tryz.prog 46 #[.agg #[va, vb], .int .i64 x] w fun e w' => e = .returned (.int .i64 ((leastI P Q x : Nat) : Int)) ∧ Below w.heap.size w w' := by
  obtain ⟨A, ca, B, cb, rfl, rfl, hla, hlb, h'⟩ := h.shape
  have HH := Lib.hid h'
  clear h h'
  cases hok : okS P Q with
  | false =>
    have HQ : Hid (leastI P Q x = 0) := Lib.hid (by rw [leastI, ordU_no hok]; rfl)
    have HS := Lib.hid (fun W hW => sIsSorts_any P Q _ _ false hok W (HH.out.below (Nat.le_refl _) hW))
    clear hok
    go_enter Tryz.func46, Tryz.ntmps46
    go_wp2_with (go_at_call 92; refine (HS.out _ ((Below.refl _ _).alloc (Nat.le_refl _) _)).mono ?_; rintro e w1 ⟨rfl, hb1⟩)
    go_ret
    exact ⟨ret_int (by rw [HQ.out]; rfl), ((Below.refl _ _).alloc (Nat.le_refl _) _).trans (hb1.mono (by simp))⟩
  | true =>
    have HS := Lib.hid (fun W hW => sIsSorts_any P Q _ _ true hok W (HH.out.below (Nat.le_refl _) hW))
    obtain ⟨p1, p2, p3, p4, p5, p6⟩ := ok_facts hok
    have hin1 := inU_lt p2 x
    have HLQ : Hid (leastI P Q x = leastU (clo P.length (prs Q)) (inU P.length x)) := Lib.hid (by rw [leastI, p6, p5])
    have HBIT := Lib.hid (fun W => l2Bit_any P.length (by omega) W)
    have hcl := clo_len P.length (prs Q)
    have HUP := Lib.hid (fun W hW => l3Up_any P Q p1 p2 (by omega) p3 _ _ W (HH.out.below (Nat.le_refl _) hW))
    have HLT : Hid (∀ i, (clo P.length (prs Q)).getD i 0 < 65536) := Lib.hid (fun i => by have := clo_lt p3.inR i; have := pow8 p2; omega)
    obtain ⟨n, hn⟩ : ∃ n, n = P.length := ⟨_, rfl⟩
    rw [← hn] at HS hla HUP HLT HBIT HLQ hin1 hcl p1 p2 ⊢
    obtain ⟨U, hU⟩ : ∃ U, U = clo n (prs Q) := ⟨_, rfl⟩
    rw [← hU] at HUP HLQ HLT hcl
    have HN := Lib.hid hn
    have hp8 := pow8 p2
    have hp1 := Nat.two_pow_pos n
    have HSUBM := Lib.hid (fun h => inU_yes (n := n) (x := x) h)
    have HSUBN := Lib.hid (fun h => inU_no (n := n) (x := x) h)
    have hzc : ((2 ^ n - 1 : Nat) : Int) = ((2 ^ n : Nat) : Int) - 1 := by omega
    rw [hzc] at HSUBM HSUBN
    obtain ⟨z, hz⟩ : ∃ z, z = 2 ^ n := ⟨_, rfl⟩
    rw [← hz] at HSUBM HSUBN HBIT hp8 hp1 hin1
    clear hok p3 p5 p6 hn hU hzc hz
    cases hsub : subI x ((z : Int) - 1) with
    | false =>
      have HSU := Lib.hid hsub
      have HQ : Hid (leastI P Q x = 0) := Lib.hid (by rw [HLQ.out, HSUBN.out hsub, leastU_zero])
      clear hsub
      go_enter Tryz.func46, Tryz.ntmps46
      go_wp2_with (first
        | (go_at_call 92; refine (HS.out _ ((Below.refl _ _).alloc (Nat.le_refl _) _)).mono ?_; rintro e w1 ⟨rfl, hb1⟩
           have c0 : w1.cell? ⟨w.heap.size, 0, none⟩ = some (.slice A n ca) := by rw [hb1.cell (p := ⟨w.heap.size, 0, none⟩) (by simp)]; simp)
        | (go_at_call 94; refine (HBIT.out _).mono ?_; rintro e w2 ⟨rfl, rfl⟩)
        | (go_at_call 93; refine (sSub_any _ _ _ HSU.out _).mono ?_; rintro e w2 ⟨rfl, rfl⟩))
      go_ret
      exact ⟨ret_int (by rw [HQ.out]; rfl), ((Below.refl _ _).alloc (Nat.le_refl _) _).trans (hb1.mono (by simp))⟩
    | true =>
      have HSU := Lib.hid hsub
      obtain ⟨hxs, hx0⟩ := HSUBM.out hsub
      obtain ⟨S, rfl⟩ : ∃ S : Nat, x = (S : Int) := ⟨x.toNat, by omega⟩
      rw [Int.toNat_natCast] at hxs
      rw [hxs] at HLQ hin1
      have HQ : Hid (leastI P Q (S : Int) = gather (leastG U S) n) := Lib.hid (by rw [HLQ.out, leastU, hcl])
      have HCL := Lib.hid hcl
      have hS16 : S < 65536 := by omega
      clear hsub hxs hx0 hcl hin1
      go_enter Tryz.func46, Tryz.ntmps46
      go_wp2_with (first
        | (go_at_call 92; refine (HS.out _ ((Below.refl _ _).alloc (Nat.le_refl _) _)).mono ?_; rintro e w1 ⟨rfl, hb1⟩
           have c0 : w1.cell? ⟨w.heap.size, 0, none⟩ = some (.slice A n ca) := by rw [hb1.cell (p := ⟨w.heap.size, 0, none⟩) (by simp)]; simp
           have c1 : w1.cell? ⟨w.heap.size, 1, none⟩ = some (.slice B Q.length cb) := by rw [hb1.cell (p := ⟨w.heap.size, 1, none⟩) (by simp)]; simp
           have hbw : Below w.heap.size w w1 := ((Below.refl _ _).alloc (Nat.le_refl _) _).trans (hb1.mono (by simp))
           clear hb1)
        | (go_at_call 94; refine (HBIT.out _).mono ?_; rintro e w2 ⟨rfl, rfl⟩)
        | (go_at_call 93; refine (sSub_any _ _ _ HSU.out _).mono ?_; rintro e w2 ⟨rfl, rfl⟩)
        | (go_at_call 77; refine (HUP.out _ hbw).mono ?_; rintro e w2 ⟨uv, rfl, hown, hb2⟩
           obtain ⟨gu, cu, rfl, hgu, hgs⟩ := own_shape hown (by intro e; have := hown.1; rw [e] at this; simp at this; omega)
           have HOWN := Lib.hid hown
           clear hown c0 c1))
      clear hgs hgu
      go_loop [5, 7] (fun s i => ∃ j : Nat, j ≤ n ∧ i = .int .i64 j ∧ s = .int .i64 ((gather (leastG U S) j : Nat) : Int)) (fun _ i => n - (intOf i).toNat)
      case atStart => exact ⟨0, Nat.zero_le _, rfl, rfl⟩
      case round =>
        obtain ⟨j, hj, rfl, rfl⟩ := hrel
        by_cases hlt : j < n
        · obtain ⟨dj, _⟩ := in_cell HOWN.out hlt
          have HGH : Hid (leastG U S j = true → gather (leastG U S) (j + 1) = gather (leastG U S) j ||| 2 ^ j) := Lib.hid (fun h => gather_hit (f := leastG U S) h)
          have HGM : Hid (leastG U S j = false → gather (leastG U S) (j + 1) = gather (leastG U S) j) := Lib.hid (fun h => gather_miss (f := leastG U S) h)
          have hGl : gather (leastG U S) j < 65536 := gather_small (by omega)
          have HI1 := Lib.hid (hasI_nat S j (by omega))
          have HBJ := Lib.hid (fun W => l2Bit_any j (by omega) W)
          have hpj : 2 ^ j < 65536 := pow_lt (by omega)
          obtain ⟨y, hy⟩ : ∃ y, y = 2 ^ j := ⟨_, rfl⟩
          rw [← hy] at HBJ HGH hpj
          obtain ⟨G, hG⟩ : ∃ G, G = gather (leastG U S) j := ⟨_, rfl⟩
          rw [← hG] at hGl HGH HGM ⊢
          have hor := or_i64 G y hGl hpj
          have HLG : Hid (leastG U S j = (S.testBit j && (List.range n).all (leastF U S j))) := Lib.hid (by rw [leastG, HCL.out])
          obtain ⟨sj, hsj⟩ : ∃ sj, sj = S.testBit j := ⟨_, rfl⟩
          rw [← hsj] at HLG HI1
          clear hG hy hsj
          go_wp2_with (go_at_call 91; refine (l2Has_any _ _ _ HI1.out _).mono ?_; rintro e w3 ⟨rfl, rfl⟩)
          go_loop [8, 9] (fun b i => ∃ k : Nat, k ≤ n ∧ i = .int .i64 k ∧ ∃ bb : Bool, b = .bool bb ∧ Hid (bb = (sj && (List.range k).all (leastF U S j)))) (fun _ i => n - (intOf i).toNat)
          case atStart => exact ⟨0, Nat.zero_le _, rfl, _, rfl, Lib.hid (by simp)⟩
          case round =>
            obtain ⟨k, hk, rfl, bb, rfl, HBB⟩ := hrel
            by_cases hlt2 : k < n
            · obtain ⟨dk, _⟩ := in_cell HOWN.out hlt2
              have HAS := Lib.hid (all_range_succ (leastF U S j) k)
              have HFD : Hid (leastF U S j k = (k == j || !S.testBit k || !(U.getD k 0).testBit j)) := Lib.hid rfl
              have HI2 := Lib.hid (hasI_nat S k (by omega))
              have HI3 := Lib.hid (hasI_nat (U.getD k 0) j (by omega))
              obtain ⟨u, hu⟩ : ∃ u, u = U.getD k 0 := ⟨_, rfl⟩
              rw [← hu] at dk HFD HI3
              clear hu
              cases bb with
              | false =>
                have HB2 : Hid (false = (sj && (List.range (k + 1)).all (leastF U S j))) := Lib.hid (by rw [HAS.out, ← Bool.and_assoc, ← HBB.out]; rfl)
                go_wp2
                go_round
                case rel => exact ⟨k + 1, by omega, by go_num, _, rfl, HB2⟩
                case measure => simp [intOf]; omega
              | true =>
                have HB3 : Hid (∀ c, leastF U S j k = c → c = (sj && (List.range (k + 1)).all (leastF U S j))) := Lib.hid (fun c hc => by rw [HAS.out, ← Bool.and_assoc, ← HBB.out, hc]; simp)
                by_cases hkj : k = j
                · have HB2 := Lib.hid (HB3.out true (by rw [HFD.out, hkj]; simp))
                  have he : ((k : Int) == (j : Int)) = true := by rw [hkj]; simp
                  clear hkj
                  go_wp2
                  go_round
                  case rel => exact ⟨k + 1, by omega, by go_num, _, rfl, HB2⟩
                  case measure => simp [intOf]; omega
                · have hkjb : (k == j) = false := by simpa using hkj
                  have HKJ := Lib.hid hkjb
                  have he : ((k : Int) == (j : Int)) = false := by simp; omega
                  clear hkj hkjb
                  cases h1 : S.testBit k with
                  | false =>
                    have HD : Hid (hasI S k = false) := Lib.hid (HI2.out.trans h1)
                    have HB2 := Lib.hid (HB3.out true (by rw [HFD.out, h1]; simp))
                    clear h1
                    go_wp2_with (go_at_call 91; refine (l2Has_any _ _ _ HD.out _).mono ?_; rintro e w3 ⟨rfl, rfl⟩)
                    go_round
                    case rel => exact ⟨k + 1, by omega, by go_num, _, rfl, HB2⟩
                    case measure => simp [intOf]; omega
                  | true =>
                    have HD : Hid (hasI S k = true) := Lib.hid (HI2.out.trans h1)
                    cases h2 : u.testBit j with
                    | false =>
                      have HD2 : Hid (hasI u j = false) := Lib.hid (HI3.out.trans h2)
                      have HB2 := Lib.hid (HB3.out true (by rw [HFD.out, h2]; simp))
                      clear h1 h2
                      go_wp2_with (go_at_call 91; refine (l2Has_any _ _ _ (by first | exact HD.out | exact HD2.out) _).mono ?_; rintro e w3 ⟨rfl, rfl⟩)
                      go_round
                      case rel => exact ⟨k + 1, by omega, by go_num, _, rfl, HB2⟩
                      case measure => simp [intOf]; omega
                    | true =>
                      have HD2 : Hid (hasI u j = true) := Lib.hid (HI3.out.trans h2)
                      have HB2 := Lib.hid (HB3.out false (by rw [HFD.out, h1, h2, HKJ.out]; rfl))
                      clear h1 h2
                      go_wp2_with (go_at_call 91; refine (l2Has_any _ _ _ (by first | exact HD.out | exact HD2.out) _).mono ?_; rintro e w3 ⟨rfl, rfl⟩)
                      go_round
                      case rel => exact ⟨k + 1, by omega, by go_num, _, rfl, HB2⟩
                      case measure => simp [intOf]; omega
            · obtain rfl : k = n := by omega
              cases bb with
              | true =>
                have HE := Lib.hid (HGH.out (HLG.out.trans HBB.out.symm))
                go_wp2_with (go_at_call 94; refine (HBJ.out _).mono ?_; rintro e w3 ⟨rfl, rfl⟩)
                go_round
                case rel => exact ⟨j + 1, by omega, by go_num, by rw [HE.out]⟩
                case measure => simp [intOf]; omega
              | false =>
                have HE := Lib.hid (HGM.out (HLG.out.trans HBB.out.symm))
                go_wp2
                go_round
                case rel => exact ⟨j + 1, by omega, by go_num, by rw [HE.out]⟩
                case measure => simp [intOf]; omega
        · obtain rfl : j = n := by omega
          go_wp2
          go_ret
          exact ⟨ret_int (by rw [HQ.out]), hbw.trans (hb2.mono hbw.size)⟩
end Go.Proofs.YtjejdcehlckfhaaGreat.sortg
