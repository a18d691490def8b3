/-
  THE WALK OF FnSets, and the draws of sets.
-/
import Derived.Test.YtpgdcmapheioiaaIntl
import Derived.Test.YtpgdcmapheioiaaDraw
namespace Go.Proofs.Ytpgdcmapheioiaa.fnSets
open Go.ChangeShapes Go.WideShapes Go.ChangeAt Go.RowKit
open mem setm sets intl draw

/-- what a drawn set is: an int of 64 bits -/
def In64 (x : Int) : Prop := -9223372036854775808 ≤ x ∧ x ≤ 9223372036854775807

/-- spec.l2Draw -/
theorem l2Draw_any {B n g : Nat} {W0 : World} {v : Value} (hcode : draw.Code B W0 v n) (w : World) (h : Cur B W0 v n g w) :
    Calls Try.prog 24 #[.pointer (some ⟨g, 0, none⟩)] w fun e w' => ∃ x : Int, e = .returned (.int .i64 x) ∧ -9223372036854775808 ≤ x ∧ x ≤ 9223372036854775807 ∧ Step B W0 v n g w w' := by
  have HC := Lib.hid h
  have CO := Lib.hid (fun m hm hm2 W hW => once_any (g := g) hcode m hm hm2 W hW)
  have CP := Lib.hid (fun L hL m hm0 hm u base hgb W hW hown => pickInt_any (g := g) hcode L hL m hm0 hm u base hgb W hW hown)
  have CB := Lib.hid (fun m hm0 hm W hW => below_any (g := g) hcode m hm0 hm W hW)
  clear h hcode
  go_enter Try.func24, Try.ntmps24
  go_wp2_with fail
  refine (CO.out 12 (by omega) (by omega) _ HC.out).mono ?_; rintro e w1 ⟨x, rfl, hs⟩
  have HS := Lib.hid hs
  clear hs
  cases x with
  | true =>
    go_wp2_with fail
    have hlt := HS.out.1.lt
    have HA : Hid (Step B W0 v n g w (w1.alloc (.cells #[Value.int IntKind.i64 (-1), Value.int IntKind.i64 65535, Value.int IntKind.i64 65536, Value.int IntKind.i64 1099511627776, Value.int IntKind.i64 (-9223372036854775808)] 3))) := Lib.hid (HS.out.alloc _)
    refine (CP.out [-1, 65535, 65536, 1099511627776, -9223372036854775808] (by decide) 5 (by omega) (by omega) _ w1.heap.size hlt.2 _ HA.out.1 (World.ownsRow_lit _ _ 5 (Nat.le_refl _) (by unfold maxLen; omega) rfl)).mono ?_; rintro e w2 ⟨y, rfl, hy, hs2⟩
    have HS2 := Lib.hid (HA.out.trans hs2)
    have hy2 : ∀ x ∈ ([-1, 65535, 65536, 1099511627776, -9223372036854775808] : List Int), -9223372036854775808 ≤ x ∧ x ≤ 9223372036854775807 := by decide
    obtain ⟨hy0, hy1⟩ := hy2 y hy
    clear hs2 hy hy2
    go_wp2
    go_ret
    exact ⟨_, rfl, hy0, hy1, HS2.out⟩
  | false =>
    go_wp2_with fail
    refine (CB.out 256 (by omega) (by omega) _ HS.out.1).mono ?_; rintro e w2 ⟨y, rfl, hy0, hy1, hs2⟩
    have HS2 := Lib.hid (HS.out.trans hs2)
    clear hs2
    go_wp2_with fail
    refine (CB.out 3 (by omega) (by omega) _ HS2.out.1).mono ?_; rintro e w3 ⟨z, rfl, hz0, hz1, hs3⟩
    have HS3 := Lib.hid (HS2.out.trans hs3)
    clear hs3
    go_wp2
    go_ret
    exact ⟨_, rfl, by omega, by omega, HS3.out⟩

theorem and_in (a b : Int) : -9223372036854775808 ≤ bits .and .i64 a b ∧ bits .and .i64 a b ≤ 9223372036854775807 := by
  unfold bits
  simp only [IntKind.wrap_i64]
  omega
/-- spec.DrawIsSubset -/
theorem drawIsSubset_any {n : Nat} {W0 : World} {v : Value} (hcode : draw.Code W0.heap.size W0 v n) (w : World) (hb : Below W0.heap.size W0 w) :
    Calls Try.prog 9 #[v] w fun e w' => ∃ a b : Int, e = .returned (.tuple #[.int .i64 a, .int .i64 b]) ∧ In64 a ∧ In64 b ∧ Below w.heap.size w w' := by
  have CN := Lib.hid (new_any hcode w hb hb.size)
  have CO := Lib.hid (fun g m hm hm2 W hW => once_any (g := g) hcode m hm hm2 W hW)
  have CD := Lib.hid (fun g W hW => l2Draw_any (g := g) hcode W hW)
  obtain ⟨A, cap, rfl, hx⟩ := hcode
  clear hx
  go_enter Try.func9, Try.ntmps9
  go_wp2_with fail
  refine CN.out.mono ?_; rintro e w1 ⟨g, rfl, hg, hc, hb1⟩
  have HC := Lib.hid hc
  clear hc
  go_wp2_with fail
  refine (CD.out g _ HC.out).mono ?_; rintro e w2 ⟨a, rfl, ha0, ha1, hs⟩
  have HS := Lib.hid hs
  clear hs
  go_wp2_with fail
  refine (CO.out g 2 (by omega) (by omega) _ HS.out.1).mono ?_; rintro e w3 ⟨x, rfl, hs⟩
  have HS3 := Lib.hid (HS.out.trans hs)
  clear hs
  cases x with
  | true =>
    go_wp2_with fail
    refine (CD.out g _ HS3.out.1).mono ?_; rintro e w4 ⟨b, rfl, hb0, hb11, hs⟩
    have HS4 := Lib.hid (HS3.out.trans hs)
    have HI := Lib.hid (and_in a b)
    clear hs
    go_wp2
    go_ret2
    exact ⟨_, _, rfl, HI.out, ⟨ha0, ha1⟩, hb1.trans (HS4.out.below hg hb1.size)⟩
  | false =>
    go_wp2_with fail
    refine (CD.out g _ HS3.out.1).mono ?_; rintro e w4 ⟨b, rfl, hb0, hb11, hs⟩
    have HS4 := Lib.hid (HS3.out.trans hs)
    clear hs
    go_wp2
    go_ret2
    exact ⟨_, _, rfl, ⟨ha0, ha1⟩, ⟨hb0, hb11⟩, hb1.trans (HS4.out.below hg hb1.size)⟩

/-- are all of these in b? -/
def allIn (b : Int) (L : List Int) : Bool := L.all fun x => hasI b x
theorem allIn_take (b : Int) (L : List Int) (k : Nat) (h : k < L.length) : allIn b (L.take (k + 1)) = (allIn b (L.take k) && hasI b (L.getD k 0)) := by
  rw [takeI L k h]; simp [allIn]
theorem sub_all (a b : Int) : subI a b = (ok a && ok b && allIn b (listOf a)) := by
  unfold subI
  cases ha : ok a with
  | false => rfl
  | true =>
    cases hb : ok b with
    | false => rfl
    | true =>
      simp only [Bool.true_and]
      obtain ⟨s, rfl, hs⟩ : ∃ s : Nat, a = (s : Int) ∧ s < 65536 := by
        unfold ok at ha; simp only [decide_eq_true_eq] at ha
        exact ⟨a.toNat, by omega, by omega⟩
      obtain ⟨t, rfl, ht⟩ : ∃ s : Nat, b = (s : Int) ∧ s < 65536 := by
        unfold ok at hb; simp only [decide_eq_true_eq] at hb
        exact ⟨b.toNat, by omega, by omega⟩
      rw [listOf_ok hs, Bool.eq_iff_iff, sub_iff]
      simp only [Int.toNat_natCast, allIn, nats, List.all_map, List.all_eq_true, Function.comp]
      constructor
      · intro h k hk
        have hk2 := mem_els.1 hk
        rw [show Int.ofNat k = (k : Int) from rfl, hasI_nat t k hk2.1]
        exact h k hk2.2
      · intro h k hk
        have hk16 : k < 16 := by
          apply Nat.lt_of_not_le
          intro hge
          rw [bit_high hs hge] at hk
          exact absurd hk (by decide)
        have := h k (mem_els.2 ⟨hk16, hk⟩)
        rw [show Int.ofNat k = (k : Int) from rfl, hasI_nat t k hk16] at this
        exact this
theorem setOf_listOf (a : Int) : okL (listOf a) = true ∧ (ok a = true → (setOf (listOf a) : Int) = a) := by
  cases ha : ok a with
  | false => rw [listOf_no ha]; exact ⟨rfl, fun h => by cases h⟩
  | true =>
    obtain ⟨s, rfl, hs⟩ : ∃ s : Nat, a = (s : Int) ∧ s < 65536 := by
      unfold ok at ha; simp only [decide_eq_true_eq] at ha
      exact ⟨a.toNat, by omega, by omega⟩
    have h := sumL_els hs
    rw [listOf_ok hs]
    refine ⟨h.2, fun _ => ?_⟩
    unfold setOf
    rw [if_pos h.2, h.1]
theorem ok_cases (a : Int) : (ok a = true ∧ 0 ≤ a ∧ a < 65536) ∨ (ok a = false ∧ a < 0) ∨ (ok a = false ∧ 0 ≤ a ∧ 65536 ≤ a) := by
  unfold ok
  simp only [decide_eq_true_eq, decide_eq_false_iff_not]
  omega

/-- the loop and what follows it -/
theorem walk {H : Type} {enc : TypeId × Value → H} {W : World} {base : Nat} {v : Value} {d : DataW H} {p : List MemPlace}
    (hval : Value.okWide Try.prog W .any base 22 v) (hd : DataW.Trod enc Try.prog W 0 (fun _ => true) true 22 v d p) (_hlt : ∀ x ∈ p, x.block < W.heap.size) :
    Calls Try.prog 3 #[v] W fun e w' => e = .returned (.bool true) ∧ Below W.heap.size W w' := by
  obtain ⟨A, n, cap, rfl, hn, hcode⟩ := code_open hval hd
  clear hval hd _hlt
  have HCODE := Lib.hid hcode
  clear hcode
  by_cases hbig : 1048576 < n
  · have CB := Lib.hid (big_any (A := A) (cap := cap) hn W)
    have hd : decide (1048576 < n) = true := by simpa using hbig
    rw [hd] at CB
    clear hd
    go_enter Try.func3, Try.ntmps3
    go_wp2_with fail
    refine CB.out.mono ?_; rintro e w1 ⟨rfl, rfl⟩
    go_wp2
    go_ret
    exact ⟨rfl, Below.refl _ _⟩
  · have CB := Lib.hid (big_any (A := A) (cap := cap) hn W)
    have hd : decide (1048576 < n) = false := by simpa using hbig
    rw [hd] at CB
    clear hd
    have HC := Lib.hid (HCODE.out (by omega))
    clear HCODE
    go_enter Try.func3, Try.ntmps3
    go_wp2_with fail
    refine CB.out.mono ?_; rintro e w1 ⟨rfl, rfl⟩
    clear CB
    go_wp2_with fail
    refine (drawIsSubset_any HC.out _ (Below.refl _ _)).mono ?_; rintro e w1 ⟨a, b, rfl, ha, hb, hb1⟩
    have CL := Lib.hid (fun W => iList_any a W)
    have CC := Lib.hid (fun W => iCount_any a W)
    have CI := Lib.hid (fun r hr W => iSub_any a b r hr W)
    have HSA := Lib.hid (sub_all a b)
    have HSL := Lib.hid (setOf_listOf a)
    have hle := listOf_len a
    obtain ⟨L, hL⟩ : ∃ L, L = listOf a := ⟨_, rfl⟩
    rw [← hL] at CL CC HSA HSL hle
    clear hL HC ha hb hbig
    go_wp2_with fail
    refine (CL.out _).mono ?_; rintro e w2 ⟨v2, rfl, hown, hb2⟩
    obtain ⟨A2, cap2, rfl, hcap2⟩ := own_slice hown
    have HH := Lib.hid (Has.of_own hown)
    have hb12 := hb1.trans (hb2.mono hb1.size)
    clear hown hb1 hb2 CL
    go_wp2_with fail
    refine (iSet_any L _ _ HH.out).mono ?_; rintro e w2 ⟨rfl, rfl⟩
    rw [HSL.out.1]
    obtain ⟨S, hS⟩ : ∃ S : Int, S = (setOf L : Int) := ⟨_, rfl⟩
    rw [← hS] at HSL ⊢
    clear hS
    rcases ok_cases a with ⟨hok, h0, h1⟩ | ⟨hok, h0⟩ | ⟨hok, h0, h1⟩
    · have hSa : S = a := HSL.out.2 hok
      subst hSa
      have HOK := Lib.hid hok
      clear hok HSL
      have d0 : decide (0 ≤ S) = true := by simpa using h0
      have d1 : decide (S < 65536) = true := by simpa using h1
      go_wp2_with fail
      refine (CC.out _).mono ?_; rintro e w3 ⟨rfl, hb3⟩
      have HH3 := Lib.hid (HH.out.below (Nat.le_refl _) hb3)
      have hb13 := hb12.trans (hb3.mono hb12.size)
      clear HH hb12 hb3
      rcases ok_cases b with ⟨hokb, g0, g1⟩ | ⟨hokb, g0⟩ | ⟨hokb, g0, g1⟩
      · have e0 : decide (0 ≤ b) = true := by simpa using g0
        have e1 : decide (b < 65536) = true := by simpa using g1
        have HR : Hid (subI S b = allIn b L) := Lib.hid (by rw [HSA.out, HOK.out, hokb]; rfl)
        clear hokb
        go_wp2
        go_loop [8, 9] (fun s i => ∃ k : Nat, k ≤ L.length ∧ i = .int .i64 k ∧ s = .bool (allIn b (L.take k))) (fun _ i => L.length - (intOf i).toNat)
        case atStart => exact ⟨0, Nat.zero_le _, rfl, rfl⟩
        case round =>
          obtain ⟨k, hk, rfl, rfl⟩ := hrel
          by_cases hlt : k < L.length
          · obtain ⟨gl, o, rfl, hgl, hcell⟩ := HH3.out.cellAt hlt
            rw [ivs_get L k hlt] at hcell
            have HT := Lib.hid (allIn_take b L k hlt)
            obtain ⟨x, hx⟩ : ∃ x, x = L.getD k 0 := ⟨_, rfl⟩
            rw [← hx] at hcell HT
            clear hx
            cases hq : allIn b (L.take k) with
            | true =>
              obtain ⟨r, hr⟩ : ∃ r, hasI b x = r := ⟨_, rfl⟩
              have HT2 : Hid (allIn b (L.take (k + 1)) = r) := Lib.hid (by rw [HT.out, hq, hr]; rfl)
              have CM := Lib.hid (fun W => member_any b x r hr W)
              clear HT hr hq
              go_wp2_with (go_at_call 13; refine (CM.out _).mono ?_; rintro e w4 ⟨rfl, rfl⟩)
              go_round
              case rel => exact ⟨k + 1, by omega, by go_num, by rw [HT2.out]⟩
              case measure => simp [intOf]; omega
            | false =>
              have HT2 : Hid (allIn b (L.take (k + 1)) = false) := Lib.hid (by rw [HT.out, hq]; rfl)
              clear HT hq
              go_wp2
              go_round
              case rel => exact ⟨k + 1, by omega, by go_num, by rw [HT2.out]⟩
              case measure => simp [intOf]; omega
          · obtain rfl : k = L.length := by omega
            rw [List.take_length]
            obtain ⟨r, hr⟩ : ∃ r, r = allIn b L := ⟨_, rfl⟩
            have CI2 := Lib.hid (fun W => CI.out r (by rw [HR.out, hr]) W)
            rw [← hr]
            clear hr HR
            go_wp2_with (go_at_call 14; refine (CI2.out _).mono ?_; rintro e w4 ⟨rfl, rfl⟩)
            go_ret
            exact ⟨ret_bool (by simp), hb13⟩
      all_goals
        have HR : Hid (subI S b = false) := Lib.hid (by rw [HSA.out, hokb]; simp)
        first | (have e0 : decide (0 ≤ b) = false := by simpa using g0) | (have e0 : decide (0 ≤ b) = true := by simpa using g0)
        first | (have e1 : decide (b < 65536) = false := by simpa using g1) | skip
        clear hokb
        go_wp2
        go_loop [8, 9] (fun s i => ∃ k : Nat, k ≤ L.length ∧ i = .int .i64 k ∧ s = .bool false) (fun _ i => L.length - (intOf i).toNat)
        case atStart => exact ⟨0, Nat.zero_le _, rfl, rfl⟩
        case round =>
          obtain ⟨k, hk, rfl, rfl⟩ := hrel
          by_cases hlt : k < L.length
          · go_wp2
            go_round
            case rel => exact ⟨k + 1, by omega, by go_num, rfl⟩
            case measure => simp [intOf]; omega
          · obtain rfl : k = L.length := by omega
            go_wp2_with (go_at_call 14; refine (CI.out false HR.out _).mono ?_; rintro e w4 ⟨rfl, rfl⟩)
            go_ret
            exact ⟨rfl, hb13⟩
    all_goals
      have HR : Hid (subI a b = false) := Lib.hid (by rw [HSA.out, hok]; rfl)
      first | (have e0 : decide (0 ≤ a) = false := by simpa using h0) | (have e0 : decide (0 ≤ a) = true := by simpa using h0)
      first | (have e1 : decide (a < 65536) = false := by simpa using h1) | skip
      clear hok HSL
      go_wp2_with fail
      refine (CC.out _).mono ?_; rintro e w3 ⟨rfl, hb3⟩
      have HH3 := Lib.hid (HH.out.below (Nat.le_refl _) hb3)
      have hb13 := hb12.trans (hb3.mono hb12.size)
      clear HH hb12 hb3
      go_wp2
      go_loop [8, 9] (fun s i => ∃ k : Nat, k ≤ L.length ∧ i = .int .i64 k ∧ s = .bool false) (fun _ i => L.length - (intOf i).toNat)
      case atStart => exact ⟨0, Nat.zero_le _, rfl, rfl⟩
      case round =>
        obtain ⟨k, hk, rfl, rfl⟩ := hrel
        by_cases hlt : k < L.length
        · go_wp2
          go_round
          case rel => exact ⟨k + 1, by omega, by go_num, rfl⟩
          case measure => simp [intOf]; omega
        · obtain rfl : k = L.length := by omega
          go_wp2_with (go_at_call 14; refine (CI.out false HR.out _).mono ?_; rintro e w4 ⟨rfl, rfl⟩)
          go_ret
          exact ⟨rfl, hb13⟩
end Go.Proofs.Ytpgdcmapheioiaa.fnSets
