/-
  THE WALK OF FnDecimals.
-/
import Derived.Test.YtphlbelnhmoblaaDraw
import Derived.Test.YtphlbelnhmoblaaParse
import Derived.Test.YtphlbelnhmoblaaJoin
namespace Go.Proofs.Ytphlbelnhmoblaa.fnDecimals
open Go.ChangeShapes Go.WideShapes Go.ChangeAt Go.RowKit
open dec mem split join draw

theorem num_fmt (n : Int) : body (dec.fmt n) = dig n.natAbs ∧ num (dec.fmt n) = n := by
  have hd := dig_isDig n.natAbs
  have hv := dig_val n.natAbs
  have hp := dig_pos n.natAbs
  by_cases hn : n < 0
  · have e : dec.fmt n = 45 :: dig n.natAbs := by simp [dec.fmt, hn]
    rw [e]
    have h1 := read.body_cons_neg (dig n.natAbs)
    refine ⟨h1.1, ?_⟩
    rw [h1.2, hv]; omega
  · have e : dec.fmt n = dig n.natAbs := by simp [dec.fmt, hn]
    rw [e]
    cases hl : dig n.natAbs with
    | nil => rw [hl] at hp; simp at hp
    | cons b t =>
      have hb : b ≠ 45 := by
        rintro rfl
        rw [hl] at hd
        simp [isDig, isD] at hd
      have h1 := read.body_cons_pos b t hb
      rw [hl] at hv
      refine ⟨h1.1, ?_⟩
      rw [h1.2, hv]; omega
theorem reads_fmt (n : Int) (lim : Nat) : reads (dec.fmt n) lim = decide (n.natAbs ≤ lim) ∧ (n.natAbs ≤ lim → dec.out (dec.fmt n) lim = n) := by
  obtain ⟨h1, h2⟩ := num_fmt n
  have hr : reads (dec.fmt n) lim = decide (n.natAbs ≤ lim) := by
    unfold reads
    rw [h1, h2, dig_isDig, dig_val]
    simp
  refine ⟨hr, fun h => ?_⟩
  have : reads (dec.fmt n) lim = true := by rw [hr]; simpa using h
  simp [dec.out, this, h2]
theorem fmt_len (n : Int) (h : n.natAbs ≤ 9223372036854775808) : (dec.fmt n).length ≤ maxLen := by
  have := dig_le64 (n := n.natAbs) (by omega)
  unfold dec.fmt maxLen
  split <;> simp <;> omega

theorem jk_cons (c x : List UInt8) (R : List (List UInt8)) (k : Nat) : jk c (x :: R) (k + 1) = x ++ (if 0 < k then c else []) ++ jk c R k := by
  induction k with
  | zero => simp [jk]
  | succ k ih =>
    rw [jk, ih]
    by_cases hk : 0 < k
    · simp [jk, hk]
    · have : k = 0 := by omega
      subst this
      simp [jk]
theorem join_split (c : UInt8) (l : List UInt8) : jk [c] (split c l) (split c l).length = l := by
  induction l with
  | nil => simp [split, jk]
  | cons b t ih =>
    have hne := split_ne c t
    by_cases hb : b = c
    · subst hb
      have e : split b (b :: t) = [] :: split b t := by simp [split]
      rw [e, List.length_cons, jk_cons, ih]
      have : 0 < (split b t).length := by cases h : split b t with | nil => exact absurd h hne | cons _ _ => simp
      simp [this]
    · have e : split c (b :: t) = pre [b] (split c t) := by simp [split, hb]
      rw [e]
      cases h : split c t with
      | nil => exact absurd h hne
      | cons x r =>
        rw [h, List.length_cons, jk_cons] at ih
        simp only [pre, List.length_cons]
        rw [jk_cons]
        rw [← ih]
        simp
theorem part_le (c : List UInt8) (P : List (List UInt8)) (k : Nat) (hk : k < P.length) : (P.getD k []).length ≤ (jk c P P.length).length := by
  refine Nat.le_trans ?_ (jk_le c P (k + 1) P.length hk)
  simp [jk]; omega
theorem small_split (c : UInt8) (l : List UInt8) (hl : l.length ≤ 1000) : Small (split c l) := by
  refine ⟨by have := split_le c l; omega, fun k hk => ?_⟩
  have := part_le [c] (split c l) k hk
  rw [join_split] at this
  omega
theorem outJ_split (c : UInt8) (l : List UInt8) (hl : l.length ≤ 1000) : outJ [c] (split c l) = l := by
  rw [(ok_yes (by rw [join_split]; omega)).2, join_split]
theorem count_split (c : UInt8) (l : List UInt8) : (split c l).length = l.count c + 1 := by
  induction l with
  | nil => simp [split]
  | cons b t ih =>
    by_cases hb : b = c
    · subst hb
      simp [split, ih]
    · have e : split c (b :: t) = pre [b] (split c t) := by simp [split, hb]
      rw [e, List.count_cons_of_ne hb, ← ih]
      cases h : split c t with
      | nil => exact absurd h (split_ne c t)
      | cons x r => simp [pre]
theorem count_take (c : UInt8) (l : List UInt8) (k : Nat) (hk : k < l.length) : (l.take (k + 1)).count c = (l.take k).count c + if l.getD k 0 = c then 1 else 0 := by
  rw [take_snoc l k hk, List.count_append]
  by_cases h : l.getD k 0 = c
  · rw [if_pos h, h]; simp
  · rw [if_neg h]
    generalize l.getD k 0 = z at h ⊢
    simp [h]

theorem walk {H : Type} {enc : TypeId × Value → H} {W : World} {base : Nat} {v : Value} {d : DataW H} {p : List MemPlace}
    (hval : Value.okWide Try.prog W .any base 22 v) (hd : DataW.Trod enc Try.prog W 0 (fun _ => true) true 22 v d p) (_hlt : ∀ x ∈ p, x.block < W.heap.size) :
    Calls Try.prog 3 #[v] W fun e w' => e = .returned (.bool true) ∧ Below W.heap.size W w' := by
  obtain ⟨A, n, cap, rfl, hn, hcode⟩ := code_open hval hd
  clear hval hd _hlt
  have HCODE := Lib.hid hcode
  clear hcode
  by_cases hbig : 1048576 < n
  · have CB := Lib.hid (big_any (A := A) (cap := cap) hn W)
    have hd : decide (1048576 < n) = true := by simpa using hbig
    rw [hd] at CB
    clear hd
    go_enter Try.func3, Try.ntmps3
    go_wp2_with fail
    refine CB.out.mono ?_; rintro e w1 ⟨rfl, rfl⟩
    go_wp2
    go_ret
    exact ⟨rfl, Below.refl _ _⟩
  · have CB := Lib.hid (big_any (A := A) (cap := cap) hn W)
    have hd : decide (1048576 < n) = false := by simpa using hbig
    rw [hd] at CB
    clear hd
    have HC := Lib.hid (HCODE.out (by omega))
    clear HCODE
    go_enter Try.func3, Try.ntmps3
    go_wp2_with fail
    refine CB.out.mono ?_; rintro e w1 ⟨rfl, rfl⟩
    clear CB
    go_wp2_with fail
    refine (drawFormatInt_any HC.out _ (Below.refl _ _)).mono ?_; rintro e w1 ⟨x, rfl, hx0, hx1, hb1⟩
    go_wp2_with fail
    refine (fmt.impl_any x hx0 hx1 _).mono ?_; rintro e w2 ⟨rfl, hb2⟩
    go_wp2_with fail
    refine (read.implInt_any (dec.fmt x) (fmt_len x (by omega)) _).mono ?_; rintro e w3 ⟨rfl, hb3⟩
    have hb13 := (hb1.trans (hb2.mono hb1.size)).trans (hb3.mono (Nat.le_trans hb1.size hb2.size))
    clear hb1 hb2 hb3
    obtain ⟨hr, ho⟩ := reads_fmt x 999999999999
    rw [hr]
    have HO := Lib.hid ho
    clear ho hr
    by_cases hin : x.natAbs ≤ 999999999999
    · have hdec : decide (x.natAbs ≤ 999999999999) = true := by simpa using hin
      rw [hdec, HO.out hin]
      clear hdec HO
      have h1 : -999999999999 ≤ x := by omega
      have h2 : x ≤ 999999999999 := by omega
      clear hin
      go_wp2_with fail
      refine (drawSplitByte_any HC.out _ hb13).mono ?_; rintro e w4 ⟨l, c, rfl, hl, hb4⟩
      have hb14 := hb13.trans (hb4.mono hb13.size)
      clear hb4 hb13
      go_wp2_with fail
      refine (split.impl_any l (by omega) c _).mono ?_; rintro e w5 ⟨v5, rfl, hown, hb5⟩
      have hb15 := hb14.trans (hb5.mono hb14.size)
      have HH := Lib.hid (Has.of_own hown)
      have HO5 := Lib.hid hown
      clear hb5 hb14
      obtain ⟨A5, cap5, rfl, hcap5⟩ := own_slice hown
      clear hown
      have hsz := bstr_size l
      go_wp2
      go_loop [9, 10] (fun cnt i => ∃ k : Nat, k ≤ l.length ∧ i = .int .i64 k ∧ cnt = .int .i64 (((l.take k).count c + 1 : Nat) : Int) ∧ (l.take k).count c ≤ k) (fun _ i => l.length - (intOf i).toNat)
      case atStart => exact ⟨0, Nat.zero_le _, rfl, by simp, by simp⟩
      case round =>
        obtain ⟨k, hk, rfl, rfl, hck⟩ := hrel
        by_cases hlt : k < l.length
        · have hidx : ∀ w : World, (Instr.index 9 (.string (bstr l)) (.int .i64 (k : Int))).run Try.prog w = .ok (.int .u8 ((l.getD k 0).toNat : Int)) w := fun w => run_index_bstr w Try.underlying9 hlt
          have hct := count_take c l k hlt
          by_cases hb : l.getD k 0 = c
          · rw [if_pos hb] at hct
            rw [hb] at hidx
            have HCT := Lib.hid hct
            clear hct hb
            go_wp2
            go_round
            case rel => exact ⟨k + 1, by omega, by go_num, (by have := HCT.out; go_num), by have := HCT.out; omega⟩
            case measure => simp [intOf]; omega
          · rw [if_neg hb] at hct
            have hne : (((l.getD k 0).toNat : Int) == (c.toNat : Int)) = false := by
              have : (l.getD k 0).toNat ≠ c.toNat := fun h => hb (UInt8.toNat_inj.1 h)
              simp only [beq_eq_false_iff_ne, ne_eq, Int.natCast_inj]; exact this
            obtain ⟨b, hbb⟩ : ∃ b, b = l.getD k 0 := ⟨_, rfl⟩
            rw [← hbb] at hidx hne
            have HCT := Lib.hid hct
            clear hct hb hbb
            go_wp2
            go_round
            case rel => exact ⟨k + 1, by omega, by go_num, (by have := HCT.out; go_num), by have := HCT.out; omega⟩
            case measure => simp [intOf]; omega
        · obtain rfl : k = l.length := by omega
          have hcs := count_split c l
          rw [List.take_length]
          rw [List.take_length] at hck
          have hcnt : (((split c l).length : Int) == ((l.count c : Int) + 1)) = true := by rw [hcs]; simp
          have HCS := Lib.hid hcs
          have HJ := Lib.hid (outJ_split c l hl)
          have HSM := Lib.hid (small_split c l hl)
          clear hcs
          have hcv := run_str_one (P := Try.prog) w5 (t := 5) (dst := 9) Try.underlying22 Try.underlying5 Try.underlying9 (c.toNat : Int) c rfl
          go_wp2_with fail
          refine (join.impl_any [c] (by simp) _ HSM.out _ _ (HH.out.below (Nat.le_refl _) ((Below.refl _ _).alloc (Nat.le_refl _) _))).mono ?_; rintro e w6 ⟨rfl, hb6⟩
          rw [HJ.out]
          have hb16 := (hb15.alloc hb15.size (.cells #[Value.int IntKind.u8 (c.toNat : Int)] 5)).trans (hb6.mono (by have := hb15.size; simp; omega))
          go_wp2
          go_ret
          exact ⟨rfl, hb16⟩
    · have hdec : decide (x.natAbs ≤ 999999999999) = false := by simpa using hin
      rw [hdec]
      clear hdec HO
      obtain ⟨y, hy⟩ : ∃ y, y = dec.out (dec.fmt x) 999999999999 := ⟨_, rfl⟩
      rw [← hy]
      clear hy
      by_cases h1 : x < -999999999999
      · clear hin
        go_wp2_with fail
        refine (drawSplitByte_any HC.out _ hb13).mono ?_; rintro e w4 ⟨l, c, rfl, hl, hb4⟩
        have hb14 := hb13.trans (hb4.mono hb13.size)
        clear hb4 hb13
        go_wp2_with fail
        refine (split.impl_any l (by omega) c _).mono ?_; rintro e w5 ⟨v5, rfl, hown, hb5⟩
        have hb15 := hb14.trans (hb5.mono hb14.size)
        have HH := Lib.hid (Has.of_own hown)
        have HO5 := Lib.hid hown
        clear hb5 hb14
        obtain ⟨A5, cap5, rfl, hcap5⟩ := own_slice hown
        clear hown
        have hsz := bstr_size l
        go_wp2
        go_loop [9, 10] (fun cnt i => ∃ k : Nat, k ≤ l.length ∧ i = .int .i64 k ∧ cnt = .int .i64 (((l.take k).count c + 1 : Nat) : Int) ∧ (l.take k).count c ≤ k) (fun _ i => l.length - (intOf i).toNat)
        case atStart => exact ⟨0, Nat.zero_le _, rfl, by simp, by simp⟩
        case round =>
          obtain ⟨k, hk, rfl, rfl, hck⟩ := hrel
          by_cases hlt : k < l.length
          · have hidx : ∀ w : World, (Instr.index 9 (.string (bstr l)) (.int .i64 (k : Int))).run Try.prog w = .ok (.int .u8 ((l.getD k 0).toNat : Int)) w := fun w => run_index_bstr w Try.underlying9 hlt
            have hct := count_take c l k hlt
            by_cases hb : l.getD k 0 = c
            · rw [if_pos hb] at hct
              rw [hb] at hidx
              have HCT := Lib.hid hct
              clear hct hb
              go_wp2
              go_round
              case rel => exact ⟨k + 1, by omega, by go_num, (by have := HCT.out; go_num), by have := HCT.out; omega⟩
              case measure => simp [intOf]; omega
            · rw [if_neg hb] at hct
              have hne : (((l.getD k 0).toNat : Int) == (c.toNat : Int)) = false := by
                have : (l.getD k 0).toNat ≠ c.toNat := fun h => hb (UInt8.toNat_inj.1 h)
                simp only [beq_eq_false_iff_ne, ne_eq, Int.natCast_inj]; exact this
              obtain ⟨b, hbb⟩ : ∃ b, b = l.getD k 0 := ⟨_, rfl⟩
              rw [← hbb] at hidx hne
              have HCT := Lib.hid hct
              clear hct hb hbb
              go_wp2
              go_round
              case rel => exact ⟨k + 1, by omega, by go_num, (by have := HCT.out; go_num), by have := HCT.out; omega⟩
              case measure => simp [intOf]; omega
          · obtain rfl : k = l.length := by omega
            have hcs := count_split c l
            rw [List.take_length]
            rw [List.take_length] at hck
            have hcnt : (((split c l).length : Int) == ((l.count c : Int) + 1)) = true := by rw [hcs]; simp
            have HCS := Lib.hid hcs
            have HJ := Lib.hid (outJ_split c l hl)
            have HSM := Lib.hid (small_split c l hl)
            clear hcs
            have hcv := run_str_one (P := Try.prog) w5 (t := 5) (dst := 9) Try.underlying22 Try.underlying5 Try.underlying9 (c.toNat : Int) c rfl
            go_wp2_with fail
            refine (join.impl_any [c] (by simp) _ HSM.out _ _ (HH.out.below (Nat.le_refl _) ((Below.refl _ _).alloc (Nat.le_refl _) _))).mono ?_; rintro e w6 ⟨rfl, hb6⟩
            rw [HJ.out]
            have hb16 := (hb15.alloc hb15.size (.cells #[Value.int IntKind.u8 (c.toNat : Int)] 5)).trans (hb6.mono (by have := hb15.size; simp; omega))
            go_wp2
            go_ret
            exact ⟨rfl, hb16⟩
      · have h2 : 999999999999 < x := by omega
        clear hin
        go_wp2_with fail
        refine (drawSplitByte_any HC.out _ hb13).mono ?_; rintro e w4 ⟨l, c, rfl, hl, hb4⟩
        have hb14 := hb13.trans (hb4.mono hb13.size)
        clear hb4 hb13
        go_wp2_with fail
        refine (split.impl_any l (by omega) c _).mono ?_; rintro e w5 ⟨v5, rfl, hown, hb5⟩
        have hb15 := hb14.trans (hb5.mono hb14.size)
        have HH := Lib.hid (Has.of_own hown)
        have HO5 := Lib.hid hown
        clear hb5 hb14
        obtain ⟨A5, cap5, rfl, hcap5⟩ := own_slice hown
        clear hown
        have hsz := bstr_size l
        go_wp2
        go_loop [9, 10] (fun cnt i => ∃ k : Nat, k ≤ l.length ∧ i = .int .i64 k ∧ cnt = .int .i64 (((l.take k).count c + 1 : Nat) : Int) ∧ (l.take k).count c ≤ k) (fun _ i => l.length - (intOf i).toNat)
        case atStart => exact ⟨0, Nat.zero_le _, rfl, by simp, by simp⟩
        case round =>
          obtain ⟨k, hk, rfl, rfl, hck⟩ := hrel
          by_cases hlt : k < l.length
          · have hidx : ∀ w : World, (Instr.index 9 (.string (bstr l)) (.int .i64 (k : Int))).run Try.prog w = .ok (.int .u8 ((l.getD k 0).toNat : Int)) w := fun w => run_index_bstr w Try.underlying9 hlt
            have hct := count_take c l k hlt
            by_cases hb : l.getD k 0 = c
            · rw [if_pos hb] at hct
              rw [hb] at hidx
              have HCT := Lib.hid hct
              clear hct hb
              go_wp2
              go_round
              case rel => exact ⟨k + 1, by omega, by go_num, (by have := HCT.out; go_num), by have := HCT.out; omega⟩
              case measure => simp [intOf]; omega
            · rw [if_neg hb] at hct
              have hne : (((l.getD k 0).toNat : Int) == (c.toNat : Int)) = false := by
                have : (l.getD k 0).toNat ≠ c.toNat := fun h => hb (UInt8.toNat_inj.1 h)
                simp only [beq_eq_false_iff_ne, ne_eq, Int.natCast_inj]; exact this
              obtain ⟨b, hbb⟩ : ∃ b, b = l.getD k 0 := ⟨_, rfl⟩
              rw [← hbb] at hidx hne
              have HCT := Lib.hid hct
              clear hct hb hbb
              go_wp2
              go_round
              case rel => exact ⟨k + 1, by omega, by go_num, (by have := HCT.out; go_num), by have := HCT.out; omega⟩
              case measure => simp [intOf]; omega
          · obtain rfl : k = l.length := by omega
            have hcs := count_split c l
            rw [List.take_length]
            rw [List.take_length] at hck
            have hcnt : (((split c l).length : Int) == ((l.count c : Int) + 1)) = true := by rw [hcs]; simp
            have HCS := Lib.hid hcs
            have HJ := Lib.hid (outJ_split c l hl)
            have HSM := Lib.hid (small_split c l hl)
            clear hcs
            have hcv := run_str_one (P := Try.prog) w5 (t := 5) (dst := 9) Try.underlying22 Try.underlying5 Try.underlying9 (c.toNat : Int) c rfl
            go_wp2_with fail
            refine (join.impl_any [c] (by simp) _ HSM.out _ _ (HH.out.below (Nat.le_refl _) ((Below.refl _ _).alloc (Nat.le_refl _) _))).mono ?_; rintro e w6 ⟨rfl, hb6⟩
            rw [HJ.out]
            have hb16 := (hb15.alloc hb15.size (.cells #[Value.int IntKind.u8 (c.toNat : Int)] 5)).trans (hb6.mono (by have := hb15.size; simp; omega))
            go_wp2
            go_ret
            exact ⟨rfl, hb16⟩
end Go.Proofs.Ytphlbelnhmoblaa.fnDecimals
