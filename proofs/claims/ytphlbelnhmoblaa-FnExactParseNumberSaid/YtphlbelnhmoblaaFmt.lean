/-
  CONTRACTS OF THE TWO FormatInt.
-/
import Derived.Test.YtphlbelnhmoblaaDec
import Derived.Test.YtphlbelnhmoblaaMem
namespace Go.Proofs.Ytphlbelnhmoblaa.fmt
open Go.ChangeShapes Go.WideShapes Go.ChangeAt Go.RowKit
open dec mem

/-- impl.countDigits -/
theorem count_any (n : Nat) (hn : n < 18446744073709551616) (w : World) :
    Calls Try.prog 26 #[.int .u64 n] w fun e w' => e = .returned (.int .i64 (dig n).length) ∧ w = w' := by
  go_enter Try.func26, Try.ntmps26
  go_wp2
  go_loop [0, 3] (fun v c => ∃ m k : Nat, m ≤ n ∧ v = .int .u64 m ∧ c = .int .i64 k ∧ k + (dig m).length = (dig n).length + 1 ∧ k ≤ 20) (fun v _ => (intOf v).toNat)
  case atStart => exact ⟨n, 1, Nat.le_refl _, rfl, rfl, by omega, by omega⟩
  case round =>
    obtain ⟨m, k, hmn, rfl, rfl, hk, hk20⟩ := hrel
    have h20 := dig_le64 hn
    by_cases hlt : m < 10
    · have h1 : (dig m).length = 1 := by rw [dig_lt hlt]; rfl
      have H : Hid (k = (dig n).length) := Lib.hid (by omega)
      clear hk h1
      go_wp2
      go_ret
      exact ⟨ret_int (by rw [H.out]), rfl⟩
    · have hd := dig_len hlt
      have hp := dig_pos (m / 10)
      have H : Hid ((k + 1) + (dig (m / 10)).length = (dig n).length + 1 ∧ k + 1 ≤ 20) := Lib.hid (by omega)
      clear hk hd
      go_wp2
      go_round
      case rel => exact ⟨m / 10, k + 1, by omega, by go_num, by go_num, H.out.1, H.out.2⟩
      case measure => simp [intOf]; omega

theorem info_u8 : (Try.prog.info? 5).map (fun i => (i.zero, i.size, i.bytes)) = some (some (.int .u8 0), 1, 1) := by kernel_rfl

/-- impl.formatDigits -/
theorem digits_any (n : Nat) (hn : n < 18446744073709551616) (w : World) :
    Calls Try.prog 19 #[.int .u64 n] w fun e w' => e = .returned (.string (bstr (dig n))) ∧ Below w.heap.size w w' := by
  have h20 := dig_le64 hn
  have hp := dig_pos n
  obtain ⟨i0, hi, hz0, hz1, hz2⟩ := info_parts info_u8
  go_enter Try.func19, Try.ntmps19
  go_wp2_with (first | (go_at_call 26; refine (count_any n hn _).mono ?_; rintro e w' ⟨rfl, rfl⟩) | (at_make; refine wpList_make_full _ rfl _ _ 22 rfl w.heap.size 5 i0 (.int .u8 0) 1 Try.underlying22 hi hz0 hz1 _ _ _ _ (dig n).length rfl rfl rfl rfl (by rw [hz2]; omega) (by unfold maxLen; omega) (Nat.le_refl _) ?_))
  intro w1 hown hgrow
  go_wp2
  go_loopw [0, 11] (fun v i wr => ∃ m k : Nat, k ≤ (dig n).length ∧ m < 18446744073709551616 ∧ i = .int .i64 k ∧ v = .int .u64 m ∧ Head n k m ∧ wr.ownsRow w.heap.size 5 1 (.slice (some ⟨w.heap.size, 0, none⟩) (dig n).length (dig n).length) (dig n).length (u8s (laid n k)) ∧ Below w.heap.size w wr)
    (fun _ i _ => (dig n).length - (intOf i).toNat)
  case atStart => exact ⟨n, 0, Nat.zero_le _, hn, rfl, rfl, head_zero n, by rw [laid_zero]; rw [← made_u8]; simpa [Value.cells] using hown, (Below.refl _ _).grown hgrow (Nat.le_refl _) (by intro k h; cases h)⟩
  case round =>
    obtain ⟨m, k, hk, hm, rfl, rfl, hhead, hown, hbel⟩ := hrel
    by_cases hlt : k < (dig n).length
    · obtain ⟨v0, hc⟩ : ∃ v0, wr.cell? ⟨w.heap.size, (dig n).length - 1 - k, none⟩ = some v0 := by
        rw [hown.cellAt ((dig n).length - 1 - k) (by omega)]
        exact ⟨_, List.getElem?_eq_getElem (by simp [u8s, laid_len]; omega)⟩
      have hf := hown.frozenAt ((dig n).length - 1 - k)
      have H : Hid (Head n (k + 1) (m / 10)) := Lib.hid (head_succ hhead hlt)
      have hd := head_digit hhead hlt
      have H2 : Hid ((wr.setCell ⟨w.heap.size, (dig n).length - 1 - k, none⟩ (.int .u8 (48 + (m : Int) % 10))).ownsRow w.heap.size 5 1 (.slice (some ⟨w.heap.size, 0, none⟩) (dig n).length (dig n).length) (dig n).length (u8s (laid n (k + 1)))) := by
        have h := setCell_own hown ((dig n).length - 1 - k) (.int .u8 (48 + (m : Int) % 10))
        rw [laid_succ n k hlt, hd]
        have e : u8s ((laid n k).set ((dig n).length - 1 - k) (dg m)) = (u8s (laid n k)).set ((dig n).length - 1 - k) (.int .u8 (48 + (m : Int) % 10)) := by
          simp only [u8s, List.map_set]
          rw [dg_nat]
        rw [e]
        exact h
      clear hd
      go_wp2
      go_roundw
      case rel => exact ⟨m / 10, k + 1, by omega, by omega, by go_num, by go_num, H.out, H2.out, hbel.setCell (Nat.le_refl _) _⟩
      case measure => simp [intOf]; omega
    · obtain rfl : k = (dig n).length := by omega
      rw [laid_all] at hown
      have hconv := run_str_own (P := Try.prog) (dst := 9) Try.underlying22 Try.underlying5 Try.underlying9 hown
      go_wp2
      go_ret
      exact ⟨rfl, hbel⟩

/-- spec.FormatInt -/
theorem spec_any (n : Int) (h1 : -9223372036854775808 ≤ n) (h2 : n ≤ 9223372036854775807) (w : World) :
    Calls Try.prog 27 #[.int .i64 n] w fun e w' => e = .returned (.string (bstr (dec.fmt n))) ∧ Below w.heap.size w w' := by
  by_cases h0 : n = 0
  · subst h0
    have e0 : bstr (dec.fmt 0) = { data := #[48] } := by simp [dec.fmt, dig_lt, bstr, dg]
    go_enter Try.func27, Try.ntmps27
    go_wp2
    go_ret
    exact ⟨ret_str e0.symm, Below.refl _ _⟩
  · have h20 : (dig n.natAbs).length ≤ 20 := dig_le64 (by omega)
    by_cases hneg : n < 0
    · have efmt : Hid (dec.fmt n = 45 :: dig n.natAbs) := Lib.hid (by simp [dec.fmt, hneg])
      go_enter Try.func27, Try.ntmps27
      go_wp2
      go_loopw [0, 4] (fun v s wr => ∃ (m : Nat) (o : List UInt8), m ≤ 9223372036854775808 ∧ v = .int .i64 (-(m : Int)) ∧ s = .string (bstr o) ∧ Tail n.natAbs m o ∧ Below w.heap.size w wr)
        (fun v _ _ => (intOf v).natAbs)
      case atStart => exact ⟨n.natAbs, [], by omega, by go_num, rfl, tail_start (by omega), Below.refl _ _⟩
      case round =>
        obtain ⟨m, o, hm, rfl, rfl, htail, hbel⟩ := hrel
        have hol := Nat.le_trans (tail_len htail) h20
        have hsz : (bstr o).size ≤ 20 := by rw [bstr_size]; exact hol
        by_cases hc : m = 0
        · subst hc
          have H : Hid (o = dig n.natAbs) := Lib.hid (htail.1 rfl)
          go_wp2
          go_ret
          exact ⟨ret_str (by rw [efmt.out, ← H.out, bstr_cons]), hbel⟩
        · have H := Lib.hid (tail_step htail (by omega))
          have htd : (-(m : Int)).tdiv 10 = -((m : Int) / 10) := by
            rw [Int.neg_tdiv, Int.tdiv_eq_ediv_of_nonneg (by omega)]
          by_cases hz : m % 10 = 0
          · have ht : (-(m : Int)).tmod 10 = 0 := by
              rw [Int.neg_tmod, Int.tmod_eq_emod_of_nonneg (by omega)]; omega
            have hcv := run_str_one (P := Try.prog) wr (t := 5) (dst := 9) Try.underlying22 Try.underlying5 Try.underlying9 48 (dg m) (by rw [dg_nat]; omega)
            have hs2 : (bstr [dg m]).size ≤ 1 := Nat.le_refl _
            clear hz htail hol
            go_wp2
            go_roundw
            case rel => exact ⟨m / 10, _, by omega, by go_num, by rw [bstr_append], H.out, hbel.alloc hbel.size _⟩
            case measure => simp [intOf]; omega
          · have ht : (-(m : Int)).tmod 10 = -((m : Int) % 10) := by
              rw [Int.neg_tmod, Int.tmod_eq_emod_of_nonneg (by omega)]
            have hz' : 0 < (m : Int) % 10 := by omega
            have hcv := run_str_one (P := Try.prog) wr (t := 5) (dst := 9) Try.underlying22 Try.underlying5 Try.underlying9 (48 + (m : Int) % 10) (dg m) (by rw [dg_nat])
            have hs2 : (bstr [dg m]).size ≤ 1 := Nat.le_refl _
            clear hz htail hol
            go_wp2
            go_roundw
            case rel => exact ⟨m / 10, _, by omega, by go_num, by rw [bstr_append], H.out, hbel.alloc hbel.size _⟩
            case measure => simp [intOf]; omega
    · have efmt : Hid (dec.fmt n = dig n.natAbs) := Lib.hid (by simp [dec.fmt, hneg])
      go_enter Try.func27, Try.ntmps27
      go_wp2
      go_loopw [0, 4] (fun v s wr => ∃ (m : Nat) (o : List UInt8), m ≤ 9223372036854775807 ∧ v = .int .i64 (m : Int) ∧ s = .string (bstr o) ∧ Tail n.natAbs m o ∧ Below w.heap.size w wr)
        (fun v _ _ => (intOf v).natAbs)
      case atStart => exact ⟨n.natAbs, [], by omega, by go_num, rfl, tail_start (by omega), Below.refl _ _⟩
      case round =>
        obtain ⟨m, o, hm, rfl, rfl, htail, hbel⟩ := hrel
        have hol := Nat.le_trans (tail_len htail) h20
        have hsz : (bstr o).size ≤ 20 := by rw [bstr_size]; exact hol
        by_cases hc : m = 0
        · subst hc
          have H : Hid (o = dig n.natAbs) := Lib.hid (htail.1 rfl)
          go_wp2
          go_ret
          exact ⟨ret_str (by rw [efmt.out, ← H.out]), hbel⟩
        · have H := Lib.hid (tail_step htail (by omega))
          have hcv := run_str_one (P := Try.prog) wr (t := 5) (dst := 9) Try.underlying22 Try.underlying5 Try.underlying9 (48 + (m : Int) % 10) (dg m) (by rw [dg_nat])
          have hs2 : (bstr [dg m]).size ≤ 1 := Nat.le_refl _
          clear htail hol
          go_wp2
          go_roundw
          case rel => exact ⟨m / 10, _, by omega, by go_num, by rw [bstr_append], H.out, hbel.alloc hbel.size _⟩
          case measure => simp [intOf]; omega

/-- impl.FormatInt -/
theorem impl_any (n : Int) (h1 : -9223372036854775808 ≤ n) (h2 : n ≤ 9223372036854775807) (w : World) :
    Calls Try.prog 9 #[.int .i64 n] w fun e w' => e = .returned (.string (bstr (dec.fmt n))) ∧ Below w.heap.size w w' := by
  have h20 : (dig n.natAbs).length ≤ 20 := dig_le64 (by omega)
  have hsz : (bstr (dig n.natAbs)).size ≤ 20 := by rw [bstr_size]; exact h20
  by_cases hneg : n < 0
  · have efmt : Hid (dec.fmt n = 45 :: dig n.natAbs) := Lib.hid (by simp [dec.fmt, hneg])
    go_enter Try.func9, Try.ntmps9
    have hw : IntKind.u64.wrap (-IntKind.u64.wrap n) = (n.natAbs : Int) := by simp [IntKind.wrap, IntKind.signed, IntKind.bits]; omega
    go_wp2_with (first | (go_at_call 19; refine (digits_any n.natAbs (by omega) _).mono ?_; rintro e w1 ⟨rfl, hb⟩))
    go_ret
    exact ⟨ret_str (by rw [efmt.out, bstr_cons]), hb⟩
  · have efmt : Hid (dec.fmt n = dig n.natAbs) := Lib.hid (by simp [dec.fmt, hneg])
    obtain ⟨m, rfl⟩ : ∃ m : Nat, n = m := ⟨n.natAbs, by omega⟩
    go_enter Try.func9, Try.ntmps9
    go_wp2_with (first | (go_at_call 19; refine (digits_any m (by omega) _).mono ?_; rintro e w1 ⟨rfl, hb⟩))
    go_ret
    exact ⟨ret_str (by rw [efmt.out]; rfl), hb⟩
end Go.Proofs.Ytphlbelnhmoblaa.fmt
