/-
  CONTRACTS OF THE FUNCTIONS OF SETS OF SMALL NUMBERS, the program's and the model's.
-/
import Derived.Test.YtjejdcehlckfhaaGreatSetm
import Derived.OwnWalk
import Derived.Deep.QuietTactic
import Derived.BigQuiet
import Derived.Lib.Tables
namespace Go.Proofs.YtjejdcehlckfhaaGreat.sets
open Go.ChangeShapes Go.WideShapes Go.ChangeAt Go.RowKit
open mem setm

theorem ret_tup {a b : Int} {c d : Bool} (h : a = b) (h' : c = d) : Ending.returned (.tuple #[.int .i64 a, .bool c]) = .returned (.tuple #[.int .i64 b, .bool d]) := by rw [h, h']

theorem info_int : (Tryz.prog.info? 3).map (fun i => (i.zero, i.size, i.bytes)) = some (some (.int .i64 0), 1, 8) := by kernel_rfl

/-- numberSet.has -/
theorem nhas_any (s k : Nat) (hs : s < 65536) (hk : k < 16) (b : Bool) (hb : s.testBit k = b) (w : World) :
    Calls Tryz.prog 97 #[.int .u16 (s : Int), .int .i64 (k : Int)] w fun e w' => e = .returned (.bool b) ∧ w = w' := by
  subst hb
  have H : Hid ((bits .and .u16 ((s : Int) / 2 ^ k) 1 == 1) = s.testBit k) := Lib.hid (by
    have e : (s : Int) / 2 ^ k = ((s / 2 ^ k : Nat) : Int) := by simp
    have hl : s / 2 ^ k < 65536 := Nat.lt_of_le_of_lt (Nat.div_le_self _ _) hs
    rw [← bit_div, e]
    have := and_u16 (s / 2 ^ k) 1 hl (by decide)
    rw [show ((1 : Nat) : Int) = 1 from rfl] at this
    rw [this, Nat.and_one_is_mod, Bool.eq_iff_iff]
    simp)
  go_enter Tryz.func97, Tryz.ntmps97
  go_wp2
  go_ret
  exact ⟨ret_bool (by rw [← H.out]; try simp), rfl⟩
/-- numberSet.with -/
theorem nwith_any (s k : Nat) (hs : s < 65536) (hk : k < 16) (w : World) :
    Calls Tryz.prog 95 #[.int .u16 (s : Int), .int .i64 (k : Int)] w fun e w' => e = .returned (.int .u16 ((s ||| 2 ^ k : Nat) : Int)) ∧ w = w' := by
  have H : Hid (bits .or .u16 (s : Int) (IntKind.u16.wrap (2 ^ k)) = ((s ||| 2 ^ k : Nat) : Int)) := Lib.hid (by
    have e : (2 : Int) ^ k = ((2 ^ k : Nat) : Int) := by simp
    have hl := pow_lt hk
    rw [e, wraps_u16 _ (Int.natCast_nonneg _) (by exact_mod_cast hl), or_u16 s (2 ^ k) hs hl])
  go_enter Tryz.func95, Tryz.ntmps95
  go_wp2
  go_ret
  exact ⟨ret_int (by rw [← H.out]; try simp), rfl⟩
theorem pop_els (s : Nat) : (elsTo s 16).length = (elsTo (s / 256) 8).length + (elsTo (s % 256) 8).length := by
  have h : ∀ k, k ≤ 8 → (elsTo s (8 + k)).length = (elsTo s 8).length + (elsTo (s / 256) k).length := by
    intro k
    induction k with
    | zero => intro _; simp [elsTo]
    | succ k ih =>
      intro hk
      rw [← Nat.add_assoc, elsTo_succ s (8 + k), elsTo_succ (s / 256) k, List.length_append, List.length_append, ih (by omega)]
      have : s.testBit (8 + k) = (s / 256).testBit k := by
        rw [show (256 : Nat) = 2 ^ 8 from rfl, ← Nat.shiftRight_eq_div_pow, Nat.testBit_shiftRight]
      rw [this]
      split <;> simp <;> omega
  have h2 : elsTo s 8 = elsTo (s % 256) 8 := by
    unfold elsTo
    apply List.filter_congr
    intro k hk
    rw [show (256 : Nat) = 2 ^ 8 from rfl, Nat.testBit_mod_two_pow]
    simp at hk
    simp [hk]
  rw [h 8 (by omega), ← h2]
  omega
theorem pop8_els : ∀ n : Fin 256, Lib.pop8 (n.val : Int) = ((elsTo n.val 8).length : Int) := by decide +kernel
theorem pop8_of (n : Nat) (h : n < 256) : Lib.pop8 (n : Int) = ((elsTo n 8).length : Int) := pop8_els ⟨n, h⟩

/-- math/bits.OnesCount16 -/
theorem ones_any (s : Nat) (hs : s < 65536) (w : World) :
    Calls Tryz.prog 96 #[.int .u16 (s : Int)] w fun e w' => e = .returned (.int .i64 ((els s).length : Int)) ∧ ∃ n, w' = w.drewN n := by
  have h1 : bits .and .u16 (s : Int) 255 = (s : Int) % 256 := bits_mask .u16 16 (by decide) wraps_u16 8 (by decide) s (Int.natCast_nonneg _) (by exact_mod_cast hs)
  have HP := Lib.hid (pop_els s)
  have hd : (s : Int) / 256 = ((s / 256 : Nat) : Int) := by simp
  have hm : (s : Int) % 256 = ((s % 256 : Nat) : Int) := by simp
  have p1 := pop8_of (s / 256) (by omega)
  have p2 := pop8_of (s % 256) (by omega)
  have l1 := elsTo_len (s / 256) 8
  have l2 := elsTo_len (s % 256) 8
  rw [← hd] at p1
  rw [← hm] at p2
  have P1 := Lib.hid p1
  have P2 := Lib.hid p2
  have b1 : 0 ≤ Lib.pop8 ((s : Int) / 256) := by omega
  have b2 : 0 ≤ Lib.pop8 ((s : Int) % 256) := by omega
  have b3 : Lib.pop8 ((s : Int) / 256) ≤ 8 := by omega
  have b4 : Lib.pop8 ((s : Int) % 256) ≤ 8 := by omega
  clear hd hm p1 p2 l1 l2
  go_enter Tryz.func96, Tryz.ntmps96
  go_wp2
  generalize hC : (ByteArray.mk _) = C
  have hC2 : C = Lib.pop8tab := by rw [← hC]; rfl
  clear hC
  subst hC2
  have i1 : ∀ w : World, (Instr.index 9 (.string Lib.pop8tab) (.int .u16 ((s : Int) / 256))).run Tryz.prog w = .ok (.int .u8 (Lib.pop8 ((s : Int) / 256))) w := fun w => Lib.run_index_pop8tab w _ _ _ Tryz.underlying9 (by omega) (by omega)
  have i2 : ∀ w : World, (Instr.index 9 (.string Lib.pop8tab) (.int .u16 ((s : Int) % 256))).run Tryz.prog w = .ok (.int .u8 (Lib.pop8 ((s : Int) % 256))) w := fun w => Lib.run_index_pop8tab w _ _ _ Tryz.underlying9 (by omega) (by omega)
  go_quiet (fail)
  go_wp2
  go_ret
  exact ⟨ret_int (by have := P1.out; have := P2.out; have := HP.out; unfold els; omega), _, rfl⟩
/-- numberSet.count -/
theorem ncount_any (s : Nat) (hs : s < 65536) (w : World) :
    Calls Tryz.prog 48 #[.int .u16 (s : Int)] w fun e w' => e = .returned (.int .i64 ((els s).length : Int)) ∧ ∃ n, w' = w.drewN n := by
  go_enter Tryz.func48, Tryz.ntmps48
  go_wp2_with (go_at_call 96; refine (ones_any s hs _).mono ?_; rintro e w1 ⟨rfl, nq, rfl⟩)
  go_ret
  exact ⟨rfl, _, rfl⟩
/-- numberSet.elements -/
theorem nels_any (s : Nat) (hs : s < 65536) (w : World) :
    Calls Tryz.prog 49 #[.int .u16 (s : Int)] w fun e w' => ∃ v, e = .returned v ∧ w'.ownsRow w.heap.size 3 1 v (els s).length (ivs (nats (els s))) ∧ Below w.heap.size w w' := by
  obtain ⟨i0, hi, hz0, hz1, hz2⟩ := info_parts info_int
  have hlen := elsTo_len s 16
  obtain ⟨N, hN⟩ : ∃ N, N = (els s).length := ⟨_, rfl⟩
  have hN16 : N ≤ 16 := by rw [hN]; exact hlen
  have HCT := Lib.hid (fun W => ncount_any s hs W)
  rw [← hN] at HCT
  have HN := Lib.hid hN
  clear hlen hN
  go_enter Tryz.func49, Tryz.ntmps49
  go_wp2_with (first | (go_at_call 48; refine (HCT.out _).mono ?_; rintro e w0 ⟨rfl, nq, rfl⟩) | (at_make; refine wpList_make_own _ rfl _ _ 88 rfl w.heap.size 3 i0 (.int .i64 0) 1 Tryz.underlying88 hi hz0 hz1 _ _ _ N rfl rfl rfl (by rw [hz2]; omega) (by unfold maxLen; omega) (Nat.le_refl _) ?_))
  intro w1 hown hgrow
  have hb1 : Below w.heap.size w w1 := (below_drewN (Below.refl w.heap.size w) nq).grown hgrow (Nat.le_refl _) (by intro k hk; cases hk)
  clear hgrow
  go_wp2
  go_loopw [3, 8] (fun v i wr => ∃ (k : Nat), k ≤ 16 ∧ i = .int .i64 k ∧ wr.ownsRow w.heap.size 3 1 v (elsTo s k).length (ivs (nats (elsTo s k))) ∧ Below w.heap.size w wr) (fun _ i _ => 16 - (intOf i).toNat)
  case atStart => exact ⟨0, Nat.zero_le _, rfl, by simpa [elsTo, ivs, nats] using hown, hb1⟩
  case round =>
    obtain ⟨k, hk, rfl, hown, hbel⟩ := hrel
    have hel := elsTo_len s k
    have HO := Lib.hid (own_block hown)
    by_cases hlt : k < 16
    · have hkc : decide ((k : Int) < 16) = true := by simp; omega
      cases hb : s.testBit k with
      | true =>
        have HE := Lib.hid (elsTo_hit hb)
        have HC := Lib.hid (fun W => nhas_any s k hs hlt true hb W)
        clear hb
        go_wp2_with (first | (go_at_call 97; refine (HC.out _).mono ?_; rintro e w0 ⟨rfl, rfl⟩) | (at_builtin; refine wpList_append_own _ rfl _ _ 88 rfl w.heap.size 3 i0 (.int .i64 0) 1 8 Tryz.underlying88 hi hz0 hz1 hz2 rfl (by decide) _ _ _ rfl (hown.alloc _) ⟨wr.heap.size, 0, none⟩ 1 1 [.int .i64 (k : Int)] rfl rfl (one_cell _ _ _) (one_one _ rfl) (by unfold maxLen; omega) (by omega) (by have := hbel.size; simp; omega) ?_))
        intro v2 w2 hown2 hgrow2 _
        have HB := (hbel.alloc hbel.size (.cells #[.int .i64 (k : Int)] 3)).grown hgrow2 (by have := hbel.size; simp; omega) HO.out
        have HOWN : w2.ownsRow w.heap.size 3 1 v2 (elsTo s (k + 1)).length (ivs (nats (elsTo s (k + 1)))) := by rw [HE.out]; simpa [ivs, nats] using hown2
        clear hown2 hgrow2 hown hbel
        go_wp2
        go_roundw
        case rel => exact ⟨k + 1, by omega, by go_num, HOWN, HB⟩
        case measure => simp [intOf]; omega
      | false =>
        have HE := Lib.hid (elsTo_miss hb)
        have HC := Lib.hid (fun W => nhas_any s k hs hlt false hb W)
        clear hb
        go_wp2_with (go_at_call 97; refine (HC.out _).mono ?_; rintro e w0 ⟨rfl, rfl⟩)
        go_roundw
        case rel => exact ⟨k + 1, by omega, by go_num, by rw [HE.out]; exact hown, hbel⟩
        case measure => simp [intOf]; omega
    · obtain rfl : k = 16 := by omega
      clear hlt
      go_wp2
      go_ret
      exact ⟨_, rfl, hown, hbel⟩
def subI (a b : Int) : Bool := ok a && ok b && sub a.toNat b.toNat
theorem yes_fst {L : List Int} {k : Nat} (h : k < L.length) (hx : ¬ (0 ≤ L.getD k 0 ∧ L.getD k 0 < 16)) : okL L = false :=
  okL_of_take L (k + 1) (by rw [(okL_take L k h).1]; simp only [Bool.and_eq_false_iff, decide_eq_false_iff_not]; exact .inr hx)
def inI (x a b : Int) : Bool := decide (a ≤ x ∧ x ≤ b)
/-- spec.l1In -/
theorem l1In_any (x a b : Int) (r : Bool) (hr : inI x a b = r) (w : World) :
    Calls Tryz.prog 141 #[.int .i64 x, .int .i64 a, .int .i64 b] w fun e w' => e = .returned (.bool r) ∧ w = w' := by
  subst hr
  by_cases h1 : a ≤ x
  · by_cases h2 : x ≤ b
    · have HR : Hid (inI x a b = true) := Lib.hid (by unfold inI; simp; exact ⟨h1, h2⟩)
      go_enter Tryz.func141, Tryz.ntmps141
      go_wp2
      go_ret
      exact ⟨ret_bool HR.out.symm, rfl⟩
    · have HR : Hid (inI x a b = false) := Lib.hid (by unfold inI; simp; omega)
      have d : decide (x ≤ b) = false := by simpa using h2
      go_enter Tryz.func141, Tryz.ntmps141
      go_wp2
      go_ret
      exact ⟨ret_bool HR.out.symm, rfl⟩
  · have HR : Hid (inI x a b = false) := Lib.hid (by unfold inI; simp; omega)
    have d : decide (a ≤ x) = false := by simpa using h1
    go_enter Tryz.func141, Tryz.ntmps141
    go_wp2
    go_ret
    exact ⟨ret_bool HR.out.symm, rfl⟩
/-- spec.l2Bit -/
theorem l2Bit_any (k : Nat) (hk : k < 16) (w : World) :
    Calls Tryz.prog 94 #[.int .i64 (k : Int)] w fun e w' => e = .returned (.int .i64 ((2 ^ k : Nat) : Int)) ∧ w = w' := by
  have H : Hid (wrap64 (2 ^ k) = ((2 ^ k : Nat) : Int)) := Lib.hid (by
    have hl := pow_lt hk
    have e : (2 : Int) ^ k = ((2 ^ k : Nat) : Int) := by simp
    rw [e]
    obtain ⟨b, hb⟩ : ∃ b, b = 2 ^ k := ⟨_, rfl⟩
    rw [← hb] at hl ⊢
    unfold wrap64; omega)
  go_enter Tryz.func94, Tryz.ntmps94
  go_wp2
  go_ret
  exact ⟨ret_int (by rw [← H.out]; try simp), rfl⟩
/-- spec.l2Ok -/
theorem l2Ok_any (n : Int) (r : Bool) (hr : ok n = r) (w : World) :
    Calls Tryz.prog 90 #[.int .i64 n] w fun e w' => e = .returned (.bool r) ∧ w = w' := by
  subst hr
  by_cases h1 : 0 ≤ n
  · by_cases h2 : n < 65536
    · have HR : Hid (ok n = true) := Lib.hid (by unfold ok; simp; exact ⟨h1, h2⟩)
      go_enter Tryz.func90, Tryz.ntmps90
      go_wp2
      go_ret
      exact ⟨ret_bool HR.out.symm, rfl⟩
    · have HR : Hid (ok n = false) := Lib.hid (by unfold ok; simp; omega)
      have d : decide (n < 65536) = false := by simpa using h2
      go_enter Tryz.func90, Tryz.ntmps90
      go_wp2
      go_ret
      exact ⟨ret_bool HR.out.symm, rfl⟩
  · have HR : Hid (ok n = false) := Lib.hid (by unfold ok; simp; omega)
    have d : decide (0 ≤ n) = false := by simpa using h1
    go_enter Tryz.func90, Tryz.ntmps90
    go_wp2
    go_ret
    exact ⟨ret_bool HR.out.symm, rfl⟩
/-- is k in the set n (any ints)? -/
def hasI (n k : Int) : Bool := decide (0 ≤ k ∧ k < 16 ∧ n / 2 ^ k.toNat % 2 = 1)
theorem hasI_nat (s k : Nat) (hk : k < 16) : hasI s k = s.testBit k := by
  unfold hasI
  rw [← bit_div]
  congr 1
  simp; omega
/-- spec.l2Has -/
theorem l2Has_any (n k : Int) (r : Bool) (hr : hasI n k = r) (w : World) :
    Calls Tryz.prog 91 #[.int .i64 n, .int .i64 k] w fun e w' => e = .returned (.bool r) ∧ w = w' := by
  subst hr
  by_cases h1 : 0 ≤ k
  · by_cases h2 : k < 16
    · have HR : Hid ((bits .and .i64 (n / 2 ^ k.toNat) 1 == 1) = hasI n k) := Lib.hid (by
        rw [and1_i64, Bool.eq_iff_iff]
        unfold hasI
        simp [h1, h2])
      go_enter Tryz.func91, Tryz.ntmps91
      go_wp2
      go_ret
      exact ⟨ret_bool HR.out, rfl⟩
    · have HR : Hid (hasI n k = false) := Lib.hid (by unfold hasI; simp; omega)
      have d : decide (k < 16) = false := by simpa using h2
      go_enter Tryz.func91, Tryz.ntmps91
      go_wp2
      go_ret
      exact ⟨ret_bool HR.out.symm, rfl⟩
  · have HR : Hid (hasI n k = false) := Lib.hid (by unfold hasI; simp; omega)
    have d : decide (0 ≤ k) = false := by simpa using h1
    go_enter Tryz.func91, Tryz.ntmps91
    go_wp2
    go_ret
    exact ⟨ret_bool HR.out.symm, rfl⟩
/-- spec.ListOf -/
theorem sList_any (n : Int) (w : World) :
    Calls Tryz.prog 45 #[.int .i64 n] w fun e w' => ∃ v, e = .returned v ∧ w'.ownsRow w.heap.size 3 1 v (listOf n).length (ivs (listOf n)) ∧ Below w.heap.size w w' := by
  obtain ⟨i0, hi, hz0, hz1, hz2⟩ := info_parts info_int
  cases h : ok n with
  | false =>
    have HL := Lib.hid (listOf_no h)
    have CO := Lib.hid (fun W => l2Ok_any n false h W)
    clear h
    go_enter Tryz.func45, Tryz.ntmps45
    go_wp2
    go_loop [3, 4] (fun v i => v = .slice (some ⟨w.heap.size, 0, none⟩) 0 0 ∧ i = .int .i64 0) (fun _ _ => 0)
    case atStart => exact ⟨rfl, rfl⟩
    case round =>
      obtain ⟨rfl, rfl⟩ := hrel
      go_wp2_with (go_at_call 90; refine (CO.out _).mono ?_; rintro e w1 ⟨rfl, rfl⟩)
      go_ret
      exact ⟨_, rfl, by rw [HL.out]; exact World.ownsRow_lit (e := 3) (size := 1) w #[] 0 (Nat.le_refl _) (by unfold maxLen; omega) rfl, (Below.refl _ _).alloc (Nat.le_refl _) _⟩
  | true =>
    obtain ⟨s, rfl, hs⟩ : ∃ s : Nat, n = (s : Int) ∧ s < 65536 := by
      unfold ok at h; simp only [decide_eq_true_eq] at h
      exact ⟨n.toNat, by omega, by omega⟩
    have HL := Lib.hid (listOf_ok hs)
    have CO := Lib.hid (fun W => l2Ok_any s true h W)
    clear h
    go_enter Tryz.func45, Tryz.ntmps45
    go_wp2
    go_loopw [3, 4] (fun v i wr => ∃ (k : Nat), k ≤ 16 ∧ i = .int .i64 k ∧ wr.ownsRow w.heap.size 3 1 v (elsTo s k).length (ivs (nats (elsTo s k))) ∧ Below w.heap.size w wr) (fun _ i _ => 16 - (intOf i).toNat)
    case atStart => exact ⟨0, Nat.zero_le _, rfl, by simpa [elsTo, ivs, nats] using World.ownsRow_lit (e := 3) (size := 1) w #[] 0 (Nat.le_refl _) (by unfold maxLen; omega) rfl, (Below.refl _ _).alloc (Nat.le_refl _) _⟩
    case round =>
      obtain ⟨k, hk, rfl, hown, hbel⟩ := hrel
      have hel := elsTo_len s k
      have HO := Lib.hid (own_block hown)
      by_cases hlt : k < 16
      · have hkc : decide ((k : Int) < 16) = true := by simp; omega
        cases hb : s.testBit k with
        | true =>
          have HE := Lib.hid (elsTo_hit hb)
          have HC := Lib.hid (fun W => l2Has_any s k true (by rw [hasI_nat s k hlt, hb]) W)
          clear hb
          go_wp2_with (first | (go_at_call 90; refine (CO.out _).mono ?_; rintro e w1 ⟨rfl, rfl⟩) | (go_at_call 91; refine (HC.out _).mono ?_; rintro e w0 ⟨rfl, rfl⟩) | (at_builtin; refine wpList_append_own _ rfl _ _ 88 rfl w.heap.size 3 i0 (.int .i64 0) 1 8 Tryz.underlying88 hi hz0 hz1 hz2 rfl (by decide) _ _ _ rfl (hown.alloc _) ⟨wr.heap.size, 0, none⟩ 1 1 [.int .i64 (k : Int)] rfl rfl (one_cell _ _ _) (one_one _ rfl) (by unfold maxLen; omega) (by omega) (by have := hbel.size; simp; omega) ?_))
          intro v2 w2 hown2 hgrow2 _
          have HB := (hbel.alloc hbel.size (.cells #[.int .i64 (k : Int)] 3)).grown hgrow2 (by have := hbel.size; simp; omega) HO.out
          have HOWN : w2.ownsRow w.heap.size 3 1 v2 (elsTo s (k + 1)).length (ivs (nats (elsTo s (k + 1)))) := by rw [HE.out]; simpa [ivs, nats] using hown2
          clear hown2 hgrow2 hown hbel
          go_wp2
          go_roundw
          case rel => exact ⟨k + 1, by omega, by go_num, HOWN, HB⟩
          case measure => simp [intOf]; omega
        | false =>
          have HE := Lib.hid (elsTo_miss hb)
          have HC := Lib.hid (fun W => l2Has_any s k false (by rw [hasI_nat s k hlt, hb]) W)
          clear hb
          go_wp2_with (first | (go_at_call 90; refine (CO.out _).mono ?_; rintro e w1 ⟨rfl, rfl⟩) | (go_at_call 91; refine (HC.out _).mono ?_; rintro e w0 ⟨rfl, rfl⟩))
          go_roundw
          case rel => exact ⟨k + 1, by omega, by go_num, by rw [HE.out]; exact hown, hbel⟩
          case measure => simp [intOf]; omega
      · obtain rfl : k = 16 := by omega
        clear hlt
        have HOWN : Hid (wr.ownsRow w.heap.size 3 1 u3 (listOf s).length (ivs (listOf s))) := Lib.hid (by rw [HL.out]; simpa [nats, els] using hown)
        clear hown
        go_wp2
        go_ret
        exact ⟨_, rfl, HOWN.out, hbel⟩
/-- spec.CountOf -/
theorem sCount_any (n : Int) (w : World) :
    Calls Tryz.prog 102 #[.int .i64 n] w fun e w' => e = .returned (.int .i64 ((listOf n).length : Int)) ∧ Below w.heap.size w w' := by
  go_enter Tryz.func102, Tryz.ntmps102
  go_wp2_with fail
  refine (sList_any n _).mono ?_; rintro e w1 ⟨v, rfl, hown, hb⟩
  obtain ⟨A, cap, rfl, hcap⟩ := own_slice hown
  clear hown
  go_wp2
  go_ret
  exact ⟨rfl, hb⟩
/-- spec.IsSubset -/
theorem sSub_any (a b : Int) (r : Bool) (hr : subI a b = r) (w : World) :
    Calls Tryz.prog 93 #[.int .i64 a, .int .i64 b] w fun e w' => e = .returned (.bool r) ∧ w = w' := by
  subst hr
  cases ha : ok a with
  | false =>
    have HR : Hid (subI a b = false) := Lib.hid (by unfold subI; rw [ha]; rfl)
    go_enter Tryz.func93, Tryz.ntmps93
    go_wp2_with fail
    refine (l2Ok_any a false ha _).mono ?_; rintro e w0 ⟨rfl, rfl⟩
    go_wp2
    go_ret
    exact ⟨ret_bool HR.out.symm, rfl⟩
  | true =>
    cases hb : ok b with
    | false =>
      have HR : Hid (subI a b = false) := Lib.hid (by unfold subI; rw [hb]; simp)
      go_enter Tryz.func93, Tryz.ntmps93
      go_wp2_with fail
      refine (l2Ok_any a true ha _).mono ?_; rintro e w0 ⟨rfl, rfl⟩
      go_wp2_with fail
      refine (l2Ok_any b false hb _).mono ?_; rintro e w0 ⟨rfl, rfl⟩
      go_wp2
      go_ret
      exact ⟨ret_bool HR.out.symm, rfl⟩
    | true =>
      have CA := Lib.hid (fun W => l2Ok_any a true ha W)
      have CB := Lib.hid (fun W => l2Ok_any b true hb W)
      obtain ⟨s, rfl, hs⟩ : ∃ s : Nat, a = (s : Int) ∧ s < 65536 := by
        unfold ok at ha; simp only [decide_eq_true_eq] at ha
        exact ⟨a.toNat, by omega, by omega⟩
      obtain ⟨t, rfl, ht⟩ : ∃ s : Nat, b = (s : Int) ∧ s < 65536 := by
        unfold ok at hb; simp only [decide_eq_true_eq] at hb
        exact ⟨b.toNat, by omega, by omega⟩
      have HR : Hid ((bits .and .i64 (s : Int) (t : Int) == (s : Int)) = subI s t) := Lib.hid (by
        rw [and_i64 s t hs ht]
        unfold subI sub
        rw [ha, hb, Bool.eq_iff_iff]
        simp
        omega)
      clear ha hb
      go_enter Tryz.func93, Tryz.ntmps93
      go_wp2_with fail
      refine (CA.out _).mono ?_; rintro e w0 ⟨rfl, rfl⟩
      go_wp2_with fail
      refine (CB.out _).mono ?_; rintro e w0 ⟨rfl, rfl⟩
      go_wp2
      go_ret
      exact ⟨ret_bool HR.out, rfl⟩
end Go.Proofs.YtjejdcehlckfhaaGreat.sets
