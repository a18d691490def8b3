/-
  CONTRACTS OF THE READERS OF DECIMAL FORMS.
-/
import Derived.Test.YtphlbelnhmoblaaNum
import Derived.Test.YtphlbelnhmoblaaFmt
namespace Go.Proofs.Ytphlbelnhmoblaa.read
open Go.ChangeShapes Go.WideShapes Go.ChangeAt Go.RowKit
open dec mem

def pd (l : List UInt8) (most : Nat) : Bool := isDig l && decide (val l ≤ most)
def pdv (l : List UInt8) (most : Nat) : Nat := if pd l most then val l else 0
theorem pd_yes {l : List UInt8} {most : Nat} (h1 : isDig l = true) (h2 : val l ≤ most) : pd l most = true := by simp [pd, h1, h2]
theorem pd_bad {l : List UInt8} {most k : Nat} (hk : k < l.length) (h : isD (l.getD k 0) = false) : pd l most = false := by
  have : isDig l = false := by
    rw [← List.take_append_drop (k + 1) l, isDig_append, take_snoc l k hk, isDig_snoc, h]; simp
  simp [pd, this]
theorem pd_big {l : List UInt8} {most k : Nat} (h : most < val (l.take k)) : pd l most = false := by
  have := val_mono (l.take k) (l.drop k)
  rw [List.take_append_drop] at this
  have h2 : ¬ val l ≤ most := by omega
  simp [pd, h2]

theorem ret_pair {a : Int} {b : Bool} {a' : Int} {b' : Bool} (h : a = a') (h' : b = b') : Ending.returned (.tuple #[.int .i64 a, .bool b]) = .returned (.tuple #[.int .i64 a', .bool b']) := by rw [h, h']

/-- impl.isDigit -/
theorem isDigit_any (b : UInt8) (r : Bool) (hr : isD b = r) (w : World) :
    Calls Try.prog 29 #[.int .u8 (b.toNat : Int)] w fun e w' => e = .returned (.bool r) ∧ w = w' := by
  obtain ⟨x, hx⟩ : ∃ x, x = b.toNat := ⟨_, rfl⟩
  have HR : Hid (decide (48 ≤ x ∧ x ≤ 57) = r) := Lib.hid (by rw [← hr, hx]; simp [isD])
  rw [← hx]
  clear hx hr
  have hcase : (48 ≤ x ∧ x ≤ 57) ∨ (57 < x) ∨ x < 48 := by omega
  rcases hcase with ⟨h1, h2⟩ | h1 | h1
  · have HQ : Hid (r = true) := Lib.hid (by rw [← HR.out]; simp; omega)
    go_enter Try.func29, Try.ntmps29
    go_wp2
    go_ret
    exact ⟨ret_bool (by first | exact HQ.out.symm | (rw [HQ.out]; simp; omega)), rfl⟩
  · have HQ : Hid (r = false) := Lib.hid (by rw [← HR.out]; simp; omega)
    go_enter Try.func29, Try.ntmps29
    go_wp2
    go_ret
    exact ⟨ret_bool (by first | exact HQ.out.symm | (rw [HQ.out]; simp; omega)), rfl⟩
  · have HQ : Hid (r = false) := Lib.hid (by rw [← HR.out]; simp; omega)
    go_enter Try.func29, Try.ntmps29
    go_wp2
    go_ret
    exact ⟨ret_bool (by first | exact HQ.out.symm | (rw [HQ.out]; simp; omega)), rfl⟩

/-- impl.parseDigits -/
theorem digits_any (l : List UInt8) (hl : l.length ≤ maxLen) (most : Nat) (hm : most ≤ 1000000000000) (w : World) :
    Calls Try.prog 25 #[.string (bstr l), .int .i64 most] w fun e w' => e = .returned (.tuple #[.int .i64 (pdv l most), .bool (pd l most)]) ∧ w = w' := by
  unfold maxLen at hl
  have hsz : (bstr l).size = l.length := bstr_size l
  go_enter Try.func25, Try.ntmps25
  go_wp2
  go_loop [6, 10] (fun v i => ∃ k : Nat, k ≤ l.length ∧ i = .int .i64 k ∧ v = .int .i64 (val (l.take k)) ∧ isDig (l.take k) = true ∧ val (l.take k) ≤ most) (fun _ i => l.length - (intOf i).toNat)
  case atStart => exact ⟨0, Nat.zero_le _, rfl, rfl, rfl, Nat.zero_le _⟩
  case round =>
    obtain ⟨k, hk, rfl, rfl, hd, hv⟩ := hrel
    have HD := Lib.hid hd
    clear hd
    by_cases hlt : k < l.length
    · have hs := val_snoc (l.take k) (l.getD k 0)
      have hs2 := isDig_snoc (l.take k) (l.getD k 0)
      rw [← take_snoc l k hlt] at hs hs2
      have HS := Lib.hid hs
      have HS2 := Lib.hid hs2
      have hidx : ∀ w : World, (Instr.index 9 (.string (bstr l)) (.int .i64 (k : Int))).run Try.prog w = .ok (.int .u8 ((l.getD k 0).toNat : Int)) w := fun w => run_index_bstr w Try.underlying9 hlt
      obtain ⟨b, hb⟩ : ∃ b, b = l.getD k 0 := ⟨_, rfl⟩
      rw [← hb] at hidx
      have HB := Lib.hid hb
      clear hs hs2 hb
      have hb255 : b.toNat ≤ 255 := by have := b.toNat_lt; omega
      have hcall : ∀ r, isD b = r → Hid (∀ W : World, Calls Try.prog 29 #[.int .u8 (b.toNat : Int)] W fun e w' => e = .returned (.bool r) ∧ W = w') := fun r hr => Lib.hid (fun W => isDigit_any b r hr W)
      by_cases hlo : b.toNat < 48
      · have HP : Hid (pd l most = false) := Lib.hid (pd_bad hlt (by rw [← HB.out]; simp [isD]; omega))
        have HC := hcall false (by simp [isD]; omega)
        clear hcall
        go_wp2_with (go_at_call 29; refine (HC.out _).mono ?_; rintro e w1 ⟨rfl, rfl⟩)
        go_ret2
        exact ⟨ret_pair (by simp [pdv, HP.out]) HP.out.symm, rfl⟩
      · by_cases hhi : 57 < b.toNat
        · have HP : Hid (pd l most = false) := Lib.hid (pd_bad hlt (by rw [← HB.out]; simp [isD]; omega))
          have HC := hcall false (by simp [isD]; omega)
          clear hcall
          go_wp2_with (go_at_call 29; refine (HC.out _).mono ?_; rintro e w1 ⟨rfl, rfl⟩)
          go_ret2
          exact ⟨ret_pair (by simp [pdv, HP.out]) HP.out.symm, rfl⟩
        · have HD2 : Hid (isDig (l.take (k + 1)) = true) := Lib.hid (by rw [HS2.out, HD.out, ← HB.out]; simp [isD]; omega)
          have HV2 : Hid (val (l.take (k + 1)) = 10 * val (l.take k) + (b.toNat - 48)) := Lib.hid (by rw [HS.out, ← HB.out])
          have HC := hcall true (by simp [isD]; omega)
          clear hcall
          by_cases hbig : most < 10 * val (l.take k) + (b.toNat - 48)
          · have HP : Hid (pd l most = false) := Lib.hid (pd_big (k := k + 1) (by rw [HV2.out]; exact hbig))
            go_wp2_with (go_at_call 29; refine (HC.out _).mono ?_; rintro e w1 ⟨rfl, rfl⟩)
            go_ret2
            exact ⟨ret_pair (by simp [pdv, HP.out]) HP.out.symm, rfl⟩
          · go_wp2_with (go_at_call 29; refine (HC.out _).mono ?_; rintro e w1 ⟨rfl, rfl⟩)
            go_round
            case rel => exact ⟨k + 1, by omega, by go_num, by rw [HV2.out]; go_num, HD2.out, by rw [HV2.out]; omega⟩
            case measure => simp [intOf]; omega
    · obtain rfl : k = l.length := by omega
      have HP : Hid (pd l most = true ∧ val l = pdv l most) := Lib.hid (by
        have h1 := HD.out
        rw [List.take_length] at h1 hv
        have := pd_yes h1 hv
        exact ⟨this, by simp [pdv, this]⟩)
      go_wp2
      go_ret2
      exact ⟨ret_pair (by rw [HP.out.2]) HP.out.1.symm, rfl⟩

theorem body_cons_neg (t : List UInt8) : body (45 :: t) = t ∧ num (45 :: t) = -(val t : Int) := by
  have h : isNeg (45 :: t) = true := rfl
  have hb : body (45 :: t) = t := by simp [body, h]
  exact ⟨hb, by simp [num, hb, h, signed]⟩
theorem body_cons_pos (b : UInt8) (t : List UInt8) (hb : b ≠ 45) : body (b :: t) = b :: t ∧ num (b :: t) = (val (b :: t) : Int) := by
  have h : isNeg (b :: t) = false := by simp [isNeg, hb]
  have hb : body (b :: t) = b :: t := by simp [body, h]
  exact ⟨hb, by simp [num, hb, h, signed]⟩
theorem body_nil : body [] = [] ∧ num [] = 0 := by
  have h : isNeg [] = false := rfl
  have hb : body [] = [] := by simp [body, h]
  exact ⟨hb, by simp [num, hb, h, signed, val]⟩
theorem reads_pd {l : List UInt8} {lim : Nat} : reads l lim = (pd (body l) lim && decide (dec.fmt (num l) = l)) := rfl
theorem reads_of_pd {l : List UInt8} {lim : Nat} (h : pd (body l) lim = false) : reads l lim = false ∧ dec.out l lim = 0 := by
  have : reads l lim = false := by rw [reads_pd, h]; rfl
  exact ⟨this, by simp [dec.out, this]⟩
theorem reads_of_fmt {l : List UInt8} {lim : Nat} (h : dec.fmt (num l) ≠ l) : reads l lim = false ∧ dec.out l lim = 0 := by
  have : reads l lim = false := by rw [reads_pd]; simp [h]
  exact ⟨this, by simp [dec.out, this]⟩
theorem reads_yes {l : List UInt8} {lim : Nat} (h0 : pd (body l) lim = true) (h : dec.fmt (num l) = l) : reads l lim = true ∧ dec.out l lim = num l := by
  have : reads l lim = true := by rw [reads_pd, h0]; simp [h]
  exact ⟨this, by simp [dec.out, this]⟩

/-- impl.parseDecimal -/
theorem decimal_any (l : List UInt8) (hl : l.length ≤ maxLen) (lim : Nat) (hm : lim ≤ 1000000000000) (w : World) :
    Calls Try.prog 18 #[.string (bstr l), .int .i64 lim] w fun e w' => e = .returned (.tuple #[.int .i64 (dec.out l lim), .bool (reads l lim)]) ∧ Below w.heap.size w w' := by
  have hl' := hl
  unfold maxLen at hl
  have hsz : (bstr l).size = l.length := bstr_size l
  cases l with
  | nil =>
    have hp : pd [] lim = true := by simp [pd, isDig, val]
    have hpv : pdv [] lim = 0 := by simp [pdv, pd, isDig, val]
    have hne : ((bstr (dec.fmt 0)).toList == (bstr []).toList) = false := by rw [bstr_eq]; simp [dec.fmt, dig_lt]
    have HR := Lib.hid (reads_of_fmt (l := []) (lim := lim) (by simp [body_nil.2, dec.fmt, dig_lt]))
    go_enter Try.func18, Try.ntmps18
    go_wp2_with (first | (go_at_call 25; refine (digits_any [] hl' lim hm _).mono ?_; rintro e w1 ⟨rfl, rfl⟩) | (go_at_call 9; refine (fmt.impl_any 0 (by omega) (by omega) _).mono ?_; rintro e w1 ⟨rfl, hb⟩))
    go_ret2
    exact ⟨ret_pair HR.out.2.symm HR.out.1.symm, hb⟩
  | cons b t =>
    have hidx : ∀ w : World, (Instr.index 9 (.string (bstr (b :: t))) (.int .i64 0)).run Try.prog w = .ok (.int .u8 (b.toNat : Int)) w := fun w => run_index_bstr (i := 0) w Try.underlying9 (by simp)
    by_cases h45 : b = 45
    · subst h45
      obtain ⟨hbody, hnum⟩ := body_cons_neg t
      have hext : (bstr (45 :: t)).extract 1 (t.length + 1) = bstr t := by rw [bstr_extract]; simp
      have htl : t.length ≤ maxLen := by unfold maxLen; simp at hl; omega
      by_cases hp : pd (t) lim = true
      · have hpv : pdv (t) lim = val (t) := by simp [pdv, hp]
        have hv : val (t) ≤ lim := by simp [pd] at hp; exact hp.2
        by_cases hf : dec.fmt (num (45 :: t)) = 45 :: t
        · have HR := Lib.hid (reads_yes (l := 45 :: t) (lim := lim) (by rw [hbody]; exact hp) hf)
          rw [hnum] at HR hf
          have hne : ((bstr (dec.fmt (-(val t : Int)))).toList == (bstr (45 :: t)).toList) = true := by rw [bstr_eq, hf]; simp
          clear hf hnum hbody
          go_enter Try.func18, Try.ntmps18
          go_wp2_with (first | (go_at_call 25; refine (digits_any (t) htl lim hm _).mono ?_; rintro e w1 ⟨rfl, rfl⟩) | (go_at_call 9; refine (fmt.impl_any (-(val t : Int)) (by omega) (by omega) _).mono ?_; rintro e w1 ⟨rfl, hb⟩))
          go_ret2
          exact ⟨ret_pair HR.out.2.symm HR.out.1.symm, hb⟩
        · have HR := Lib.hid (reads_of_fmt (l := 45 :: t) (lim := lim) hf)
          rw [hnum] at hf
          have hne : ((bstr (dec.fmt (-(val t : Int)))).toList == (bstr (45 :: t)).toList) = false := by rw [bstr_eq]; simpa using hf
          clear hf hnum hbody
          go_enter Try.func18, Try.ntmps18
          go_wp2_with (first | (go_at_call 25; refine (digits_any (t) htl lim hm _).mono ?_; rintro e w1 ⟨rfl, rfl⟩) | (go_at_call 9; refine (fmt.impl_any (-(val t : Int)) (by omega) (by omega) _).mono ?_; rintro e w1 ⟨rfl, hb⟩))
          go_ret2
          exact ⟨ret_pair HR.out.2.symm HR.out.1.symm, hb⟩
      · have hp : pd (t) lim = false := by simpa using hp
        have hpv : pdv (t) lim = 0 := by simp [pdv, hp]
        have HR := Lib.hid (reads_of_pd (l := 45 :: t) (lim := lim) (by rw [hbody]; exact hp))
        clear hnum hbody
        go_enter Try.func18, Try.ntmps18
        go_wp2_with (first | (go_at_call 25; refine (digits_any (t) htl lim hm _).mono ?_; rintro e w1 ⟨rfl, rfl⟩) | (go_at_call 9; refine (fmt.impl_any (-(val t : Int)) (by omega) (by omega) _).mono ?_; rintro e w1 ⟨rfl, hb⟩))
        go_ret2
        exact ⟨ret_pair HR.out.2.symm HR.out.1.symm, Below.refl _ _⟩
    · obtain ⟨hbody, hnum⟩ := body_cons_pos b t h45
      have htl := hl'
      have hb45 : ((b.toNat : Int) == 45) = false := by
        have : b.toNat ≠ 45 := fun h => h45 (by rw [← UInt8.ofNat_toNat (x := b), h]; rfl)
        simp; omega
      clear h45
      by_cases hp : pd (b :: t) lim = true
      · have hpv : pdv (b :: t) lim = val (b :: t) := by simp [pdv, hp]
        have hv : val (b :: t) ≤ lim := by simp [pd] at hp; exact hp.2
        by_cases hf : dec.fmt (num (b :: t)) = b :: t
        · have HR := Lib.hid (reads_yes (l := b :: t) (lim := lim) (by rw [hbody]; exact hp) hf)
          rw [hnum] at HR hf
          have hne : ((bstr (dec.fmt ((val (b :: t) : Int)))).toList == (bstr (b :: t)).toList) = true := by rw [bstr_eq, hf]; simp
          clear hf hnum hbody
          go_enter Try.func18, Try.ntmps18
          go_wp2_with (first | (go_at_call 25; refine (digits_any (b :: t) htl lim hm _).mono ?_; rintro e w1 ⟨rfl, rfl⟩) | (go_at_call 9; refine (fmt.impl_any ((val (b :: t) : Int)) (by omega) (by omega) _).mono ?_; rintro e w1 ⟨rfl, hb⟩))
          go_ret2
          exact ⟨ret_pair HR.out.2.symm HR.out.1.symm, hb⟩
        · have HR := Lib.hid (reads_of_fmt (l := b :: t) (lim := lim) hf)
          rw [hnum] at hf
          have hne : ((bstr (dec.fmt ((val (b :: t) : Int)))).toList == (bstr (b :: t)).toList) = false := by rw [bstr_eq]; simpa using hf
          clear hf hnum hbody
          go_enter Try.func18, Try.ntmps18
          go_wp2_with (first | (go_at_call 25; refine (digits_any (b :: t) htl lim hm _).mono ?_; rintro e w1 ⟨rfl, rfl⟩) | (go_at_call 9; refine (fmt.impl_any ((val (b :: t) : Int)) (by omega) (by omega) _).mono ?_; rintro e w1 ⟨rfl, hb⟩))
          go_ret2
          exact ⟨ret_pair HR.out.2.symm HR.out.1.symm, hb⟩
      · have hp : pd (b :: t) lim = false := by simpa using hp
        have hpv : pdv (b :: t) lim = 0 := by simp [pdv, hp]
        have HR := Lib.hid (reads_of_pd (l := b :: t) (lim := lim) (by rw [hbody]; exact hp))
        clear hnum hbody
        go_enter Try.func18, Try.ntmps18
        go_wp2_with (first | (go_at_call 25; refine (digits_any (b :: t) htl lim hm _).mono ?_; rintro e w1 ⟨rfl, rfl⟩) | (go_at_call 9; refine (fmt.impl_any ((val (b :: t) : Int)) (by omega) (by omega) _).mono ?_; rintro e w1 ⟨rfl, hb⟩))
        go_ret2
        exact ⟨ret_pair HR.out.2.symm HR.out.1.symm, Below.refl _ _⟩

def outL (l : List UInt8) (most : Nat) : Int := if readsL l most then num l else 0
theorem outL_of {l : List UInt8} {most : Nat} (h : readsL l most = false) : readsL l most = false ∧ outL l most = 0 := ⟨h, by simp [outL, h]⟩
theorem outL_yes {l : List UInt8} {most : Nat} (h : readsL l most = true) : readsL l most = true ∧ outL l most = num l := ⟨h, by simp [outL, h]⟩

/-- spec.l1Read -/
theorem l1Read_any (l : List UInt8) (hl : l.length ≤ maxLen) (most : Nat) (hm : most ≤ 12) (w : World) :
    Calls Try.prog 23 #[.string (bstr l), .int .i64 most] w fun e w' => e = .returned (.tuple #[.int .i64 (outL l most), .bool (readsL l most)]) ∧ Below w.heap.size w w' := by
  have hl' := hl
  unfold maxLen at hl
  have hsz : (bstr l).size = l.length := bstr_size l
  cases l with
  | nil =>
    have HR := Lib.hid (outL_of (readsL_len (s := []) (most := most) (by rw [body_nil.1]; exact .inl (by simp))))
    go_enter Try.func23, Try.ntmps23
    go_wp2
    go_ret2
    exact ⟨ret_pair HR.out.2.symm HR.out.1.symm, Below.refl _ _⟩
  | cons b T =>
    have hidx : ∀ w : World, (Instr.index 9 (.string (bstr (b :: T))) (.int .i64 0)).run Try.prog w = .ok (.int .u8 (b.toNat : Int)) w := fun w => run_index_bstr (i := 0) w Try.underlying9 (by simp)
    by_cases h45 : b = 45
    · subst h45
      obtain ⟨hbody, hnum⟩ := body_cons_neg T
      have hext : (bstr (45 :: T)).extract 1 (T.length + 1) = bstr T := by rw [bstr_extract]; simp
      have htl : T.length ≤ 9223372036854775806 := by simp at hl; omega
      have HBODY := Lib.hid hbody
      have HNUM := Lib.hid hnum
      have hTs : (bstr T).size = T.length := bstr_size T
      clear hbody hnum
      by_cases hlen : T.length < 1 ∨ most < T.length
      · have HR := Lib.hid (outL_of (readsL_len (s := 45 :: T) (most := most) (by rw [HBODY.out]; exact hlen)))
        by_cases h1 : T.length < 1
        · go_enter Try.func23, Try.ntmps23
          go_wp2
          go_ret2
          exact ⟨ret_pair HR.out.2.symm HR.out.1.symm, Below.refl _ _⟩
        · have h2 : most < T.length := by omega
          clear hlen
          go_enter Try.func23, Try.ntmps23
          go_wp2
          go_ret2
          exact ⟨ret_pair HR.out.2.symm HR.out.1.symm, Below.refl _ _⟩
      · have h1 : ¬ T.length < 1 := by omega
        have h2 : T.length ≤ most := by omega
        have hd1 : decide ((T.length : Int) < 1) = false := by simp; omega
        have hd2 : decide (most < T.length) = false := by simp; omega
        clear hlen
        go_enter Try.func23, Try.ntmps23
        go_wp2
        go_loop [8, 9] (fun v i => ∃ k : Nat, k ≤ T.length ∧ i = .int .i64 k ∧ v = .int .i64 (val (T.take k)) ∧ isDig (T.take k) = true) (fun _ i => T.length - (intOf i).toNat)
        case atStart => exact ⟨0, Nat.zero_le _, rfl, rfl, rfl⟩
        case round =>
          obtain ⟨k, hk, rfl, rfl, hd⟩ := hrel
          have hv := val_le12 _ hd (by rw [List.length_take]; omega)
          have HD := Lib.hid hd
          clear hd
          by_cases hlt : k < T.length
          · have hs := val_snoc (T.take k) (T.getD k 0)
            have hs2 := isDig_snoc (T.take k) (T.getD k 0)
            rw [← take_snoc T k hlt] at hs hs2
            have HS := Lib.hid hs
            have HS2 := Lib.hid hs2
            have hidx2 : ∀ w : World, (Instr.index 9 (.string (bstr T)) (.int .i64 (k : Int))).run Try.prog w = .ok (.int .u8 ((T.getD k 0).toNat : Int)) w := fun w => run_index_bstr w Try.underlying9 hlt
            obtain ⟨c, hc⟩ : ∃ c, c = T.getD k 0 := ⟨_, rfl⟩
            rw [← hc] at hidx2
            have HC := Lib.hid hc
            clear hs hs2 hc
            have hb255 : c.toNat ≤ 255 := by have := c.toNat_lt; omega
            by_cases hlo : c.toNat < 48
            · have HR := Lib.hid (outL_of (readsL_bad (s := 45 :: T) (most := most) (k := k) (by rw [HBODY.out]; exact hlt) (by rw [HBODY.out, ← HC.out]; simp [isD]; omega)))
              go_wp2
              go_ret2
              exact ⟨ret_pair HR.out.2.symm HR.out.1.symm, Below.refl _ _⟩
            · by_cases hhi : 57 < c.toNat
              · have HR := Lib.hid (outL_of (readsL_bad (s := 45 :: T) (most := most) (k := k) (by rw [HBODY.out]; exact hlt) (by rw [HBODY.out, ← HC.out]; simp [isD]; omega)))
                go_wp2
                go_ret2
                exact ⟨ret_pair HR.out.2.symm HR.out.1.symm, Below.refl _ _⟩
              · have HD2 : Hid (isDig (T.take (k + 1)) = true) := Lib.hid (by rw [HS2.out, HD.out, ← HC.out]; simp [isD]; omega)
                have HV2 : Hid (val (T.take (k + 1)) = 10 * val (T.take k) + (c.toNat - 48)) := Lib.hid (by rw [HS.out, ← HC.out])
                go_wp2
                go_round
                case rel => exact ⟨k + 1, by omega, by go_num, by rw [HV2.out]; go_num, HD2.out⟩
                case measure => simp [intOf]; omega
          · obtain rfl : k = T.length := by omega
            have htake : T.take T.length = T := List.take_length
            have HDD : Hid (isDig T = true) := Lib.hid (by have := HD.out; rwa [htake] at this)
            have hv2 : val T ≤ 999999999999 := by rwa [htake] at hv
            clear HD
            by_cases hf : dec.fmt (num (45 :: T)) = 45 :: T
            · have HR := Lib.hid (outL_yes (readsL_yes (s := 45 :: T) (most := most) (by rw [HBODY.out]; exact h1) (by rw [HBODY.out]; exact h2) (by rw [HBODY.out]; exact HDD.out) hf))
              rw [HNUM.out] at hf HR
              have hne : ((bstr (dec.fmt (-(val T : Int)))).toList == (bstr (45 :: T)).toList) = true := by rw [bstr_eq, hf]; simp
              clear hf
              go_wp2_with (go_at_call 27; refine (fmt.spec_any (-(val T : Int)) (by omega) (by omega) _).mono ?_; rintro e w1 ⟨rfl, hb⟩)
              go_ret2
              exact ⟨ret_pair HR.out.2.symm HR.out.1.symm, hb⟩
            · have HR := Lib.hid (outL_of (readsL_fmt (s := 45 :: T) (most := most) hf))
              rw [HNUM.out] at hf
              have hne : ((bstr (dec.fmt (-(val T : Int)))).toList == (bstr (45 :: T)).toList) = false := by rw [bstr_eq]; simpa using hf
              clear hf
              go_wp2_with (go_at_call 27; refine (fmt.spec_any (-(val T : Int)) (by omega) (by omega) _).mono ?_; rintro e w1 ⟨rfl, hb⟩)
              go_ret2
              exact ⟨ret_pair HR.out.2.symm HR.out.1.symm, hb⟩
    · obtain ⟨hbody, hnum⟩ := body_cons_pos b T h45
      have htl := hl'
      have hb45 : ((b.toNat : Int) == 45) = false := by
        have : b.toNat ≠ 45 := fun h => h45 (by rw [← UInt8.ofNat_toNat (x := b), h]; rfl)
        simp; omega
      clear h45
      clear hl'
      obtain ⟨L, hL⟩ : ∃ L, L = b :: T := ⟨_, rfl⟩
      rw [← hL] at hl hsz hidx hbody hnum htl ⊢
      clear hL
      clear T
      rename List UInt8 => T
      have HBODY := Lib.hid hbody
      have HNUM := Lib.hid hnum
      have hTs : (bstr T).size = T.length := bstr_size T
      clear hbody hnum
      by_cases hlen : T.length < 1 ∨ most < T.length
      · have HR := Lib.hid (outL_of (readsL_len (s := T) (most := most) (by rw [HBODY.out]; exact hlen)))
        by_cases h1 : T.length < 1
        · go_enter Try.func23, Try.ntmps23
          go_wp2
          go_ret2
          exact ⟨ret_pair HR.out.2.symm HR.out.1.symm, Below.refl _ _⟩
        · have h2 : most < T.length := by omega
          clear hlen
          go_enter Try.func23, Try.ntmps23
          go_wp2
          go_ret2
          exact ⟨ret_pair HR.out.2.symm HR.out.1.symm, Below.refl _ _⟩
      · have h1 : ¬ T.length < 1 := by omega
        have h2 : T.length ≤ most := by omega
        have hd1 : decide ((T.length : Int) < 1) = false := by simp; omega
        have hd2 : decide (most < T.length) = false := by simp; omega
        clear hlen
        go_enter Try.func23, Try.ntmps23
        go_wp2
        go_loop [8, 9] (fun v i => ∃ k : Nat, k ≤ T.length ∧ i = .int .i64 k ∧ v = .int .i64 (val (T.take k)) ∧ isDig (T.take k) = true) (fun _ i => T.length - (intOf i).toNat)
        case atStart => exact ⟨0, Nat.zero_le _, rfl, rfl, rfl⟩
        case round =>
          obtain ⟨k, hk, rfl, rfl, hd⟩ := hrel
          have hv := val_le12 _ hd (by rw [List.length_take]; omega)
          have HD := Lib.hid hd
          clear hd
          by_cases hlt : k < T.length
          · have hs := val_snoc (T.take k) (T.getD k 0)
            have hs2 := isDig_snoc (T.take k) (T.getD k 0)
            rw [← take_snoc T k hlt] at hs hs2
            have HS := Lib.hid hs
            have HS2 := Lib.hid hs2
            have hidx2 : ∀ w : World, (Instr.index 9 (.string (bstr T)) (.int .i64 (k : Int))).run Try.prog w = .ok (.int .u8 ((T.getD k 0).toNat : Int)) w := fun w => run_index_bstr w Try.underlying9 hlt
            obtain ⟨c, hc⟩ : ∃ c, c = T.getD k 0 := ⟨_, rfl⟩
            rw [← hc] at hidx2
            have HC := Lib.hid hc
            clear hs hs2 hc
            have hb255 : c.toNat ≤ 255 := by have := c.toNat_lt; omega
            by_cases hlo : c.toNat < 48
            · have HR := Lib.hid (outL_of (readsL_bad (s := T) (most := most) (k := k) (by rw [HBODY.out]; exact hlt) (by rw [HBODY.out, ← HC.out]; simp [isD]; omega)))
              go_wp2
              go_ret2
              exact ⟨ret_pair HR.out.2.symm HR.out.1.symm, Below.refl _ _⟩
            · by_cases hhi : 57 < c.toNat
              · have HR := Lib.hid (outL_of (readsL_bad (s := T) (most := most) (k := k) (by rw [HBODY.out]; exact hlt) (by rw [HBODY.out, ← HC.out]; simp [isD]; omega)))
                go_wp2
                go_ret2
                exact ⟨ret_pair HR.out.2.symm HR.out.1.symm, Below.refl _ _⟩
              · have HD2 : Hid (isDig (T.take (k + 1)) = true) := Lib.hid (by rw [HS2.out, HD.out, ← HC.out]; simp [isD]; omega)
                have HV2 : Hid (val (T.take (k + 1)) = 10 * val (T.take k) + (c.toNat - 48)) := Lib.hid (by rw [HS.out, ← HC.out])
                go_wp2
                go_round
                case rel => exact ⟨k + 1, by omega, by go_num, by rw [HV2.out]; go_num, HD2.out⟩
                case measure => simp [intOf]; omega
          · obtain rfl : k = T.length := by omega
            have htake : T.take T.length = T := List.take_length
            have HDD : Hid (isDig T = true) := Lib.hid (by have := HD.out; rwa [htake] at this)
            have hv2 : val T ≤ 999999999999 := by rwa [htake] at hv
            clear HD
            by_cases hf : dec.fmt (num (T)) = T
            · have HR := Lib.hid (outL_yes (readsL_yes (s := T) (most := most) (by rw [HBODY.out]; exact h1) (by rw [HBODY.out]; exact h2) (by rw [HBODY.out]; exact HDD.out) hf))
              rw [HNUM.out] at hf HR
              have hne : ((bstr (dec.fmt ((val T : Int)))).toList == (bstr (T)).toList) = true := by rw [bstr_eq, hf]; simp
              clear hf
              go_wp2_with (go_at_call 27; refine (fmt.spec_any ((val T : Int)) (by omega) (by omega) _).mono ?_; rintro e w1 ⟨rfl, hb⟩)
              go_ret2
              exact ⟨ret_pair HR.out.2.symm HR.out.1.symm, hb⟩
            · have HR := Lib.hid (outL_of (readsL_fmt (s := T) (most := most) hf))
              rw [HNUM.out] at hf
              have hne : ((bstr (dec.fmt ((val T : Int)))).toList == (bstr (T)).toList) = false := by rw [bstr_eq]; simpa using hf
              clear hf
              go_wp2_with (go_at_call 27; refine (fmt.spec_any ((val T : Int)) (by omega) (by omega) _).mono ?_; rintro e w1 ⟨rfl, hb⟩)
              go_ret2
              exact ⟨ret_pair HR.out.2.symm HR.out.1.symm, hb⟩

end Go.Proofs.Ytphlbelnhmoblaa.read
