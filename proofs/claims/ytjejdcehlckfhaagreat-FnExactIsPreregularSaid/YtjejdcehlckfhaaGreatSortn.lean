/-
  NAMES OF SORTS: contracts of isLetter, isDigit, the two IsName, slices.Contains on strings, spec.l1Has, areDifferentNames, areSortNames, isIndex, areSubs.
-/
import Derived.Test.YtjejdcehlckfhaaGreatSubs
import Derived.Test.YtjejdcehlckfhaaGreatSets
namespace Go.Proofs.YtjejdcehlckfhaaGreat.sortn
open Go.ChangeShapes Go.WideShapes Go.ChangeAt Go.RowKit
open mem split strl subs

def isL (b : UInt8) : Bool := decide ((97 ≤ b.toNat ∧ b.toNat ≤ 122) ∨ (65 ≤ b.toNat ∧ b.toNat ≤ 90))
def isDg (b : UInt8) : Bool := decide (48 ≤ b.toNat ∧ b.toNat ≤ 57)
def isLD (b : UInt8) : Bool := isL b || isDg b
def nameOk (l : List UInt8) : Bool := decide (1 ≤ l.length ∧ l.length ≤ 12) && isL (l.getD 0 0) && l.all isLD && decide (l ≠ [105, 102]) && decide (l ≠ [97, 110, 100])
theorem all_take (l : List UInt8) (f : UInt8 → Bool) (k : Nat) (h : k < l.length) : (l.take (k + 1)).all f = ((l.take k).all f && f (l.getD k 0)) := by
  rw [List.take_succ_eq_append_getElem h, List.all_append]; simp [List.getD, List.getElem?_eq_getElem h]
theorem all_bad (l : List UInt8) (f : UInt8 → Bool) (k : Nat) (h : k < l.length) (hf : f (l.getD k 0) = false) : l.all f = false := by
  simp only [List.all_eq_false]
  exact ⟨l[k], List.getElem_mem h, by simpa [List.getD, List.getElem?_eq_getElem h] using hf⟩

theorem bstr_toL (l : List UInt8) : (bstr l).toList = l := by rw [ByteArray.toList_eq]; exact bstr_toList l
/-- impl.isLetter -/
theorem isL_any (b : UInt8) (r : Bool) (hr : isL b = r) (w : World) :
    Calls Tryz.prog 210 #[.int .u8 (b.toNat : Int)] w fun e w' => e = .returned (.bool r) ∧ w = w' := by
  obtain ⟨x, hx⟩ : ∃ x, x = b.toNat := ⟨_, rfl⟩
  have HR : Hid (decide ((97 ≤ x ∧ x ≤ 122) ∨ (65 ≤ x ∧ x ≤ 90)) = r) := Lib.hid (by rw [← hr, isL, hx])
  rw [← hx]
  clear hx hr
  have hcase : (97 ≤ x ∧ x ≤ 122) ∨ (122 < x) ∨ (65 ≤ x ∧ x ≤ 90) ∨ (90 < x ∧ x < 97) ∨ x < 65 := by omega
  rcases hcase with ⟨h1, h2⟩ | h1 | ⟨h1, h2⟩ | ⟨h1, h2⟩ | h1
  · have HQ : Hid (r = true) := Lib.hid (by rw [← HR.out]; simp; omega)
    go_enter Tryz.func210, Tryz.ntmps210
    go_wp2
    go_ret
    exact ⟨ret_bool (by first | exact HQ.out.symm | (rw [HQ.out]; simp; omega)), rfl⟩
  · have HQ : Hid (r = false) := Lib.hid (by rw [← HR.out]; simp; omega)
    go_enter Tryz.func210, Tryz.ntmps210
    go_wp2
    go_ret
    exact ⟨ret_bool (by first | exact HQ.out.symm | (rw [HQ.out]; simp; omega)), rfl⟩
  · have HQ : Hid (r = true) := Lib.hid (by rw [← HR.out]; simp; omega)
    go_enter Tryz.func210, Tryz.ntmps210
    go_wp2
    go_ret
    exact ⟨ret_bool (by first | exact HQ.out.symm | (rw [HQ.out]; simp; omega)), rfl⟩
  · have HQ : Hid (r = false) := Lib.hid (by rw [← HR.out]; simp; omega)
    go_enter Tryz.func210, Tryz.ntmps210
    go_wp2
    go_ret
    exact ⟨ret_bool (by first | exact HQ.out.symm | (rw [HQ.out]; simp; omega)), rfl⟩
  · have HQ : Hid (r = false) := Lib.hid (by rw [← HR.out]; simp; omega)
    go_enter Tryz.func210, Tryz.ntmps210
    go_wp2
    go_ret
    exact ⟨ret_bool (by first | exact HQ.out.symm | (rw [HQ.out]; simp; omega)), rfl⟩
/-- impl.isDigit -/
theorem isDg_any (b : UInt8) (r : Bool) (hr : isDg b = r) (w : World) :
    Calls Tryz.prog 211 #[.int .u8 (b.toNat : Int)] w fun e w' => e = .returned (.bool r) ∧ w = w' := by
  obtain ⟨x, hx⟩ : ∃ x, x = b.toNat := ⟨_, rfl⟩
  have HR : Hid (decide (48 ≤ x ∧ x ≤ 57) = r) := Lib.hid (by rw [← hr, isDg, hx])
  rw [← hx]
  clear hx hr
  have hcase : (48 ≤ x ∧ x ≤ 57) ∨ (57 < x) ∨ x < 48 := by omega
  rcases hcase with ⟨h1, h2⟩ | h1 | h1
  · have HQ : Hid (r = true) := Lib.hid (by rw [← HR.out]; simp; omega)
    go_enter Tryz.func211, Tryz.ntmps211
    go_wp2
    go_ret
    exact ⟨ret_bool (by first | exact HQ.out.symm | (rw [HQ.out]; simp; omega)), rfl⟩
  · have HQ : Hid (r = false) := Lib.hid (by rw [← HR.out]; simp; omega)
    go_enter Tryz.func211, Tryz.ntmps211
    go_wp2
    go_ret
    exact ⟨ret_bool (by first | exact HQ.out.symm | (rw [HQ.out]; simp; omega)), rfl⟩
  · have HQ : Hid (r = false) := Lib.hid (by rw [← HR.out]; simp; omega)
    go_enter Tryz.func211, Tryz.ntmps211
    go_wp2
    go_ret
    exact ⟨ret_bool (by first | exact HQ.out.symm | (rw [HQ.out]; simp; omega)), rfl⟩
/-- impl.IsName -/
theorem iName_any (l : List UInt8) (hl : l.length ≤ maxLen) (r : Bool) (hr : nameOk l = r) (w : World) :
    Calls Tryz.prog 180 #[.string (bstr l)] w fun e w' => e = .returned (.bool r) ∧ w = w' := by
  unfold maxLen at hl
  have hsz : (bstr l).size = l.length := bstr_size l
  have HR := Lib.hid hr
  clear hr
  by_cases hlo : l.length < 1
  · have HQ : Hid (r = false) := Lib.hid (by rw [← HR.out]; simp [nameOk]; omega)
    go_enter Tryz.func180, Tryz.ntmps180
    go_wp2
    go_ret
    exact ⟨ret_bool HQ.out.symm, rfl⟩
  by_cases hhi : 12 < l.length
  · have HQ : Hid (r = false) := Lib.hid (by rw [← HR.out]; simp [nameOk]; omega)
    go_enter Tryz.func180, Tryz.ntmps180
    go_wp2
    go_ret
    exact ⟨ret_bool HQ.out.symm, rfl⟩
  have hidx : ∀ w : World, (Instr.index 9 (.string (bstr l)) (.int .i64 0)).run Tryz.prog w = .ok (.int .u8 ((l.getD 0 0).toNat : Int)) w := fun w => run_index_bstr (i := 0) w Tryz.underlying9 (by omega)
  have hd1 : decide ((l.length : Int) < 1) = false := by simp; omega
  have hd2 : decide ((12 : Int) < (l.length : Int)) = false := by simp; omega
  obtain ⟨b, hb⟩ : ∃ b, b = l.getD 0 0 := ⟨_, rfl⟩
  rw [← hb] at hidx
  cases hL : isL b with
  | false =>
    have HQ : Hid (r = false) := Lib.hid (by rw [← HR.out]; simp only [nameOk]; rw [← hb, hL]; simp)
    have HC := Lib.hid (fun W => isL_any b false hL W)
    clear hL hb
    go_enter Tryz.func180, Tryz.ntmps180
    go_wp2_with (go_at_call 210; refine (HC.out _).mono ?_; rintro e w1 ⟨rfl, rfl⟩)
    go_ret
    exact ⟨ret_bool HQ.out.symm, rfl⟩
  | true =>
    have HC := Lib.hid (fun W => isL_any b true hL W)
    have HL := Lib.hid hL
    have HB := Lib.hid hb
    clear hL hb
    go_enter Tryz.func180, Tryz.ntmps180
    go_wp2_with (go_at_call 210; refine (HC.out _).mono ?_; rintro e w1 ⟨rfl, rfl⟩)
    go_loop [3, 20] (fun u i => ∃ k : Nat, k ≤ l.length ∧ i = .int .i64 k ∧ Hid ((l.take k).all isLD = true)) (fun _ i => l.length - (intOf i).toNat)
    case atStart => exact ⟨0, Nat.zero_le _, rfl, Lib.hid (by simp)⟩
    case round =>
      obtain ⟨k, hk, rfl, HA⟩ := hrel
      by_cases hlt : k < l.length
      · have hidx2 : ∀ w : World, (Instr.index 9 (.string (bstr l)) (.int .i64 (k : Int))).run Tryz.prog w = .ok (.int .u8 ((l.getD k 0).toNat : Int)) w := fun w => run_index_bstr w Tryz.underlying9 hlt
        obtain ⟨c, hc⟩ : ∃ c, c = l.getD k 0 := ⟨_, rfl⟩
        rw [← hc] at hidx2
        cases hL2 : isL c with
        | true =>
          have HC2 := Lib.hid (fun W => isL_any c true hL2 W)
          have HA2 : Hid ((l.take (k + 1)).all isLD = true) := Lib.hid (by rw [all_take l _ k hlt, HA.out, ← hc, isLD, hL2]; rfl)
          clear hL2 hc
          go_wp2_with (go_at_call 210; refine (HC2.out _).mono ?_; rintro e w1 ⟨rfl, rfl⟩)
          go_round
          case rel => exact ⟨k + 1, by omega, by go_num, HA2⟩
          case measure => simp [intOf]; omega
        | false =>
          have HC2 := Lib.hid (fun W => isL_any c false hL2 W)
          cases hD2 : isDg c with
          | true =>
            have HD2 := Lib.hid (fun W => isDg_any c true hD2 W)
            have HA2 : Hid ((l.take (k + 1)).all isLD = true) := Lib.hid (by rw [all_take l _ k hlt, HA.out, ← hc, isLD, hD2]; simp)
            clear hL2 hc hD2
            go_wp2_with (first | (go_at_call 210; refine (HC2.out _).mono ?_; rintro e w1 ⟨rfl, rfl⟩) | (go_at_call 211; refine (HD2.out _).mono ?_; rintro e w1 ⟨rfl, rfl⟩))
            go_round
            case rel => exact ⟨k + 1, by omega, by go_num, HA2⟩
            case measure => simp [intOf]; omega
          | false =>
            have HD2 := Lib.hid (fun W => isDg_any c false hD2 W)
            have HQ : Hid (r = false) := Lib.hid (by
              have hbad := all_bad l isLD k hlt (by rw [← hc, isLD, hL2, hD2]; rfl)
              rw [← HR.out]; simp only [nameOk]; rw [hbad]; simp)
            clear hL2 hc hD2
            go_wp2_with (first | (go_at_call 210; refine (HC2.out _).mono ?_; rintro e w1 ⟨rfl, rfl⟩) | (go_at_call 211; refine (HD2.out _).mono ?_; rintro e w1 ⟨rfl, rfl⟩))
            go_ret
            exact ⟨ret_bool HQ.out.symm, rfl⟩
      · obtain rfl : k = l.length := by omega
        have hA : l.all isLD = true := by have := HA.out; rwa [List.take_length] at this
        by_cases h1 : l = [105, 102]
        · have HQ : Hid (r = false) := Lib.hid (by rw [← HR.out]; simp only [nameOk]; rw [h1]; simp)
          have hn1 : ((bstr l).toList == [105, 102]) = true := by rw [bstr_toL, h1]; rfl
          have H1 := Lib.hid h1
          clear hA h1
          go_wp2
          go_ret
          exact ⟨ret_bool HQ.out.symm, rfl⟩
        · by_cases h2 : l = [97, 110, 100]
          · have HQ : Hid (r = false) := Lib.hid (by rw [← HR.out]; simp only [nameOk]; rw [h2]; simp)
            have hn1 : ((bstr l).toList == [105, 102]) = false := by rw [bstr_toL]; simpa using h1
            have hn2 : ((bstr l).toList == [97, 110, 100]) = true := by rw [bstr_toL, h2]; rfl
            have H1 := Lib.hid h2
            clear hA h1 h2
            go_wp2
            go_ret
            exact ⟨ret_bool HQ.out.symm, rfl⟩
          · have HQ : Hid (r = true) := Lib.hid (by
              rw [← HR.out]; simp only [nameOk]; rw [hA, ← HB.out, HL.out]; simp [h1, h2]; omega)
            have hn1 : ((bstr l).toList == [105, 102]) = false := by rw [bstr_toL]; simpa using h1
            have hn2 : ((bstr l).toList == [97, 110, 100]) = false := by rw [bstr_toL]; simpa using h2
            clear hA h1 h2
            go_wp2
            go_ret
            exact ⟨ret_bool HQ.out.symm, rfl⟩
/-- the classes of a byte, as the tests of a name decide them -/
theorem classes (y : Int) :
    (decide (97 ≤ y) = true ∧ decide (y ≤ 122) = true) ∨
    (decide (97 ≤ y) = false ∧ decide (65 ≤ y) = true ∧ decide (y ≤ 90) = true) ∨
    (decide (97 ≤ y) = false ∧ decide (65 ≤ y) = false ∧ decide (48 ≤ y) = true ∧ decide (y ≤ 57) = true) ∨
    (decide (97 ≤ y) = true ∧ decide (y ≤ 122) = false ∧ decide (65 ≤ y) = true ∧ decide (y ≤ 90) = false ∧ decide (48 ≤ y) = true ∧ decide (y ≤ 57) = false) ∨
    (decide (97 ≤ y) = false ∧ decide (65 ≤ y) = true ∧ decide (y ≤ 90) = false ∧ decide (48 ≤ y) = true ∧ decide (y ≤ 57) = false) ∨
    (decide (97 ≤ y) = false ∧ decide (65 ≤ y) = false ∧ decide (48 ≤ y) = true ∧ decide (y ≤ 57) = false) ∨
    (decide (97 ≤ y) = false ∧ decide (65 ≤ y) = false ∧ decide (48 ≤ y) = false) := by
  simp only [decide_eq_true_eq, decide_eq_false_iff_not]; omega
def clL (y : Int) : Bool := decide ((97 ≤ y ∧ y ≤ 122) ∨ (65 ≤ y ∧ y ≤ 90))
def clD (y : Int) : Bool := decide (48 ≤ y ∧ y ≤ 57)
theorem clL_of (b : UInt8) : isL b = clL (b.toNat : Int) := by
  rw [isL, clL, decide_eq_decide]; omega
theorem clLD_of (b : UInt8) : isLD b = (clL (b.toNat : Int) || clD (b.toNat : Int)) := by
  rw [isLD, clL_of, isDg, clD]; congr 1; rw [decide_eq_decide]; omega
set_option maxHeartbeats 1000000 in
/-- spec.IsName -/
theorem sName_any (l : List UInt8) (hl : l.length ≤ maxLen) (r : Bool) (hr : nameOk l = r) (w : World) :
    Calls Tryz.prog 98 #[.string (bstr l)] w fun e w' => e = .returned (.bool r) ∧ w = w' := by
  unfold maxLen at hl
  have hsz : (bstr l).size = l.length := bstr_size l
  have HR := Lib.hid hr
  clear hr
  by_cases h1 : l = [105, 102]
  · have HQ : Hid (r = false) := Lib.hid (by rw [← HR.out]; simp only [nameOk]; rw [h1]; simp)
    have hn1 : ((bstr l).toList == [105, 102]) = true := by rw [bstr_toL, h1]; rfl
    clear h1
    go_enter Tryz.func98, Tryz.ntmps98
    go_wp2
    go_ret
    exact ⟨ret_bool HQ.out.symm, rfl⟩
  have hn1 : ((bstr l).toList == [105, 102]) = false := by rw [bstr_toL]; simpa using h1
  by_cases h2 : l = [97, 110, 100]
  · have HQ : Hid (r = false) := Lib.hid (by rw [← HR.out]; simp only [nameOk]; rw [h2]; simp)
    have hn2 : ((bstr l).toList == [97, 110, 100]) = true := by rw [bstr_toL, h2]; rfl
    clear h1 h2
    go_enter Tryz.func98, Tryz.ntmps98
    go_wp2
    go_ret
    exact ⟨ret_bool HQ.out.symm, rfl⟩
  have hn2 : ((bstr l).toList == [97, 110, 100]) = false := by rw [bstr_toL]; simpa using h2
  have H1 := Lib.hid h1
  have H2 := Lib.hid h2
  clear h1 h2
  by_cases hlo : l.length < 1
  · have HQ : Hid (r = false) := Lib.hid (by rw [← HR.out]; simp [nameOk]; omega)
    go_enter Tryz.func98, Tryz.ntmps98
    go_wp2
    go_ret
    exact ⟨ret_bool HQ.out.symm, rfl⟩
  by_cases hhi : 12 < l.length
  · have HQ : Hid (r = false) := Lib.hid (by rw [← HR.out]; simp [nameOk]; omega)
    go_enter Tryz.func98, Tryz.ntmps98
    go_wp2
    go_ret
    exact ⟨ret_bool HQ.out.symm, rfl⟩
  have hidx : ∀ w : World, (Instr.index 9 (.string (bstr l)) (.int .i64 0)).run Tryz.prog w = .ok (.int .u8 ((l.getD 0 0).toNat : Int)) w := fun w => run_index_bstr (i := 0) w Tryz.underlying9 (by omega)
  have hd1 : decide ((l.length : Int) < 1) = false := by simp; omega
  have hd2 : decide ((12 : Int) < (l.length : Int)) = false := by simp; omega
  have HL : Hid (clL ((l.getD 0 0).toNat : Int) = false → r = false) := Lib.hid (by
    intro h; rw [← HR.out]; simp only [nameOk]; rw [clL_of, h]; simp)
  have HT : Hid (clL ((l.getD 0 0).toNat : Int) = true → l.all isLD = true → r = true) := Lib.hid (by
    intro h h'; rw [← HR.out]; simp only [nameOk]; rw [clL_of, h, h']; have := H1.out; have := H2.out; simp [*]; omega)
  have HF : Hid (∀ k, k < l.length → (clL ((l.getD k 0).toNat : Int) || clD ((l.getD k 0).toNat : Int)) = false → r = false) := Lib.hid (by
    intro k hk h; rw [← HR.out]; simp only [nameOk]; rw [all_bad l isLD k hk (by rw [clLD_of]; exact h)]; simp)
  have HA : Hid (∀ k, k < l.length → (clL ((l.getD k 0).toNat : Int) || clD ((l.getD k 0).toNat : Int)) = true → (l.take k).all isLD = true → (l.take (k + 1)).all isLD = true) := Lib.hid (by
    intro k hk h h2; rw [all_take l _ k hk, h2, clLD_of, h]; rfl)
  obtain ⟨x, hx⟩ : ∃ x : Int, x = ((l.getD 0 0).toNat : Int) := ⟨_, rfl⟩
  rw [← hx] at hidx HL HT
  clear hx
  rcases classes x with ⟨h1, h2⟩ | ⟨h1, h2, h3⟩ | ⟨h1, h2, _⟩ | ⟨h1, h2, h3, h4, _⟩ | ⟨h1, h2, h3, _⟩ | ⟨h1, h2, _⟩ | ⟨h1, h2, _⟩
  · have HT2 : Hid (l.all isLD = true → r = true) := Lib.hid (HT.out (by simp only [clL, decide_eq_true_eq] at *; omega))
    go_enter Tryz.func98, Tryz.ntmps98
    go_wp2
    go_loop [3] (fun i => ∃ k : Nat, k ≤ l.length ∧ i = .int .i64 k ∧ Hid ((l.take k).all isLD = true)) (fun i => l.length - (intOf i).toNat)
    case atStart => exact ⟨0, Nat.zero_le _, rfl, Lib.hid (by simp)⟩
    case round =>
      obtain ⟨k, hk, rfl, HK⟩ := hrel
      by_cases hlt : k < l.length
      · have hidx2 : ∀ w : World, (Instr.index 9 (.string (bstr l)) (.int .i64 (k : Int))).run Tryz.prog w = .ok (.int .u8 ((l.getD k 0).toNat : Int)) w := fun w => run_index_bstr w Tryz.underlying9 hlt
        have HF2 := Lib.hid (HF.out k hlt)
        have HA2 := Lib.hid (HA.out k hlt)
        obtain ⟨y, hy⟩ : ∃ y : Int, y = ((l.getD k 0).toNat : Int) := ⟨_, rfl⟩
        rw [← hy] at hidx2 HF2 HA2
        clear hy hidx h1 h2
        rcases classes y with ⟨g1, g2⟩ | ⟨g1, g2, g3⟩ | ⟨g1, g2, g3, g4⟩ | ⟨g1, g2, g3, g4, g5, g6⟩ | ⟨g1, g2, g3, g4, g5⟩ | ⟨g1, g2, g3, g4⟩ | ⟨g1, g2, g3⟩
        · have HA3 : Hid ((l.take (k + 1)).all isLD = true) := Lib.hid (HA2.out (by simp only [clL, clD, Bool.or_eq_true, decide_eq_true_eq, decide_eq_false_iff_not] at *; omega) HK.out)
          go_wp2
          go_round
          case rel => exact ⟨k + 1, by omega, by go_num, HA3⟩
          case measure => simp [intOf]; omega
        · have HA3 : Hid ((l.take (k + 1)).all isLD = true) := Lib.hid (HA2.out (by simp only [clL, clD, Bool.or_eq_true, decide_eq_true_eq, decide_eq_false_iff_not] at *; omega) HK.out)
          go_wp2
          go_round
          case rel => exact ⟨k + 1, by omega, by go_num, HA3⟩
          case measure => simp [intOf]; omega
        · have HA3 : Hid ((l.take (k + 1)).all isLD = true) := Lib.hid (HA2.out (by simp only [clL, clD, Bool.or_eq_true, decide_eq_true_eq, decide_eq_false_iff_not] at *; omega) HK.out)
          go_wp2
          go_round
          case rel => exact ⟨k + 1, by omega, by go_num, HA3⟩
          case measure => simp [intOf]; omega
        · have HQ : Hid (r = false) := Lib.hid (HF2.out (by simp only [clL, clD, Bool.or_eq_false_iff, decide_eq_true_eq, decide_eq_false_iff_not] at *; omega))
          go_wp2
          go_ret
          exact ⟨ret_bool HQ.out.symm, rfl⟩
        · have HQ : Hid (r = false) := Lib.hid (HF2.out (by simp only [clL, clD, Bool.or_eq_false_iff, decide_eq_true_eq, decide_eq_false_iff_not] at *; omega))
          go_wp2
          go_ret
          exact ⟨ret_bool HQ.out.symm, rfl⟩
        · have HQ : Hid (r = false) := Lib.hid (HF2.out (by simp only [clL, clD, Bool.or_eq_false_iff, decide_eq_true_eq, decide_eq_false_iff_not] at *; omega))
          go_wp2
          go_ret
          exact ⟨ret_bool HQ.out.symm, rfl⟩
        · have HQ : Hid (r = false) := Lib.hid (HF2.out (by simp only [clL, clD, Bool.or_eq_false_iff, decide_eq_true_eq, decide_eq_false_iff_not] at *; omega))
          go_wp2
          go_ret
          exact ⟨ret_bool HQ.out.symm, rfl⟩
      · obtain rfl : k = l.length := by omega
        have HQ : Hid (r = true) := Lib.hid (HT2.out (by have := HK.out; rwa [List.take_length] at this))
        go_wp2
        go_ret
        exact ⟨ret_bool HQ.out.symm, rfl⟩
  · have HT2 : Hid (l.all isLD = true → r = true) := Lib.hid (HT.out (by simp only [clL, decide_eq_true_eq] at *; omega))
    go_enter Tryz.func98, Tryz.ntmps98
    go_wp2
    go_loop [3] (fun i => ∃ k : Nat, k ≤ l.length ∧ i = .int .i64 k ∧ Hid ((l.take k).all isLD = true)) (fun i => l.length - (intOf i).toNat)
    case atStart => exact ⟨0, Nat.zero_le _, rfl, Lib.hid (by simp)⟩
    case round =>
      obtain ⟨k, hk, rfl, HK⟩ := hrel
      by_cases hlt : k < l.length
      · have hidx2 : ∀ w : World, (Instr.index 9 (.string (bstr l)) (.int .i64 (k : Int))).run Tryz.prog w = .ok (.int .u8 ((l.getD k 0).toNat : Int)) w := fun w => run_index_bstr w Tryz.underlying9 hlt
        have HF2 := Lib.hid (HF.out k hlt)
        have HA2 := Lib.hid (HA.out k hlt)
        obtain ⟨y, hy⟩ : ∃ y : Int, y = ((l.getD k 0).toNat : Int) := ⟨_, rfl⟩
        rw [← hy] at hidx2 HF2 HA2
        clear hy hidx h1 h2 h3
        rcases classes y with ⟨g1, g2⟩ | ⟨g1, g2, g3⟩ | ⟨g1, g2, g3, g4⟩ | ⟨g1, g2, g3, g4, g5, g6⟩ | ⟨g1, g2, g3, g4, g5⟩ | ⟨g1, g2, g3, g4⟩ | ⟨g1, g2, g3⟩
        · have HA3 : Hid ((l.take (k + 1)).all isLD = true) := Lib.hid (HA2.out (by simp only [clL, clD, Bool.or_eq_true, decide_eq_true_eq, decide_eq_false_iff_not] at *; omega) HK.out)
          go_wp2
          go_round
          case rel => exact ⟨k + 1, by omega, by go_num, HA3⟩
          case measure => simp [intOf]; omega
        · have HA3 : Hid ((l.take (k + 1)).all isLD = true) := Lib.hid (HA2.out (by simp only [clL, clD, Bool.or_eq_true, decide_eq_true_eq, decide_eq_false_iff_not] at *; omega) HK.out)
          go_wp2
          go_round
          case rel => exact ⟨k + 1, by omega, by go_num, HA3⟩
          case measure => simp [intOf]; omega
        · have HA3 : Hid ((l.take (k + 1)).all isLD = true) := Lib.hid (HA2.out (by simp only [clL, clD, Bool.or_eq_true, decide_eq_true_eq, decide_eq_false_iff_not] at *; omega) HK.out)
          go_wp2
          go_round
          case rel => exact ⟨k + 1, by omega, by go_num, HA3⟩
          case measure => simp [intOf]; omega
        · have HQ : Hid (r = false) := Lib.hid (HF2.out (by simp only [clL, clD, Bool.or_eq_false_iff, decide_eq_true_eq, decide_eq_false_iff_not] at *; omega))
          go_wp2
          go_ret
          exact ⟨ret_bool HQ.out.symm, rfl⟩
        · have HQ : Hid (r = false) := Lib.hid (HF2.out (by simp only [clL, clD, Bool.or_eq_false_iff, decide_eq_true_eq, decide_eq_false_iff_not] at *; omega))
          go_wp2
          go_ret
          exact ⟨ret_bool HQ.out.symm, rfl⟩
        · have HQ : Hid (r = false) := Lib.hid (HF2.out (by simp only [clL, clD, Bool.or_eq_false_iff, decide_eq_true_eq, decide_eq_false_iff_not] at *; omega))
          go_wp2
          go_ret
          exact ⟨ret_bool HQ.out.symm, rfl⟩
        · have HQ : Hid (r = false) := Lib.hid (HF2.out (by simp only [clL, clD, Bool.or_eq_false_iff, decide_eq_true_eq, decide_eq_false_iff_not] at *; omega))
          go_wp2
          go_ret
          exact ⟨ret_bool HQ.out.symm, rfl⟩
      · obtain rfl : k = l.length := by omega
        have HQ : Hid (r = true) := Lib.hid (HT2.out (by have := HK.out; rwa [List.take_length] at this))
        go_wp2
        go_ret
        exact ⟨ret_bool HQ.out.symm, rfl⟩
  · have HQ : Hid (r = false) := Lib.hid (HL.out (by simp only [clL, decide_eq_true_eq, decide_eq_false_iff_not] at *; omega))
    go_enter Tryz.func98, Tryz.ntmps98
    go_wp2
    go_ret
    exact ⟨ret_bool HQ.out.symm, rfl⟩
  · have HQ : Hid (r = false) := Lib.hid (HL.out (by simp only [clL, decide_eq_true_eq, decide_eq_false_iff_not] at *; omega))
    go_enter Tryz.func98, Tryz.ntmps98
    go_wp2
    go_ret
    exact ⟨ret_bool HQ.out.symm, rfl⟩
  · have HQ : Hid (r = false) := Lib.hid (HL.out (by simp only [clL, decide_eq_true_eq, decide_eq_false_iff_not] at *; omega))
    go_enter Tryz.func98, Tryz.ntmps98
    go_wp2
    go_ret
    exact ⟨ret_bool HQ.out.symm, rfl⟩
  · have HQ : Hid (r = false) := Lib.hid (HL.out (by simp only [clL, decide_eq_true_eq, decide_eq_false_iff_not] at *; omega))
    go_enter Tryz.func98, Tryz.ntmps98
    go_wp2
    go_ret
    exact ⟨ret_bool HQ.out.symm, rfl⟩
  · have HQ : Hid (r = false) := Lib.hid (HL.out (by simp only [clL, decide_eq_true_eq, decide_eq_false_iff_not] at *; omega))
    go_enter Tryz.func98, Tryz.ntmps98
    go_wp2
    go_ret
    exact ⟨ret_bool HQ.out.symm, rfl⟩
/-- a slice's beginning -/
theorem has_take {w : World} {A : Option Addr} {n c : Nat} {xs : List Value} (h : Has w (.slice A n c) xs) {k : Nat} (hk : k ≤ n) : Has w (.slice A k c) (xs.take k) := by
  obtain ⟨A', c', e, h1, h2, h3⟩ := h
  simp only [Value.slice.injEq] at e
  obtain ⟨rfl, rfl, rfl⟩ := e
  refine ⟨A, c, by rw [List.length_take]; congr 1; omega, by rw [List.length_take]; omega, h2, fun j u hu => ?_⟩
  rw [List.getElem?_take] at hu
  split at hu
  · exact h3 j u hu
  · cases hu
theorem ssv_take (P : List (List UInt8)) (k : Nat) : (ssv P).take k = ssv (P.take k) := by simp [ssv, List.map_take]
theorem mem_get {P : List (List UInt8)} {x : List UInt8} {k : Nat} (hk : k < P.length) (h : P.getD k [] = x) : x ∈ P := by
  rw [← h]; simp only [List.getD, List.getElem?_eq_getElem hk, Option.getD_some]; exact List.getElem_mem hk
/-- slices.Index, at strings -/
theorem index_any (P : List (List UInt8)) (x : List UInt8) (v : Value) (w : World) (h : Has w v (ssv P)) :
    Calls Tryz.prog 212 #[v, .string (bstr x)] w fun e w' => ∃ i : Int, e = .returned (.int .i64 i) ∧ -1 ≤ i ∧ i ≤ 9223372036854775807 ∧ (0 ≤ i ↔ x ∈ P) ∧ w = w' := by
  obtain ⟨A, c, rfl, h⟩ := h.shape (ssv_len P)
  have hl := h.len.2
  have HH := Lib.hid h
  clear h
  go_enter Tryz.func212, Tryz.ntmps212
  go_wp2
  go_loop [5, 8] (fun u i => ∃ k : Nat, k ≤ P.length ∧ i = .int .i64 k ∧ Hid (x ∉ P.take k)) (fun _ i => P.length - (intOf i).toNat)
  case atStart => exact ⟨0, Nat.zero_le _, rfl, Lib.hid (by simp)⟩
  case round =>
    obtain ⟨k, hk, rfl, HX⟩ := hrel
    by_cases hlt : k < P.length
    · obtain ⟨g, o, rfl, hg, hcell⟩ := HH.out.cellAt hlt
      rw [ssv_get P k hlt] at hcell
      obtain ⟨y, hy⟩ : ∃ y, y = P.getD k [] := ⟨_, rfl⟩
      rw [← hy] at hcell
      by_cases hxy : x = y
      · subst hxy
        have HM : Hid (x ∈ P) := Lib.hid (mem_get hlt hy.symm)
        clear hy
        go_wp2
        go_ret
        exact ⟨k, rfl, by omega, by omega, ⟨fun _ => HM.out, fun _ => by omega⟩, rfl⟩
      · have hne : ((bstr x).toList == (bstr y).toList) = false := by rw [bstr_eq]; simpa using hxy
        have HX2 : Hid (x ∉ P.take (k + 1)) := Lib.hid (by rw [take_get P k hlt, ← hy]; simp only [List.mem_append, List.mem_singleton, not_or]; exact ⟨HX.out, hxy⟩)
        clear hxy hy
        go_wp2
        go_round
        case rel => exact ⟨k + 1, by omega, by go_num, HX2⟩
        case measure => simp [intOf]; omega
    · obtain rfl : k = P.length := by omega
      have HM : Hid (x ∉ P) := Lib.hid (by have := HX.out; rwa [List.take_length] at this)
      go_wp2
      go_ret
      exact ⟨-1, rfl, by omega, by omega, ⟨fun h => by omega, fun h => absurd h HM.out⟩, rfl⟩
/-- slices.Contains, at strings -/
theorem contains_any (P : List (List UInt8)) (x : List UInt8) (v : Value) (r : Bool) (hr : decide (x ∈ P) = r) (w : World) (h : Has w v (ssv P)) :
    Calls Tryz.prog 181 #[v, .string (bstr x)] w fun e w' => e = .returned (.bool r) ∧ w = w' := by
  have HI := Lib.hid (index_any P x v w h)
  have HR := Lib.hid hr
  obtain ⟨A, c, rfl, _⟩ := h.shape (ssv_len P)
  clear h hr
  go_enter Tryz.func181, Tryz.ntmps181
  go_wp2_with (go_at_call 212; refine HI.out.mono ?_; rintro e w1 ⟨i, rfl, hi1, hi2, hiff, rfl⟩)
  go_ret
  exact ⟨ret_bool (by first | exact HR.out | (rw [← HR.out, Bool.eq_iff_iff]; simp only [decide_eq_true_eq]; exact hiff)), rfl⟩
/-- spec.l1Has -/
theorem l1Has_any (P : List (List UInt8)) (x : List UInt8) (v : Value) (r : Bool) (hr : decide (x ∈ P) = r) (w : World) (h : Has w v (ssv P)) :
    Calls Tryz.prog 140 #[v, .string (bstr x)] w fun e w' => e = .returned (.bool r) ∧ w = w' := by
  obtain ⟨A, c, rfl, h⟩ := h.shape (ssv_len P)
  have hl := h.len.2
  have HH := Lib.hid h
  have HR := Lib.hid hr
  clear h hr
  go_enter Tryz.func140, Tryz.ntmps140
  go_wp2
  go_loop [5] (fun i => ∃ k : Nat, k ≤ P.length ∧ i = .int .i64 k ∧ Hid (x ∉ P.take k)) (fun i => P.length - (intOf i).toNat)
  case atStart => exact ⟨0, Nat.zero_le _, rfl, Lib.hid (by simp)⟩
  case round =>
    obtain ⟨k, hk, rfl, HX⟩ := hrel
    by_cases hlt : k < P.length
    · obtain ⟨g, o, rfl, hg, hcell⟩ := HH.out.cellAt hlt
      rw [ssv_get P k hlt] at hcell
      obtain ⟨y, hy⟩ : ∃ y, y = P.getD k [] := ⟨_, rfl⟩
      rw [← hy] at hcell
      by_cases hxy : y = x
      · subst hxy
        have HM : Hid (r = true) := Lib.hid (by rw [← HR.out]; simpa using mem_get hlt hy.symm)
        clear hy
        go_wp2
        go_ret
        exact ⟨ret_bool HM.out.symm, rfl⟩
      · have hne : ((bstr y).toList == (bstr x).toList) = false := by rw [bstr_eq]; simpa using hxy
        have HX2 : Hid (x ∉ P.take (k + 1)) := Lib.hid (by rw [take_get P k hlt, ← hy]; simp only [List.mem_append, List.mem_singleton, not_or]; exact ⟨HX.out, fun e => hxy e.symm⟩)
        clear hxy hy
        go_wp2
        go_round
        case rel => exact ⟨k + 1, by omega, by go_num, HX2⟩
        case measure => simp [intOf]; omega
    · obtain rfl : k = P.length := by omega
      have HM : Hid (r = false) := Lib.hid (by rw [← HR.out]; simp only [decide_eq_false_iff_not]; have := HX.out; rwa [List.take_length] at this)
      go_wp2
      go_ret
      exact ⟨ret_bool HM.out.symm, rfl⟩
def namesTo (P : List (List UInt8)) (k : Nat) : Bool := (List.range k).all fun i => nameOk (P.getD i []) && !decide (P.getD i [] ∈ P.take i)
theorem namesTo_succ (P : List (List UInt8)) (k : Nat) : namesTo P (k + 1) = (namesTo P k && (nameOk (P.getD k []) && !decide (P.getD k [] ∈ P.take k))) := by
  rw [namesTo, List.range_succ, List.all_append]; simp [namesTo]
theorem namesTo_bad (P : List (List UInt8)) (k n : Nat) (hk : k < n) (h : nameOk (P.getD k []) = false ∨ P.getD k [] ∈ P.take k) : namesTo P n = false := by
  simp only [namesTo, List.all_eq_false]
  refine ⟨k, by simpa using hk, ?_⟩
  rcases h with h | h
  · rw [h]; simp
  · rw [decide_eq_true h]; simp
/-- impl.areDifferentNames -/
theorem diff_any (P : List (List UInt8)) (hP : ∀ k, k < P.length → (P.getD k []).length ≤ maxLen) (v : Value) (r : Bool) (hr : namesTo P P.length = r) (w : World) (h : Has w v (ssv P)) :
    Calls Tryz.prog 144 #[v] w fun e w' => e = .returned (.bool r) ∧ w = w' := by
  obtain ⟨A, c, rfl, h⟩ := h.shape (ssv_len P)
  have hl := h.len.2
  have hcap : P.length ≤ c := by obtain ⟨A', c', e, h1, h2, _⟩ := h; simp only [Value.slice.injEq] at e; rw [e.2.2, ← ssv_len P]; exact h1
  have HH := Lib.hid h
  have HR := Lib.hid hr
  have HP := Lib.hid hP
  clear h hr hP
  go_enter Tryz.func144, Tryz.ntmps144
  go_wp2
  go_loop [3, 4, 7] (fun _ _ i => ∃ k : Nat, k ≤ P.length ∧ i = .int .i64 k ∧ Hid (namesTo P k = true)) (fun _ _ i => P.length - (intOf i).toNat)
  case atStart => exact ⟨0, Nat.zero_le _, rfl, Lib.hid rfl⟩
  case round =>
    obtain ⟨k, hk, rfl, HX⟩ := hrel
    by_cases hlt : k < P.length
    · obtain ⟨g, o, rfl, hg, hcell⟩ := HH.out.cellAt hlt
      rw [ssv_get P k hlt] at hcell
      have HT := Lib.hid (has_take HH.out (k := k) (by omega))
      rw [ssv_take] at HT
      have HS := Lib.hid (namesTo_succ P k)
      have HB := Lib.hid (namesTo_bad P k P.length hlt)
      have HP2 := Lib.hid (HP.out k hlt)
      obtain ⟨x, hx⟩ : ∃ x, x = P.getD k [] := ⟨_, rfl⟩
      rw [← hx] at hcell HS HB HP2
      have HC := Lib.hid (fun r hr => contains_any (P.take k) x (.slice (some ⟨g, o, none⟩) k c) r hr w HT.out)
      clear hx
      cases hn : nameOk x with
      | false =>
        have HQ : Hid (r = false) := Lib.hid (by rw [← HR.out]; exact HB.out (.inl hn))
        have HN := Lib.hid (fun W => iName_any x HP2.out false hn W)
        clear hn
        go_wp2_with (go_at_call 180; refine (HN.out _).mono ?_; rintro e w1 ⟨rfl, rfl⟩)
        go_ret
        exact ⟨ret_bool HQ.out.symm, rfl⟩
      | true =>
        have HN := Lib.hid (fun W => iName_any x HP2.out true hn W)
        by_cases hm : x ∈ P.take k
        · have HQ : Hid (r = false) := Lib.hid (by rw [← HR.out]; exact HB.out (.inr hm))
          have HC2 := Lib.hid (HC.out true (by simpa using hm))
          clear hn hm
          go_wp2_with (first | (go_at_call 180; refine (HN.out _).mono ?_; rintro e w1 ⟨rfl, rfl⟩) | (go_at_call 181; refine HC2.out.mono ?_; rintro e w1 ⟨rfl, rfl⟩))
          go_ret
          exact ⟨ret_bool HQ.out.symm, rfl⟩
        · have HX2 : Hid (namesTo P (k + 1) = true) := Lib.hid (by rw [HS.out, HX.out, hn]; simpa using hm)
          have HC2 := Lib.hid (HC.out false (by simpa using hm))
          clear hn hm
          go_wp2_with (first | (go_at_call 180; refine (HN.out _).mono ?_; rintro e w1 ⟨rfl, rfl⟩) | (go_at_call 181; refine HC2.out.mono ?_; rintro e w1 ⟨rfl, rfl⟩))
          go_round
          case rel => exact ⟨k + 1, by omega, by go_num, HX2⟩
          case measure => simp [intOf]; omega
    · obtain rfl : k = P.length := by omega
      have HQ : Hid (r = true) := Lib.hid (by rw [← HR.out]; exact HX.out)
      go_wp2
      go_ret
      exact ⟨ret_bool HQ.out.symm, rfl⟩
def namesOk (P : List (List UInt8)) : Bool := decide (1 ≤ P.length ∧ P.length ≤ 8) && namesTo P P.length
/-- impl.areSortNames -/
theorem sortNames_any (P : List (List UInt8)) (hP : ∀ k, k < P.length → (P.getD k []).length ≤ maxLen) (v : Value) (r : Bool) (hr : namesOk P = r) (w : World) (h : Has w v (ssv P)) :
    Calls Tryz.prog 134 #[v] w fun e w' => e = .returned (.bool r) ∧ w = w' := by
  have HD := Lib.hid (fun r hr => diff_any P hP v r hr w h)
  obtain ⟨A, c, rfl, h⟩ := h.shape (ssv_len P)
  have hl := h.len.2
  clear h hP
  by_cases hlo : P.length < 1
  · have HQ : Hid (r = false) := Lib.hid (by rw [← hr]; simp [namesOk]; omega)
    clear hr
    go_enter Tryz.func134, Tryz.ntmps134
    go_wp2
    go_ret
    exact ⟨ret_bool (by first | exact HQ.out.symm | (rw [HQ.out]; simp; omega)), rfl⟩
  · by_cases hhi : 8 < P.length
    · have HQ : Hid (r = false) := Lib.hid (by rw [← hr]; simp [namesOk]; omega)
      clear hr
      go_enter Tryz.func134, Tryz.ntmps134
      go_wp2
      go_ret
      exact ⟨ret_bool (by first | exact HQ.out.symm | (rw [HQ.out]; simp; omega)), rfl⟩
    · have HD2 := Lib.hid (HD.out r (by rw [← hr, namesOk]; simp; omega))
      have h1 : decide ((1 : Int) ≤ (P.length : Int)) = true := by simp; omega
      have h2 : decide ((P.length : Int) ≤ 8) = true := by simp; omega
      clear hr
      go_enter Tryz.func134, Tryz.ntmps134
      go_wp2_with (go_at_call 144; refine HD2.out.mono ?_; rintro e w1 ⟨rfl, rfl⟩)
      go_ret
      exact ⟨rfl, rfl⟩
end Go.Proofs.YtjejdcehlckfhaaGreat.sortn
