/-
  ParseNumber and ParseInt of both packages, and the walks of their two laws.
-/
import Derived.Test.YtphlbelnhmoblaaRead
namespace Go.Proofs.Ytphlbelnhmoblaa.read
open Go.ChangeShapes Go.WideShapes Go.ChangeAt Go.RowKit
open dec mem

def outN (l : List UInt8) : Int := if reads l 999999 && !decide (dec.out l 999999 < 0) then dec.out l 999999 else 0
def readsN (l : List UInt8) : Bool := reads l 999999 && !decide (dec.out l 999999 < 0)

theorem out_bd (l : List UInt8) (lim : Nat) : -(lim : Int) ≤ dec.out l lim ∧ dec.out l lim ≤ lim := by
  unfold dec.out
  by_cases h : reads l lim = true
  · rw [if_pos h]
    have hv : val (body l) ≤ lim := by simp [reads] at h; exact h.1.2
    unfold num signed
    split <;> omega
  · rw [if_neg h]; omega
theorem same6 (l : List UInt8) : readsL l 6 = reads l 999999 ∧ outL l 6 = dec.out l 999999 := by
  have := reads_eq l 5
  exact ⟨this, by simp only [outL, dec.out]; rw [show (6 : Nat) = 5 + 1 from rfl, this]⟩
theorem same12 (l : List UInt8) : readsL l 12 = reads l 999999999999 ∧ outL l 12 = dec.out l 999999999999 := by
  have := reads_eq l 11
  exact ⟨this, by simp only [outL, dec.out]; rw [show (12 : Nat) = 11 + 1 from rfl, this]⟩

theorem implNumber_any (l : List UInt8) (hl : l.length ≤ maxLen) (w : World) :
    Calls Try.prog 14 #[.string (bstr l)] w fun e w' => e = .returned (.tuple #[.int .i64 (outN l), .bool (readsN l)]) ∧ Below w.heap.size w w' := by
  have bd := out_bd l 999999
  obtain ⟨bd1, bd2⟩ := bd
  cases hr : reads l 999999 with
  | false =>
    have HR : Hid (outN l = 0 ∧ readsN l = false) := Lib.hid (by simp [outN, readsN, hr])
    go_enter Try.func14, Try.ntmps14
    go_wp2_with (go_at_call 18; refine (decimal_any l hl 999999 (by omega) _).mono ?_; rintro e w1 ⟨rfl, hb⟩)
    go_ret2
    exact ⟨ret_pair HR.out.1.symm HR.out.2.symm, hb⟩
  | true =>
    by_cases hn : dec.out l 999999 < 0
    · have HR : Hid (outN l = 0 ∧ readsN l = false) := Lib.hid (by simp [outN, readsN, hr, hn])
      go_enter Try.func14, Try.ntmps14
      go_wp2_with (go_at_call 18; refine (decimal_any l hl 999999 (by omega) _).mono ?_; rintro e w1 ⟨rfl, hb⟩)
      go_ret2
      exact ⟨ret_pair HR.out.1.symm HR.out.2.symm, hb⟩
    · have HR : Hid (outN l = dec.out l 999999 ∧ readsN l = true) := Lib.hid (by simp [outN, readsN, hr, hn])
      go_enter Try.func14, Try.ntmps14
      go_wp2_with (go_at_call 18; refine (decimal_any l hl 999999 (by omega) _).mono ?_; rintro e w1 ⟨rfl, hb⟩)
      go_ret2
      exact ⟨ret_pair HR.out.1.symm HR.out.2.symm, hb⟩

theorem specNumber_any (l : List UInt8) (hl : l.length ≤ maxLen) (w : World) :
    Calls Try.prog 13 #[.string (bstr l)] w fun e w' => e = .returned (.tuple #[.int .i64 (outN l), .bool (readsN l)]) ∧ Below w.heap.size w w' := by
  have bd := out_bd l 999999
  obtain ⟨bd1, bd2⟩ := bd
  obtain ⟨e1, e2⟩ := same6 l
  have c := l1Read_any l hl 6 (by omega)
  rw [e1, e2] at c
  clear e1 e2
  cases hr : reads l 999999 with
  | false =>
    rw [hr] at c
    have HR : Hid (outN l = 0 ∧ readsN l = false) := Lib.hid (by simp [outN, readsN, hr])
    have C := Lib.hid c
    clear c hr
    go_enter Try.func13, Try.ntmps13
    go_wp2_with (go_at_call 23; refine (C.out _).mono ?_; rintro e w1 ⟨rfl, hb⟩)
    go_ret2
    exact ⟨ret_pair HR.out.1.symm HR.out.2.symm, hb⟩
  | true =>
    rw [hr] at c
    by_cases hn : dec.out l 999999 < 0
    · have HR : Hid (outN l = 0 ∧ readsN l = false) := Lib.hid (by simp [outN, readsN, hr, hn])
      have C := Lib.hid c
      clear c hr
      go_enter Try.func13, Try.ntmps13
      go_wp2_with (go_at_call 23; refine (C.out _).mono ?_; rintro e w1 ⟨rfl, hb⟩)
      go_ret2
      exact ⟨ret_pair HR.out.1.symm HR.out.2.symm, hb⟩
    · have HR : Hid (outN l = dec.out l 999999 ∧ readsN l = true) := Lib.hid (by simp [outN, readsN, hr, hn])
      have C := Lib.hid c
      clear c hr
      go_enter Try.func13, Try.ntmps13
      go_wp2_with (go_at_call 23; refine (C.out _).mono ?_; rintro e w1 ⟨rfl, hb⟩)
      go_ret2
      exact ⟨ret_pair HR.out.1.symm HR.out.2.symm, hb⟩

theorem implInt_any (l : List UInt8) (hl : l.length ≤ maxLen) (w : World) :
    Calls Try.prog 8 #[.string (bstr l)] w fun e w' => e = .returned (.tuple #[.int .i64 (dec.out l 999999999999), .bool (reads l 999999999999)]) ∧ Below w.heap.size w w' := by
  go_enter Try.func8, Try.ntmps8
  go_wp2_with (go_at_call 18; refine (decimal_any l hl 999999999999 (by omega) _).mono ?_; rintro e w1 ⟨rfl, hb⟩)
  go_ret2
  exact ⟨rfl, hb⟩
theorem specInt_any (l : List UInt8) (hl : l.length ≤ maxLen) (w : World) :
    Calls Try.prog 15 #[.string (bstr l)] w fun e w' => e = .returned (.tuple #[.int .i64 (dec.out l 999999999999), .bool (reads l 999999999999)]) ∧ Below w.heap.size w w' := by
  obtain ⟨e1, e2⟩ := same12 l
  have c := l1Read_any l hl 12 (by omega)
  rw [e1, e2] at c
  have C := Lib.hid c
  clear e1 e2 c
  go_enter Try.func15, Try.ntmps15
  go_wp2_with (go_at_call 23; refine (C.out _).mono ?_; rintro e w1 ⟨rfl, hb⟩)
  go_ret2
  exact ⟨rfl, hb⟩
end Go.Proofs.Ytphlbelnhmoblaa.read

namespace Go.Proofs.Ytphlbelnhmoblaa.fnExactParseNumber
open Go.ChangeShapes Go.WideShapes Go.ChangeAt Go.RowKit
open dec mem
theorem walk (s : ByteArray) (hs : s.size ≤ maxLen) (w : World) :
    Calls Try.prog 4 #[.string s] w fun e w' => e = .returned (.bool true) ∧ Below w.heap.size w w' := by
  rw [← bstr_data s] at hs ⊢
  obtain ⟨l, hl⟩ : ∃ l, l = s.data.toList := ⟨_, rfl⟩
  rw [← hl] at hs ⊢
  clear hl s
  have hsz := bstr_size l
  have hl : l.length ≤ maxLen := by rw [← hsz]; exact hs
  have hl2 := hl
  unfold maxLen at hs hl2
  by_cases hbig : 1048576 < l.length
  · go_enter Try.func4, Try.ntmps4
    go_wp2
    go_ret
    exact ⟨rfl, Below.refl _ _⟩
  · go_enter Try.func4, Try.ntmps4
    go_wp2_with (first | (go_at_call 13; refine (read.specNumber_any l hl _).mono ?_; rintro e w1 ⟨rfl, hb⟩) | (go_at_call 14; refine (read.implNumber_any l hl _).mono ?_; rintro e w1 ⟨rfl, hb2⟩))
    go_ret
    exact ⟨rfl, hb.trans (hb2.mono hb.size)⟩
end Go.Proofs.Ytphlbelnhmoblaa.fnExactParseNumber

namespace Go.Proofs.Ytphlbelnhmoblaa.fnExactParseInt
open Go.ChangeShapes Go.WideShapes Go.ChangeAt Go.RowKit
open dec mem
theorem walk (s : ByteArray) (hs : s.size ≤ maxLen) (w : World) :
    Calls Try.prog 5 #[.string s] w fun e w' => e = .returned (.bool true) ∧ Below w.heap.size w w' := by
  rw [← bstr_data s] at hs ⊢
  obtain ⟨l, hl⟩ : ∃ l, l = s.data.toList := ⟨_, rfl⟩
  rw [← hl] at hs ⊢
  clear hl s
  have hsz := bstr_size l
  have hl : l.length ≤ maxLen := by rw [← hsz]; exact hs
  have hl2 := hl
  unfold maxLen at hs hl2
  by_cases hbig : 1048576 < l.length
  · go_enter Try.func5, Try.ntmps5
    go_wp2
    go_ret
    exact ⟨rfl, Below.refl _ _⟩
  · go_enter Try.func5, Try.ntmps5
    go_wp2_with (first | (go_at_call 15; refine (read.specInt_any l hl _).mono ?_; rintro e w1 ⟨rfl, hb⟩) | (go_at_call 8; refine (read.implInt_any l hl _).mono ?_; rintro e w1 ⟨rfl, hb2⟩))
    go_ret
    exact ⟨rfl, hb.trans (hb2.mono hb.size)⟩
end Go.Proofs.Ytphlbelnhmoblaa.fnExactParseInt
