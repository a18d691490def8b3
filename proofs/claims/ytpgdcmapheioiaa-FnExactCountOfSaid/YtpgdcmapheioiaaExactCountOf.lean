/-
  THE WALKS OF FnExactCountOf AND FnExactIsSubset.
-/
import Derived.Test.YtpgdcmapheioiaaSets
namespace Go.Proofs.Ytpgdcmapheioiaa.fnExactCountOf
open Go.ChangeShapes Go.WideShapes Go.ChangeAt Go.RowKit
open mem setm sets

theorem walk (n : Int) (_hn : (Lit.int .i64 n).wf = true) (w : World) :
    Calls Try.prog 6 #[.int .i64 n] w fun e w' => e = .returned (.bool true) ∧ Below w.heap.size w w' := by
  have hl := listOf_len n
  clear _hn
  go_enter Try.func6, Try.ntmps6
  go_wp2_with fail
  refine (sCount_any n _).mono ?_; rintro e w1 ⟨rfl, hb1⟩
  go_wp2_with fail
  refine (iCount_any n _).mono ?_; rintro e w2 ⟨rfl, hb2⟩
  go_wp2
  go_ret
  exact ⟨rfl, hb1.trans (hb2.mono hb1.size)⟩
end Go.Proofs.Ytpgdcmapheioiaa.fnExactCountOf
namespace Go.Proofs.Ytpgdcmapheioiaa.fnExactIsSubset
open Go.ChangeShapes Go.WideShapes Go.ChangeAt Go.RowKit
open mem setm sets

theorem walk (a : Int) (_ha : (Lit.int .i64 a).wf = true) (b : Int) (_hb : (Lit.int .i64 b).wf = true) (w : World) :
    Calls Try.prog 7 #[.int .i64 a, .int .i64 b] w fun e w' => e = .returned (.bool true) ∧ Below w.heap.size w w' := by
  clear _ha _hb
  obtain ⟨r, hr⟩ : ∃ r, subI a b = r := ⟨_, rfl⟩
  have CS := Lib.hid (fun W => sSub_any a b r hr W)
  have CI := Lib.hid (fun W => iSub_any a b r hr W)
  clear hr
  go_enter Try.func7, Try.ntmps7
  go_wp2_with fail
  refine (CS.out _).mono ?_; rintro e w1 ⟨rfl, rfl⟩
  go_wp2_with fail
  refine (CI.out _).mono ?_; rintro e w1 ⟨rfl, rfl⟩
  go_wp2
  go_ret
  exact ⟨rfl, Below.refl _ _⟩
end Go.Proofs.Ytpgdcmapheioiaa.fnExactIsSubset
