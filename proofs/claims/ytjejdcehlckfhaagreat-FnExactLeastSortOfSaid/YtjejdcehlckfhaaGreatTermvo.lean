/-
  CONTRACTS OF THE MODEL'S l5Same AND OccursIn, AND OF THE LAWS' same.
-/
import Derived.Test.YtjejdcehlckfhaaGreatGx
import Derived.Test.YtjejdcehlckfhaaGreatGd
namespace Go.Proofs.YtjejdcehlckfhaaGreat.termvo
open Go.ChangeShapes Go.WideShapes Go.ChangeAt Go.RowKit
open mem dec rowl trm trmv terml termb termt termu termv
open termx (aggT)

/-- spec.l5Same -/
theorem same_any {n m : Nat} (t u : TermM) (va vb : Value) (w : World) {lo lo' : Nat} (ha : HasTs n lo w va t.args) (hb : HasTs m lo' w vb u.args) (r : Bool) (hr : decide (cmp t u = 0) = r) :
    Calls Tryz.prog 122 #[aggT t va, aggT u vb] w fun e w' => e = .returned (.bool r) ∧ Below w.heap.size w w' := by
  obtain ⟨A, ca, rfl, _⟩ := HasR.shape ha rfl
  obtain ⟨B, cb, rfl, _⟩ := HasR.shape hb rfl
  have HL := Lib.hid (fun W (hW : Below w.heap.size w W) => scmp_any t u _ _ W (ha.below (Nat.le_refl _) hW) (hb.below (Nat.le_refl _) hW))
  obtain ⟨c, hc⟩ : ∃ c, c = cmp t u := ⟨_, rfl⟩
  rw [← hc] at hr HL
  unfold aggT
  obtain ⟨k, hk⟩ : ∃ k, k = t.args.length := ⟨_, rfl⟩
  obtain ⟨m, hm⟩ : ∃ m, m = u.args.length := ⟨_, rfl⟩
  rw [← hk] at HL ⊢
  rw [← hm] at HL ⊢
  have HRB : Hid (r = (c == 0)) := Lib.hid (by rw [← hr, Bool.eq_iff_iff]; simp)
  clear ha hb hc hk hm hr
  go_enter Tryz.func122, Tryz.ntmps122
  go_wp2_with fail
  have hgb : Below w.heap.size w ((w.alloc (.cells #[.int .i64 t.op, .string (bstr t.name), .int .i64 t.sort, .slice A k ca] 44)).alloc (.cells #[.int .i64 u.op, .string (bstr u.name), .int .i64 u.sort, .slice B m cb] 44)) := ((Below.refl _ _).alloc (Nat.le_refl _) _).alloc (by simp) _
  refine (HL.out _ hgb).mono ?_
  rintro e w2 ⟨rfl, hb2⟩
  have hgb2 := hgb.trans (hb2.mono hgb.size)
  clear hb2 hgb
  go_wp2
  go_ret
  exact ⟨ret_bool HRB.out.symm, hgb2⟩
end Go.Proofs.YtjejdcehlckfhaaGreat.termvo
