/-
  THE WALK OF FnExactIsGround.
-/
import Derived.Test.YtejkkdnjdfehjaaTermop
import Derived.Test.YtejkkdnjdfehjaaTermu
import Derived.Test.YtejkkdnjdfehjaaTermv
import Derived.Test.YtejkkdnjdfehjaaTermic
namespace Go.Proofs.Ytejkkdnjdfehjaa.fnExactIsGround
open Go.ChangeShapes Go.WideShapes Go.ChangeAt Go.RowKit
open mem rowl trm trmv terml termb termt termu termv termx termic

set_option maxHeartbeats 4000000 in
set_option maxRecDepth 100000 in
theorem go {n : Nat} (t : TermM) (va : Value) (w : World) (h : HasTs n 0 w va t.args) (hB : Bnd t) :
    Calls Try.prog 6 #[aggT t va] w fun e w' => e = .returned (.bool true) ∧ Below w.heap.size w w' := by
  have HSZ := Lib.hid (fun W (hW : Below w.heap.size w W) => szTerm_any t.op t.name t.sort t.args va W hB.1 (h.below (Nat.le_refl _) hW) 1048576 (by omega) (by omega))
  have HTO := Lib.hid (fun W (hW : Below w.heap.size w W) (hs : sizes t.args ≤ 1048576) => toTerm_any t.op t.name t.sort t.args hs va W (h.below (Nat.le_refl _) hW))
  have HSP := Lib.hid (fun v1 W lo (hW : HasTs (n + 1) lo W v1 t.args) (hs : sizes t.args ≤ 1048576) => termic.sisGround_any t v1 W hW hB hs _ rfl)
  have HIM := Lib.hid (fun v1 W lo (hW : HasTs (n + 1) lo W v1 t.args) (hs : sizes t.args ≤ 1048576) => termvx.isGround_any t v1 W hW hB hs _ rfl)
  have HEQ := Lib.hid (fun v1 v2 W lo lo' (hW : HasTs (n + 1) lo W v1 t.args) (hW' : HasTs (n + 1) lo' W v2 t.args) => eqTerm_any t.op t.name t.sort t.args v1 v2 W hW hW')
  obtain ⟨A, ca, rfl, _⟩ := HasR.shape h rfl
  have HOS : Hid (∀ {W lo v S}, OT 51 (n + 1) lo W v t.args S → ∃ A c, v = .slice A t.args.length c) := Lib.hid (fun h => OT.shape h)
  obtain ⟨z, hz⟩ : ∃ z : Bool, z = decide (varsT t = []) := ⟨_, rfl⟩
  rw [← hz] at HSP HIM
  obtain ⟨q, hq⟩ : ∃ q, q = t.args.length := ⟨_, rfl⟩
  unfold aggT at HIM HSP ⊢
  obtain ⟨to, hto⟩ : ∃ q, q = t.op := ⟨_, rfl⟩
  obtain ⟨tn, htn⟩ : ∃ q, q = t.name := ⟨_, rfl⟩
  obtain ⟨ts, hts⟩ : ∃ q, q = t.sort := ⟨_, rfl⟩
  rw [← hq] at HSZ HTO HOS ⊢
  rw [← hto, ← htn, ← hts] at HSZ HTO HSP HIM HEQ ⊢
  clear h hB hz hq hto htn hts
  go_enter Try.func6, Try.ntmps6
  go_wp2_with fail
  refine (HSZ.out _ ((Below.refl _ _).alloc (Nat.le_refl _) _)).mono ?_
  rintro e w1 ⟨r, rfl, hr, hr1, hr2, hb1⟩
  have hbw1 : Below w.heap.size w w1 := ((Below.refl _ _).alloc (Nat.le_refl _) _).trans (hb1.mono (by simp))
  have k1 : ∀ x u, (w.alloc (.cells #[.int .i64 to, .string (bstr tn), .int .i64 ts, .slice A q ca] 46)).cell? ⟨w.heap.size, x, none⟩ = some u → w1.cell? ⟨w.heap.size, x, none⟩ = some u := fun x u h => (hb1.cell (p := ⟨w.heap.size, x, none⟩) (by simp)).trans h
  have c0 := k1 0 (.int .i64 to) (by simp)
  have c1 := k1 1 (.string (bstr tn)) (by simp)
  have c2 := k1 2 (.int .i64 ts) (by simp)
  have c3 := k1 3 (.slice A q ca) (by simp)
  have hs1 : w.heap.size < w1.heap.size := by have := hb1.size; simp at this; omega
  clear hb1 k1
  by_cases hneg : r < 0
  · go_wp2
    go_ret
    exact ⟨rfl, hbw1⟩
  have HSM := Lib.hid (show sizes t.args ≤ 1048576 by have := hr (by omega); omega)
  clear hr
  -- the model's answer
  go_wp2_with fail
  refine (HTO.out _ hbw1 HSM.out).mono ?_
  rintro e w2 ⟨v2, S2, rfl, ho2, hb2⟩
  obtain ⟨A2, c2', rfl⟩ := HOS.out ho2
  have HO2 := Lib.hid ho2
  clear ho2
  go_wp2_with fail
  refine (HSP.out _ _ _ HO2.out.has HSM.out).mono ?_
  rintro e w3 ⟨rfl, hb3⟩
  have hb13 : Below w1.heap.size w1 w3 := hb2.trans (hb3.mono hb2.size)
  have hbw3 := hbw1.trans (hb13.mono hbw1.size)
  have k3 : ∀ x, w3.cell? ⟨w.heap.size, x, none⟩ = w1.cell? ⟨w.heap.size, x, none⟩ := fun x => hb13.cell (p := ⟨w.heap.size, x, none⟩) hs1
  rw [← k3] at c0 c1 c2 c3
  have hs3 : w.heap.size < w3.heap.size := Nat.lt_of_lt_of_le hs1 hb13.size
  clear hb2 hb3 hb13 k3
  -- the program's
  go_wp2_with fail
  refine (HTO.out _ hbw3 HSM.out).mono ?_
  rintro e w4 ⟨v4, S4, rfl, ho4, hb4⟩
  obtain ⟨A4, c4', rfl⟩ := HOS.out ho4
  have HO4 := Lib.hid ho4
  have k4 : ∀ x, w4.cell? ⟨w.heap.size, x, none⟩ = w3.cell? ⟨w.heap.size, x, none⟩ := fun x => hb4.cell (p := ⟨w.heap.size, x, none⟩) hs3
  rw [← k4] at c0 c1 c2 c3
  have hs4 : w.heap.size < w4.heap.size := Nat.lt_of_lt_of_le hs3 hb4.size
  have hbw4 := hbw3.trans (hb4.mono hbw3.size)
  clear ho4 hb4 k4
  go_wp2_with fail
  have hb5 : Below w4.heap.size w4 (w4.alloc (.cells #[.int .i64 to, .string (bstr tn), .int .i64 ts, .slice A4 q c4'] 51)) := (Below.refl _ _).alloc (Nat.le_refl _) _
  refine (HIM.out _ _ _ (HO4.out.has.below (Nat.le_refl _) hb5) HSM.out).mono ?_
  rintro e w6 ⟨rfl, hb6⟩
  have hb46 : Below w4.heap.size w4 w6 := hb5.trans (hb6.mono hb5.size)
  have b0 : w6.cell? ⟨w4.heap.size, 0, none⟩ = some (.int .i64 to) := by rw [hb6.cell (p := ⟨w4.heap.size, 0, none⟩) (by simp)]; simp
  have b1 : w6.cell? ⟨w4.heap.size, 1, none⟩ = some (.string (bstr tn)) := by rw [hb6.cell (p := ⟨w4.heap.size, 1, none⟩) (by simp)]; simp
  have b2 : w6.cell? ⟨w4.heap.size, 2, none⟩ = some (.int .i64 ts) := by rw [hb6.cell (p := ⟨w4.heap.size, 2, none⟩) (by simp)]; simp
  have b3 : w6.cell? ⟨w4.heap.size, 3, none⟩ = some (.slice A4 q c4') := by rw [hb6.cell (p := ⟨w4.heap.size, 3, none⟩) (by simp)]; simp
  have k6 : ∀ x, w6.cell? ⟨w.heap.size, x, none⟩ = w4.cell? ⟨w.heap.size, x, none⟩ := fun x => hb46.cell (p := ⟨w.heap.size, x, none⟩) hs4
  rw [← k6] at c0 c1 c2 c3
  have hs6 : w4.heap.size < w6.heap.size := by have := hb6.size; simp at this; omega
  have hsw6 : w.heap.size < w6.heap.size := by omega
  have hbw6 := hbw4.trans (hb46.mono hbw4.size)
  have HO6 := Lib.hid (HO4.out.below hb46)
  clear hb5 hb6 hb46 k6
  go_wp2_with fail
  go_region_held3 (fun w' => (w'.cell? ⟨w4.heap.size, 0, none⟩ = some (.int .i64 to) ∧ w'.cell? ⟨w4.heap.size, 0 + 1, none⟩ = some (.string (bstr tn)) ∧ w'.cell? ⟨w4.heap.size, 0 + 2, none⟩ = some (.int .i64 ts) ∧ w'.cell? ⟨w4.heap.size, 0 + 3, none⟩ = some (.slice A4 q c4') ∧
      w'.cell? ⟨w.heap.size, 0, none⟩ = some (.int .i64 to) ∧ w'.cell? ⟨w.heap.size, 0 + 1, none⟩ = some (.string (bstr tn)) ∧ w'.cell? ⟨w.heap.size, 0 + 2, none⟩ = some (.int .i64 ts) ∧ w'.cell? ⟨w.heap.size, 0 + 3, none⟩ = some (.slice A q ca)) ∧ Below w6.heap.size w6 w')
    (first | (refine ⟨⟨?_, ?_, ?_, ?_, ?_, ?_, ?_, ?_⟩, (Below.refl _ _).drew⟩ <;> assumption) | (go_split_ands; exact keep_eight (g := w4.heap.size) (g' := w.heap.size) ⟨⟨by assumption, by assumption, by assumption, by assumption, by assumption, by assumption, by assumption, by assumption⟩, by assumption⟩ ⟨hs6, hsw6⟩ (by assumption)))
    ((first | (go_at_call 18; go_split_ands; refine (HTO.out _ (hbw6.trans (Below.mono (by assumption) hbw6.size)) HSM.out).mono ?_; rintro e w7 ⟨v7, S7, rfl, ho7, hb7⟩; obtain ⟨A7, c7', rfl⟩ := HOS.out ho7; have HO7 := Lib.hid ho7) | (go_at_call 20; go_split_ands; refine (HEQ.out _ _ _ _ _ (HasTs.below HO6.out.has (Nat.le_refl _) (by assumption)) HO7.out.has).mono ?_; rintro e w8 ⟨rfl, hb8⟩)))
  all_goals (go_wp2; go_ret; go_split_ands; exact ⟨rfl, hbw6.trans (Below.mono (by assumption) hbw6.size)⟩)
set_option maxRecDepth 100000 in
theorem walk {H : Type} {enc : TypeId × Value → H} {W : World} {base : Nat} {v : Value} {d : DataW H} {p : List MemPlace}
    (hval : Value.okWide Try.prog W .any base 46 v) (hd : DataW.Trod enc Try.prog W 0 (fun _ => true) true 46 v d p) (_hlt : ∀ x ∈ p, x.block < W.heap.size) :
    Calls Try.prog 6 #[v] W fun e w' => e = .returned (.bool true) ∧ Below W.heap.size W w' := by
  obtain ⟨n, t, va, rfl, h, hB⟩ := termop.has_term hval hd
  exact go t va W h hB
end Go.Proofs.Ytejkkdnjdfehjaa.fnExactIsGround
