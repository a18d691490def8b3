/-
  THE WALK OF THE EXACT LAW ON CompareSubstitutions.
-/
import Derived.Test.YtlkigocgddmalaaBndop
import Derived.Test.YtlkigocgddmalaaBndt
import Derived.Test.YtlkigocgddmalaaBndc
import Derived.Test.YtlkigocgddmalaaBnds
namespace Go.Proofs.Ytlkigocgddmalaa.fnExactCompareSubstitutions
open Go.ChangeShapes Go.WideShapes Go.ChangeAt Go.RowKit
open mem rowl trm trmv terml termb termt termu termx bndl bndt bndc bnds

set_option maxHeartbeats 4000000 in
set_option maxRecDepth 100000 in
theorem go {n : Nat} (L M : List BindM) (va vb : Value) (w : World) (ha : HasBs n 0 w va L) (hb : HasBs n 0 w vb M) :
    Calls Try.prog 5 #[va, vb] w fun e w' => e = .returned (.bool true) ∧ Below w.heap.size w w' := by
  have HSA := Lib.hid (fun W (hW : Below w.heap.size w W) (m : Int) (h1 : 0 ≤ m) (h2 : m ≤ 1048576) => szBS_any L va W (ha.below (Nat.le_refl _) hW) m h1 h2)
  have HSB := Lib.hid (fun W (hW : Below w.heap.size w W) (m : Int) (h1 : 0 ≤ m) (h2 : m ≤ 1048576) => szBS_any M vb W (hb.below (Nat.le_refl _) hW) m h1 h2)
  have HTA := Lib.hid (fun W (hW : Below w.heap.size w W) (hs : bsz L ≤ 1048576) => toBS_any L va W (ha.below (Nat.le_refl _) hW) hs)
  have HTB := Lib.hid (fun W (hW : Below w.heap.size w W) (hs : bsz M ≤ 1048576) => toBS_any M vb W (hb.below (Nat.le_refl _) hW) hs)
  obtain ⟨z, hz⟩ : ∃ z, z = cmpQs L M := ⟨_, rfl⟩
  have HSP := Lib.hid (fun (v1 v2 : Value) (W : World) (lo lo' : Nat) (h1 : HasBs (n + 1) lo W v1 L) (h2 : HasBs (n + 1) lo' W v2 M) => sCompareS_any L M v1 v2 W h1 h2)
  have HIM := Lib.hid (fun (v1 v2 : Value) (W : World) (lo lo' : Nat) (h1 : HasBs (n + 1) lo W v1 L) (h2 : HasBs (n + 1) lo' W v2 M) (hs : bsz L ≤ 1048576) => iCompareS_any L M v1 v2 W h1 h2 hs)
  have HEA := Lib.hid (fun (v1 v2 : Value) (W : World) (lo lo' : Nat) (h1 : HasBs (n + 1) lo W v1 L) (h2 : HasBs (n + 1) lo' W v2 L) => eqBS_any L v1 v2 W h1 h2)
  have HEB := Lib.hid (fun (v1 v2 : Value) (W : World) (lo lo' : Nat) (h1 : HasBs (n + 1) lo W v1 M) (h2 : HasBs (n + 1) lo' W v2 M) => eqBS_any M v1 v2 W h1 h2)
  rw [← hz] at HSP HIM
  clear ha hb hz
  go_enter Try.func5, Try.ntmps5
  go_wp2_with fail
  refine (HSA.out _ (Below.refl _ _) 1048576 (by omega) (by omega)).mono ?_
  rintro e w1 ⟨r, rfl, hr, hr1, hr2, hb1⟩
  by_cases hneg : r < 0
  · clear hr
    go_wp2
    go_ret
    exact ⟨rfl, hb1⟩
  have HL := Lib.hid (show bsz L ≤ 1048576 by have := hr (by omega); omega)
  clear hr
  go_wp2_with fail
  refine (HSB.out _ hb1 r (by omega) hr2).mono ?_
  rintro e w2 ⟨r2, rfl, hs, hs1, hs2, hb2'⟩
  have hb2 := hb1.trans (hb2'.mono hb1.size)
  clear hb2'
  by_cases hneg2 : r2 < 0
  · clear hs
    go_wp2
    go_ret
    exact ⟨rfl, hb2⟩
  have HM := Lib.hid (show bsz M ≤ 1048576 by have := hs (by omega); omega)
  clear hs
  -- the model's answer
  go_wp2_with fail
  refine (HTA.out _ hb2 HL.out).mono ?_
  rintro e w3 ⟨v3, rfl, ho3, hb3'⟩
  have hb3 := hb2.trans (hb3'.mono hb2.size)
  have HO3 := Lib.hid ho3
  clear ho3 hb3'
  go_wp2_with fail
  refine (HTB.out _ hb3 HM.out).mono ?_
  rintro e w4 ⟨v4, rfl, ho4, hb4'⟩
  have hb4 := hb3.trans (hb4'.mono hb3.size)
  have HO34 := Lib.hid (HO3.out.below (Nat.le_refl _) hb4')
  have HO4 := Lib.hid ho4
  clear ho4 hb4'
  go_wp2_with fail
  refine (HSP.out _ _ _ _ _ HO34.out HO4.out).mono ?_
  rintro e w5 ⟨rfl, hb5'⟩
  have hb5 := hb4.trans (hb5'.mono hb4.size)
  clear hb5'
  -- the program's
  go_wp2_with fail
  refine (HTA.out _ hb5 HL.out).mono ?_
  rintro e w6 ⟨v6, rfl, ho6, hb6'⟩
  have hb6 := hb5.trans (hb6'.mono hb5.size)
  have HO6 := Lib.hid ho6
  clear ho6 hb6'
  go_wp2_with fail
  refine (HTB.out _ hb6 HM.out).mono ?_
  rintro e w7 ⟨v7, rfl, ho7, hb7'⟩
  have hb7 := hb6.trans (hb7'.mono hb6.size)
  have HO67 := Lib.hid (HO6.out.below (Nat.le_refl _) hb7')
  have HO7 := Lib.hid ho7
  clear ho7 hb7'
  go_wp2_with fail
  refine (HIM.out _ _ _ _ _ HO67.out HO7.out HL.out).mono ?_
  rintro e w8 ⟨rfl, hg8⟩
  have hb8' := hg8.below
  have hb8 := hb7.trans (hb8'.mono hb7.size)
  have HO68 := Lib.hid (HO67.out.below (Nat.le_refl _) hb8')
  have HO78 := Lib.hid (HO7.out.below (Nat.le_refl _) hb8')
  clear hg8 hb8'
  -- the arguments
  go_wp2_with fail
  refine (HTA.out _ hb8 HL.out).mono ?_
  rintro e w9 ⟨v9, rfl, ho9, hb9'⟩
  have hb9 := hb8.trans (hb9'.mono hb8.size)
  have HO69 := Lib.hid (HO68.out.below (Nat.le_refl _) hb9')
  have HO79 := Lib.hid (HO78.out.below (Nat.le_refl _) hb9')
  have HO9 := Lib.hid ho9
  clear ho9 hb9'
  go_wp2_with fail
  refine (HEA.out _ _ _ _ _ HO69.out HO9.out).mono ?_
  rintro e w10 ⟨rfl, hb10'⟩
  have hb10 := hb9.trans (hb10'.mono hb9.size)
  have HO710 := Lib.hid (HO79.out.below (Nat.le_refl _) hb10')
  clear hb10'
  go_wp2_with fail
  refine (HTB.out _ hb10 HM.out).mono ?_
  rintro e w11 ⟨v11, rfl, ho11, hb11'⟩
  have hb11 := hb10.trans (hb11'.mono hb10.size)
  have HO711 := Lib.hid (HO710.out.below (Nat.le_refl _) hb11')
  have HO11 := Lib.hid ho11
  clear ho11 hb11'
  go_wp2_with fail
  refine (HEB.out _ _ _ _ _ HO711.out HO11.out).mono ?_
  rintro e w12 ⟨rfl, hb12'⟩
  have hb12 := hb11.trans (hb12'.mono hb11.size)
  clear hb12'
  go_wp2
  go_ret
  exact ⟨rfl, hb12⟩
set_option maxRecDepth 100000 in
theorem walk {H : Type} {enc : TypeId × Value → H} {W : World} {base base' : Nat} {v v' : Value} {d d' : DataW H} {p p' : List MemPlace}
    (hval : Value.okWide Try.prog W .any base 39 v) (hd : DataW.Trod enc Try.prog W 0 (fun _ => true) true 39 v d p) (_hlt : ∀ x ∈ p, x.block < W.heap.size)
    (hval' : Value.okWide Try.prog W .any base' 39 v') (hd' : DataW.Trod enc Try.prog W 0 (fun _ => true) true 39 v' d' p') (_hlt' : ∀ x ∈ p', x.block < W.heap.size) :
    Calls Try.prog 5 #[v, v'] W fun e w' => e = .returned (.bool true) ∧ Below W.heap.size W w' := by
  obtain ⟨n, L, h⟩ := bndop.has_binds hval hd
  obtain ⟨m, M, h'⟩ := bndop.has_binds hval' hd'
  exact go L M v v' W (h.up (Nat.le_max_left n m)) (h'.up (Nat.le_max_right n m))
end Go.Proofs.Ytlkigocgddmalaa.fnExactCompareSubstitutions
