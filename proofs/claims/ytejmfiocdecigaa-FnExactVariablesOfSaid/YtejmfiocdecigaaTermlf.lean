/-
  THE WALK OF FnExactVariablesOf.
-/
import Derived.Test.YtejmfiocdecigaaTermop
import Derived.Test.YtejmfiocdecigaaTermu
import Derived.Test.YtejmfiocdecigaaTermv
import Derived.Test.YtejmfiocdecigaaTermic
namespace Go.Proofs.Ytejmfiocdecigaa.fnExactVariablesOf
open Go.ChangeShapes Go.WideShapes Go.ChangeAt Go.RowKit
open mem rowl trm trmv terml termb termt termu termv termx termvr termvx termin termic

theorem sizes_flat : ∀ (L : List TermM), (∀ x ∈ L, Flat x) → sizes L = L.length
  | [], _ => rfl
  | a :: l, h => by
    have h1 := (h a (by simp)).1
    have h2 := sizes_flat l (fun x hx => h x (by simp [hx]))
    have h3 := termro.size_eq a
    rw [h1] at h3
    simp only [sizes, List.map_cons, List.sum_cons, List.map_nil, List.sum_nil] at h2 h3 ⊢
    rw [List.length_cons]
    omega
/-- a row of variables of one's own, for the laws' marks -/
theorem ot_flat {w : World} {lo g m cap : Nat} {L : List TermM} (hm : m = L.length) (ho : w.ownsRow lo 26 4 (.slice (some ⟨g, 0, none⟩) m cap) m (flatV L)) (hF : ∀ x ∈ L, Flat x) : OT 26 2 lo w (.slice (some ⟨g, 0, none⟩) m cap) L [g] := by
  subst hm
  refine ⟨flatV L, fun _ => .slice none 0 0, fun _ => [], ho, by simp [Value.ownBlock], by simp, fun j hj => ⟨flatV_at hj, ?_, ?_⟩⟩
  · have h := hF (L.getD j default) (by rw [getD_at hj]; exact List.getElem_mem _)
    exact h.2
  · have h := hF (L.getD j default) (by rw [getD_at hj]; exact List.getElem_mem _)
    rw [h.1]
    exact OT.nil _ 0 lo w
theorem chg_cell {S : List Nat} {w w' : World} (h : Chg S w w') {g : Nat} (hg : g < w.heap.size) (hn : g ∉ S) (x : Nat) : w'.cell? ⟨g, x, none⟩ = w.cell? ⟨g, x, none⟩ := World.cell?_of_block (a := ⟨g, x, none⟩) (h.block _ hg hn)
/-- four cells of a box -/
def Box4 (w : World) (g : Nat) (op : Int) (l : List UInt8) (s : Int) (v : Value) : Prop := g < w.heap.size ∧ w.cell? ⟨g, 0, none⟩ = some (.int .i64 op) ∧ w.cell? ⟨g, 1, none⟩ = some (.string (bstr l)) ∧ w.cell? ⟨g, 2, none⟩ = some (.int .i64 s) ∧ w.cell? ⟨g, 3, none⟩ = some v
theorem Box4.chg {S : List Nat} {w w' : World} {g : Nat} {op : Int} {l : List UInt8} {s : Int} {v : Value} (h : Box4 w g op l s v) (hc : Chg S w w') (hn : g ∉ S) : Box4 w' g op l s v := by
  have k := chg_cell hc h.1 hn
  unfold Box4
  rw [k, k, k, k]
  exact ⟨Nat.lt_of_lt_of_le h.1 hc.size, h.2⟩
theorem Box4.below {w w' : World} {g : Nat} {op : Int} {l : List UInt8} {s : Int} {v : Value} (h : Box4 w g op l s v) (hb : Below w.heap.size w w') : Box4 w' g op l s v := h.chg (Chg.of_below (S := []) hb) (by simp)
set_option maxHeartbeats 4000000 in
set_option maxRecDepth 100000 in
theorem go {n : Nat} (t : TermM) (va : Value) (w : World) (h : HasTs n 0 w va t.args) (hB : Bnd t) :
    Calls Try.prog 6 #[aggT t va] w fun e w' => e = .returned (.bool true) ∧ Below w.heap.size w w' := by
  have HSZ := Lib.hid (fun W (hW : Below w.heap.size w W) => szTerm_any t.op t.name t.sort t.args va W hB.1 (h.below (Nat.le_refl _) hW) 1048576 (by omega) (by omega))
  have HTO := Lib.hid (fun W (hW : Below w.heap.size w W) (hs : sizes t.args ≤ 1048576) => toTerm_any t.op t.name t.sort t.args hs va W (h.below (Nat.le_refl _) hW))
  have HSP := Lib.hid (fun v1 W lo (hW : HasTs (n + 1) lo W v1 t.args) (hs : sizes t.args ≤ 1048576) => svarsOf_any t v1 W hW hB hs)
  have HIM := Lib.hid (fun v1 W lo (hW : HasTs (n + 1) lo W v1 t.args) (hs : sizes t.args ≤ 1048576) => (show Calls Try.prog 15 #[aggT t v1] W (RowPost W.heap.size (varsT t) W) from varsOf_any t v1 W hW hB hs))
  have HEQ := Lib.hid (fun v1 v2 W lo lo' (hW : HasTs (n + 1) lo W v1 t.args) (hW' : HasTs (n + 1) lo' W v2 t.args) => eqTerm_any t.op t.name t.sort t.args v1 v2 W hW hW')
  have HMK := Lib.hid (fun v S W lo (hO : OT 26 (n + 1) lo W v t.args S) (hs : sizes t.args ≤ 1048576) => (show Calls Try.prog 30 #[.agg #[.int .i64 t.op, .string (bstr t.name), .int .i64 t.sort, v], .int .i64 1] W (fun e w' => e = .returned (.int .i64 ((1 + 3 * sizes t.args : Nat) : Int)) ∧ Chg S W w') from (markTerm_any (k := 1) t.op t.name t.sort t.args v S W hO (by omega)).mono (fun e w' h => ⟨h.1, h.2.2⟩)))
  obtain ⟨A, ca, rfl, _⟩ := HasR.shape h rfl
  have HOS : Hid (∀ {W lo v S}, OT 26 (n + 1) lo W v t.args S → ∃ A c, v = .slice A t.args.length c) := Lib.hid (fun h => OT.shape h)
  have HFL : Hid (∀ x ∈ varsT t, Flat x) := Lib.hid (fun x hx => flat_vin t n 0 w _ h hB x (mem_varsT.1 hx))
  have HRL : Hid (sizes t.args ≤ 1048576 → sizes (varsT t) ≤ 2097152) := Lib.hid (fun hs => by
    have h1 := colT_len t []
    have h2 := sizes_flat (varsT t) HFL.out
    have h3 := termro.size_eq t
    unfold varsT at h2 ⊢
    simp only [List.length_nil] at h1
    omega)
  obtain ⟨R, hR⟩ : ∃ R, R = varsT t := ⟨_, rfl⟩
  rw [← hR] at HSP HIM HFL HRL
  have HES := Lib.hid (fun va vb W lo lo' (h1 : HasTs 2 lo W va R) (h2 : HasTs 2 lo' W vb R) => eqTermS_same 2 R va vb W lo lo' h1 h2)
  obtain ⟨z, hz⟩ : ∃ z, z = sizes t.args := ⟨_, rfl⟩
  rw [← hz] at HSZ HTO HSP HIM HMK HRL
  obtain ⟨q, hq⟩ : ∃ q, q = t.args.length := ⟨_, rfl⟩
  unfold aggT at HIM HSP ⊢
  obtain ⟨to, hto⟩ : ∃ q, q = t.op := ⟨_, rfl⟩
  obtain ⟨tn, htn⟩ : ∃ q, q = t.name := ⟨_, rfl⟩
  obtain ⟨ts, hts⟩ : ∃ q, q = t.sort := ⟨_, rfl⟩
  rw [← hq] at HSZ HTO HOS ⊢
  rw [← hto, ← htn, ← hts] at HSZ HTO HSP HIM HEQ HMK ⊢
  clear h hB hz hR hq hto htn hts
  go_enter Try.func6, Try.ntmps6
  go_wp2_with fail
  refine (HSZ.out _ ((Below.refl _ _).alloc (Nat.le_refl _) _)).mono ?_
  rintro e w1 ⟨r, rfl, hr, hr1, hr2, hb1⟩
  have hbw1 : Below w.heap.size w w1 := ((Below.refl _ _).alloc (Nat.le_refl _) _).trans (hb1.mono (by simp))
  have HX1 : Hid (Box4 w1 w.heap.size to tn ts (.slice A q ca)) := Lib.hid (Box4.below (w := w.alloc (.cells #[.int .i64 to, .string (bstr tn), .int .i64 ts, .slice A q ca] 56)) ⟨by simp, by simp, by simp, by simp, by simp⟩ hb1)
  obtain ⟨hs1, c0, c1, c2, c3⟩ := HX1.out
  clear hb1
  by_cases hneg : r < 0
  · go_wp2
    go_ret
    exact ⟨rfl, hbw1⟩
  have HSM := Lib.hid (show z ≤ 1048576 by have := hr (by omega); omega)
  clear hr
  obtain ⟨mm, hmm⟩ : ∃ m : Nat, m = 1 + 3 * sizes R := ⟨_, rfl⟩
  have HMS := Lib.hid (fun v S W lo (hO : OT 26 2 lo W v R S) => (show Calls Try.prog 31 #[v, .int .i64 1] W (fun e w' => e = .returned (.int .i64 (mm : Int)) ∧ OT 26 2 lo w' v (mkL tx R 1) S ∧ Chg S W w') from by rw [hmm]; exact markTermS_any 2 R v S W lo 1 hO (by have := HRL.out HSM.out; omega)))
  have HHT := Lib.hid (fun v W lo (hO : HasTs 2 lo W v (mkL tx R 1)) => (show Calls Try.prog 32 #[v, .int .i64 1] W (fun e w' => e = .returned (.int .i64 (mm : Int)) ∧ Below W.heap.size W w') from by rw [hmm]; exact heldTermS_any 2 R v W lo 1 hO (by have := HRL.out HSM.out; omega)))
  obtain ⟨kk, hkk⟩ : ∃ m : Nat, m = 1 + 3 * z := ⟨_, rfl⟩
  rw [← hkk] at HMK
  clear hmm hkk
  have n1 : decide ((kk : Int) < 0) = false := decide_eq_false (by omega)
  have n2 : decide ((mm : Int) < 0) = false := decide_eq_false (by omega)
  -- the model's answer
  go_wp2_with fail
  refine (HTO.out _ hbw1 HSM.out).mono ?_
  rintro e w2 ⟨v2, S2, rfl, ho2, hb2⟩
  obtain ⟨A2, c2', rfl⟩ := HOS.out ho2
  have HO2 := Lib.hid ho2
  clear ho2
  go_wp2_with fail
  refine (HSP.out _ _ _ HO2.out.has HSM.out).mono ?_
  rintro e w3 ⟨g3, p3, m3, hm3, rfl, ho3, hb3⟩
  have HG3 : Hid (OT 26 2 w2.heap.size w3 (.slice (some ⟨g3, 0, none⟩) m3 p3) R [g3]) := Lib.hid (ot_flat hm3 ho3 HFL.out)
  have hb13 : Below w1.heap.size w1 w3 := hb2.trans (hb3.mono hb2.size)
  have hbw3 := hbw1.trans (hb13.mono hbw1.size)
  have HX3 := Lib.hid (HX1.out.below hb13)
  have HZ2 := Lib.hid (And.intro hb2.size hb3.size)
  have HL3 : Hid (g3 < w3.heap.size) := Lib.hid (HG3.out.lt g3 (by simp)).2
  clear hm3 ho3 hb2 hb3 hb13 c0 c1 c2 c3 HX1 HO2
  obtain ⟨hs3, c0, c1, c2, c3⟩ := HX3.out
  -- the program's
  go_wp2_with fail
  refine (HTO.out _ hbw3 HSM.out).mono ?_
  rintro e w4 ⟨v4, S4, rfl, ho4, hb4⟩
  obtain ⟨A4, c4', rfl⟩ := HOS.out ho4
  have HO4 := Lib.hid ho4
  have HL4 : Hid (∀ k ∈ S4, w3.heap.size ≤ k ∧ k < w4.heap.size) := Lib.hid (fun k hk => ho4.lt k hk)
  have HX4 := Lib.hid (HX3.out.below hb4)
  have hbw4 := hbw3.trans (hb4.mono hbw3.size)
  have HG4 := Lib.hid (HG3.out.below hb4)
  have HZ4 := Lib.hid hb4.size
  clear ho4 hb4 c0 c1 c2 c3 HX3 HG3
  go_wp2_with fail
  have hb5 : Below w4.heap.size w4 (w4.alloc (.cells #[.int .i64 to, .string (bstr tn), .int .i64 ts, .slice A4 q c4'] 26)) := (Below.refl _ _).alloc (Nat.le_refl _) _
  refine (HIM.out _ _ _ (HO4.out.has.below (Nat.le_refl _) hb5) HSM.out).mono ?_
  rintro e w6 ⟨g6, p6, m6, hm6, rfl, ho6, hb6⟩
  have HG6 : Hid (OT 26 2 (w4.heap.size + 1) w6 (.slice (some ⟨g6, 0, none⟩) m6 p6) R [g6]) := Lib.hid (ot_flat hm6 (by simpa using ho6) HFL.out)
  have HL6 : Hid (w4.heap.size + 1 ≤ g6) := Lib.hid (HG6.out.lt g6 (by simp)).1
  have hb46 : Below w4.heap.size w4 w6 := hb5.trans (hb6.mono hb5.size)
  have HB6 : Hid (Box4 w6 w4.heap.size to tn ts (.slice A4 q c4')) := Lib.hid (Box4.below (w := w4.alloc (.cells #[.int .i64 to, .string (bstr tn), .int .i64 ts, .slice A4 q c4'] 26)) ⟨by simp, by simp, by simp, by simp, by simp⟩ hb6)
  have HX6 := Lib.hid (HX4.out.below hb46)
  have hbw6 := hbw4.trans (hb46.mono hbw4.size)
  have HO6 := Lib.hid (HO4.out.below hb46)
  have HW6 := Lib.hid (HG4.out.below hb46)
  clear hm6 ho6 hb5 hb6 hb46 HX4 HG4
  obtain ⟨hsw6, c0, c1, c2, c3⟩ := HX6.out
  obtain ⟨hs6, b0, b1, b2, b3⟩ := HB6.out
  go_wp2_with fail
  refine (HES.out _ _ _ _ _ HG6.out.has HW6.out.has).mono ?_
  rintro e w7 ⟨rfl, hb7⟩
  have hbw7 := hbw6.trans (hb7.mono hbw6.size)
  have HX7 := Lib.hid (HX6.out.below hb7)
  have HB7 := Lib.hid (HB6.out.below hb7)
  have HO7 := Lib.hid (HO6.out.below hb7)
  have HG7 := Lib.hid (HG6.out.below hb7)
  have HW7 := Lib.hid (HW6.out.below hb7)
  clear hb7 c0 c1 c2 c3 b0 b1 b2 b3 hs6 hsw6 HX6 HB6 HO6 HG6 HW6
  obtain ⟨hsw7, c0, c1, c2, c3⟩ := HX7.out
  obtain ⟨hs7, b0, b1, b2, b3⟩ := HB7.out
  go_wp2_with fail
  go_region_held3 (fun w' => (w'.cell? ⟨w4.heap.size, 0, none⟩ = some (.int .i64 to) ∧ w'.cell? ⟨w4.heap.size, 0 + 1, none⟩ = some (.string (bstr tn)) ∧ w'.cell? ⟨w4.heap.size, 0 + 2, none⟩ = some (.int .i64 ts) ∧ w'.cell? ⟨w4.heap.size, 0 + 3, none⟩ = some (.slice A4 q c4') ∧
      w'.cell? ⟨w.heap.size, 0, none⟩ = some (.int .i64 to) ∧ w'.cell? ⟨w.heap.size, 0 + 1, none⟩ = some (.string (bstr tn)) ∧ w'.cell? ⟨w.heap.size, 0 + 2, none⟩ = some (.int .i64 ts) ∧ w'.cell? ⟨w.heap.size, 0 + 3, none⟩ = some (.slice A q ca)) ∧ Below w7.heap.size w7 w')
    (first | (refine ⟨⟨?_, ?_, ?_, ?_, ?_, ?_, ?_, ?_⟩, (Below.refl _ _).drew⟩ <;> assumption) | (go_split_ands; exact keep_eight (g := w4.heap.size) (g' := w.heap.size) ⟨⟨by assumption, by assumption, by assumption, by assumption, by assumption, by assumption, by assumption, by assumption⟩, by assumption⟩ ⟨hs7, hsw7⟩ (by assumption)))
    ((first | (go_at_call 27; go_split_ands; refine (HTO.out _ (hbw7.trans (Below.mono (by assumption) hbw7.size)) HSM.out).mono ?_; rintro e w8 ⟨v8, S8, rfl, ho8, hb8⟩; obtain ⟨A8, c8', rfl⟩ := HOS.out ho8; have HO8 := Lib.hid ho8) | (go_at_call 29; go_split_ands; refine (HEQ.out _ _ _ _ _ (HasTs.below HO7.out.has (Nat.le_refl _) (by assumption)) HO8.out.has).mono ?_; rintro e w9 ⟨rfl, hb9⟩)))
  have h79 : Below w7.heap.size w7 w9 := by go_split_ands; assumption
  have HX9 := Lib.hid (HX7.out.below h79)
  have HB9 := Lib.hid (HB7.out.below h79)
  have HO9 := Lib.hid (HO7.out.below h79)
  have HG9 := Lib.hid (HG7.out.below h79)
  have HW9 := Lib.hid (HW7.out.below h79)
  have hbw9 := hbw7.trans (h79.mono hbw7.size)
  clear h79 c0 c1 c2 c3 b0 b1 b2 b3 hs7 hsw7 HX7 HB7 HO7 HG7 HW7 hb8 hb9 HO8
  obtain ⟨_, b0, b1, b2, b3⟩ := HB9.out
  -- marks in the argument
  go_wp2_with fail
  refine (HMK.out _ S4 w9 _ HO9.out HSM.out).mono ?_
  rintro e w10 ⟨rfl, hch⟩
  have HG10 := Lib.hid (HG9.out.chg hch (fun k hk hm => by simp at hk; subst hk; have := HL4.out _ hm; have := HL6.out; omega))
  have HW10 := Lib.hid (HW9.out.chg hch (fun k hk hm => by simp at hk; subst hk; have := HL4.out _ hm; have := HL3.out; omega))
  have HX10 := Lib.hid (HX9.out.chg hch (fun hm => by have := HL4.out _ hm; omega))
  have hbw10 := hbw9.trans (hch.below hbw9.size (fun k hk => by have := HL4.out _ hk; omega))
  clear hch b0 b1 b2 b3 HX9 HB9 HO9 HG9 HW9
  go_wp2_with fail
  refine (HES.out _ _ _ _ _ HG10.out.has HW10.out.has).mono ?_
  rintro e w11 ⟨rfl, hb11⟩
  have HG11 := Lib.hid (HG10.out.below hb11)
  have HW11 := Lib.hid (HW10.out.below hb11)
  have HX11 := Lib.hid (HX10.out.below hb11)
  have hbw11 := hbw10.trans (hb11.mono hbw10.size)
  clear hb11 HX10 HG10 HW10
  -- marks in the answer
  go_wp2_with fail
  refine (HMS.out _ _ _ _ HG11.out).mono ?_
  rintro e w12 ⟨rfl, ho12, hch⟩
  have HG12 := Lib.hid ho12
  have HW12 := Lib.hid (HW11.out.chg hch (fun k hk hm => by simp at hk hm; have := HL3.out; have := HL6.out; have := HZ4.out; omega))
  have HX12 := Lib.hid (HX11.out.chg hch (fun hm => by simp at hm; have := HL6.out; have := HZ4.out; omega))
  have hbw12 := hbw11.trans (hch.below hbw11.size (fun k hk => by simp at hk; have := HL6.out; have := HZ4.out; omega))
  clear hch ho12 HX11 HG11 HW11
  go_wp2_with fail
  refine (HHT.out _ _ _ HG12.out.has).mono ?_
  rintro e w13 ⟨rfl, hb13⟩
  have HG13 := Lib.hid (HG12.out.below hb13)
  have HW13 := Lib.hid (HW12.out.below hb13)
  have HX13 := Lib.hid (HX12.out.below hb13)
  have hbw13 := hbw12.trans (hb13.mono hbw12.size)
  clear hb13 HX12 HG12 HW12
  obtain ⟨_, c0, c1, c2, c3⟩ := HX13.out
  -- once more
  go_wp2_with fail
  refine (HTO.out _ hbw13 HSM.out).mono ?_
  rintro e w14 ⟨v14, S14, rfl, ho14, hb14⟩
  obtain ⟨A14, c14, rfl⟩ := HOS.out ho14
  have HO14 := Lib.hid ho14
  have HG14 := Lib.hid (HG13.out.below hb14)
  have HW14 := Lib.hid (HW13.out.below hb14)
  have hbw14 := hbw13.trans (hb14.mono hbw13.size)
  clear ho14 hb14 c0 c1 c2 c3 HX13 HG13 HW13
  go_wp2_with fail
  refine (HIM.out _ _ _ HO14.out.has HSM.out).mono ?_
  rintro e w15 ⟨g15, p15, m15, hm15, rfl, ho15, hb15⟩
  have HH15 := Lib.hid (ot_flat hm15 ho15 HFL.out)
  have HG15 := Lib.hid (HG14.out.below hb15)
  have HW15 := Lib.hid (HW14.out.below hb15)
  have hbw15 := hbw14.trans (hb15.mono hbw14.size)
  clear hm15 ho15 hb15 HG14 HW14 HO14
  go_wp2_with fail
  refine (HES.out _ _ _ _ _ HH15.out.has HW15.out.has).mono ?_
  rintro e w16 ⟨rfl, hb16⟩
  have HG16 := Lib.hid (HG15.out.below hb16)
  have hbw16 := hbw15.trans (hb16.mono hbw15.size)
  clear hb16 HG15 HW15 HH15
  go_wp2_with fail
  refine (HHT.out _ _ _ HG16.out.has).mono ?_
  rintro e w17 ⟨rfl, hb17⟩
  have hbw17 := hbw16.trans (hb17.mono hbw16.size)
  clear hb17 HG16
  go_wp2
  go_ret
  exact ⟨rfl, hbw17⟩
set_option maxRecDepth 100000 in
theorem walk {H : Type} {enc : TypeId × Value → H} {W : World} {base : Nat} {v : Value} {d : DataW H} {p : List MemPlace}
    (hval : Value.okWide Try.prog W .any base 56 v) (hd : DataW.Trod enc Try.prog W 0 (fun _ => true) true 56 v d p) (_hlt : ∀ x ∈ p, x.block < W.heap.size) :
    Calls Try.prog 6 #[v] W fun e w' => e = .returned (.bool true) ∧ Below W.heap.size W w' := by
  obtain ⟨n, t, va, rfl, h, hB⟩ := termop.has_term hval hd
  exact go t va W h hB
end Go.Proofs.Ytejmfiocdecigaa.fnExactVariablesOf
