/-
  THE WALK OF FnExactOccursIn.
-/
import Derived.Test.YtlhdnnakkjafgaaTermop
import Derived.Test.YtlhdnnakkjafgaaTermu
import Derived.Test.YtlhdnnakkjafgaaTermvo
import Derived.Test.YtlhdnnakkjafgaaTermoc
import Derived.Deep.RegionHeld3
namespace Go.Proofs.Ytlhdnnakkjafgaa.fnExactOccursIn
open Go.ChangeShapes Go.WideShapes Go.ChangeAt Go.RowKit
open mem rowl trm trmv terml termb termt termu termv termx termvo termoc

/-- four cells of a box -/
def Box4 (w : World) (g : Nat) (op : Int) (l : List UInt8) (s : Int) (v : Value) : Prop := w.cell? ⟨g, 0, none⟩ = some (.int .i64 op) ∧ w.cell? ⟨g, 0 + 1, none⟩ = some (.string (bstr l)) ∧ w.cell? ⟨g, 0 + 2, none⟩ = some (.int .i64 s) ∧ w.cell? ⟨g, 0 + 3, none⟩ = some v
theorem Box4.below {w w' : World} {g : Nat} {op : Int} {l : List UInt8} {s : Int} {v : Value} (h : Box4 w g op l s v) (hg : g < w.heap.size) (hb : Below w.heap.size w w') : Box4 w' g op l s v := by
  have k : ∀ x, w'.cell? ⟨g, x, none⟩ = w.cell? ⟨g, x, none⟩ := fun x => hb.cell (p := ⟨g, x, none⟩) hg
  unfold Box4
  rw [k, k, k, k]
  exact h
theorem Box4.out {w : World} {g : Nat} {op : Int} {l : List UInt8} {s : Int} {v : Value} (h : Box4 w g op l s v) : w.cell? ⟨g, 0, none⟩ = some (.int .i64 op) ∧ w.cell? ⟨g, 1, none⟩ = some (.string (bstr l)) ∧ w.cell? ⟨g, 2, none⟩ = some (.int .i64 s) ∧ w.cell? ⟨g, 3, none⟩ = some v := h
set_option maxHeartbeats 8000000 in
set_option maxRecDepth 100000 in
theorem go {n m : Nat} (t u : TermM) (va vb : Value) (w : World) (h : HasTs n 0 w va t.args) (hB : Bnd t) (h' : HasTs m 0 w vb u.args) (hB' : Bnd u) :
    Calls Try.prog 10 #[aggT t va, aggT u vb] w fun e w' => e = .returned (.bool true) ∧ Below w.heap.size w w' := by
  have HSA := Lib.hid (fun W (hW : Below w.heap.size w W) => szTerm_any t.op t.name t.sort t.args va W hB.1 (h.below (Nat.le_refl _) hW) 1048576 (by omega) (by omega))
  have HSB := Lib.hid (fun W (hW : Below w.heap.size w W) r (h0 : 0 ≤ r) (h1 : r ≤ 1048576) => szTerm_any u.op u.name u.sort u.args vb W hB'.1 (h'.below (Nat.le_refl _) hW) r h0 h1)
  have HTA := Lib.hid (fun W (hW : Below w.heap.size w W) (hs : sizes t.args ≤ 1048576) => toTerm_any t.op t.name t.sort t.args hs va W (h.below (Nat.le_refl _) hW))
  have HTB := Lib.hid (fun W (hW : Below w.heap.size w W) (hs : sizes u.args ≤ 1048576) => toTerm_any u.op u.name u.sort u.args hs vb W (h'.below (Nat.le_refl _) hW))
  obtain ⟨z, hz⟩ : ∃ z : Bool, z = occT t u := ⟨_, rfl⟩
  have HSP := Lib.hid (fun v1 v2 W lo lo' (hW : HasTs (n + 1) lo W v1 t.args) (hW' : HasTs (m + 1) lo' W v2 u.args) (hs : sizes t.args ≤ 1048576) (hs' : sizes u.args ≤ 1048576) => (by rw [hz]; exact occOf_all (m + 1) (n + 1) t u v1 v2 W lo lo' hW hW' : Calls Try.prog 23 #[aggT t v1, aggT u v2] W fun e w' => e = .returned (.bool z) ∧ Below W.heap.size W w'))
  have HIM := Lib.hid (fun v1 v2 W lo lo' (hW : HasTs (n + 1) lo W v1 t.args) (hW' : HasTs (m + 1) lo' W v2 u.args) (hs : sizes t.args ≤ 1048576) (hs' : sizes u.args ≤ 1048576) => (by rw [hz]; exact occursIn_any t u v1 v2 W hW hW' hB' hs hs' : Calls Try.prog 20 #[aggT t v1, aggT u v2] W fun e w' => e = .returned (.bool z) ∧ Below W.heap.size W w'))
  have HEA := Lib.hid (fun v1 v2 W lo lo' (hW : HasTs (n + 1) lo W v1 t.args) (hW' : HasTs (n + 1) lo' W v2 t.args) => eqTerm_any t.op t.name t.sort t.args v1 v2 W hW hW')
  have HEB := Lib.hid (fun v1 v2 W lo lo' (hW : HasTs (m + 1) lo W v1 u.args) (hW' : HasTs (m + 1) lo' W v2 u.args) => eqTerm_any u.op u.name u.sort u.args v1 v2 W hW hW')
  obtain ⟨A, ca, rfl, _⟩ := HasR.shape h rfl
  obtain ⟨B, cb, rfl, _⟩ := HasR.shape h' rfl
  have HOA : Hid (∀ {W lo v S}, OT 26 (n + 1) lo W v t.args S → ∃ A c, v = .slice A t.args.length c) := Lib.hid (fun h => OT.shape h)
  have HOB : Hid (∀ {W lo v S}, OT 26 (m + 1) lo W v u.args S → ∃ A c, v = .slice A u.args.length c) := Lib.hid (fun h => OT.shape h)
  obtain ⟨q, hq⟩ : ∃ q, q = t.args.length := ⟨_, rfl⟩
  obtain ⟨p, hp⟩ : ∃ q, q = u.args.length := ⟨_, rfl⟩
  unfold aggT at HIM HSP ⊢
  obtain ⟨to, hto⟩ : ∃ q, q = t.op := ⟨_, rfl⟩
  obtain ⟨tn, htn⟩ : ∃ q, q = t.name := ⟨_, rfl⟩
  obtain ⟨ts, hts⟩ : ∃ q, q = t.sort := ⟨_, rfl⟩
  obtain ⟨uo, huo⟩ : ∃ q, q = u.op := ⟨_, rfl⟩
  obtain ⟨un, hun⟩ : ∃ q, q = u.name := ⟨_, rfl⟩
  obtain ⟨us, hus⟩ : ∃ q, q = u.sort := ⟨_, rfl⟩
  rw [← hq] at HSA HTA HOA ⊢
  rw [← hp] at HSB HTB HOB ⊢
  rw [← hto, ← htn, ← hts] at HSA HTA HSP HIM HEA ⊢
  rw [← huo, ← hun, ← hus] at HSB HTB HSP HIM HEB ⊢
  clear h hB h' hB' hz hq hp hto htn hts huo hun hus
  go_enter Try.func10, Try.ntmps10
  go_wp2_with fail
  have hb0 : Below w.heap.size w ((w.alloc (.cells #[.int .i64 to, .string (bstr tn), .int .i64 ts, .slice A q ca] 38)).alloc (.cells #[.int .i64 uo, .string (bstr un), .int .i64 us, .slice B p cb] 38)) := ((Below.refl _ _).alloc (Nat.le_refl _) _).alloc (by simp) _
  refine (HSA.out _ hb0).mono ?_
  rintro e w1 ⟨r, rfl, hr, hr1, hr2, hb1⟩
  have hbw1 : Below w.heap.size w w1 := hb0.trans (hb1.mono (by simp; omega))
  have HXA : Hid (Box4 w1 w.heap.size to tn ts (.slice A q ca)) := Lib.hid (Box4.below ⟨by simp, by simp, by simp, by simp⟩ (by simp; omega) hb1)
  have HXB : Hid (Box4 w1 (w.heap.size + 1) uo un us (.slice B p cb)) := Lib.hid (Box4.below ⟨by simp, by simp, by simp, by simp⟩ (by simp) hb1)
  have hs1 : w.heap.size + 1 < w1.heap.size := by have := hb1.size; simp at this; omega
  clear hb1 hb0
  by_cases hneg : r < 0
  · go_wp2
    go_ret
    exact ⟨rfl, hbw1⟩
  have HR1 := Lib.hid hr
  obtain ⟨d0, d1, d2, d3⟩ := HXB.out.out
  clear hr
  go_wp2_with fail
  refine (HSB.out _ hbw1 r (by omega) hr2).mono ?_
  rintro e w2 ⟨r', rfl, hr', hr1', hr2', hb2⟩
  have hbw2 := hbw1.trans (hb2.mono hbw1.size)
  have HYA := Lib.hid (HXA.out.below (by omega) hb2)
  have HYB := Lib.hid (HXB.out.below hs1 hb2)
  have hs2 : w.heap.size + 1 < w2.heap.size := Nat.lt_of_lt_of_le hs1 hb2.size
  clear hb2 d0 d1 d2 d3 HXA HXB
  by_cases hneg' : r' < 0
  · go_wp2
    go_ret
    exact ⟨rfl, hbw2⟩
  have HSM := Lib.hid (And.intro (show sizes t.args ≤ 1048576 by have := HR1.out (by omega); omega) (show sizes u.args ≤ 1048576 by have := hr' (by omega); omega))
  clear hr' HR1
  obtain ⟨c0, c1, c2, c3⟩ := HYA.out.out
  obtain ⟨d0, d1, d2, d3⟩ := HYB.out.out
  have hsw2 : w.heap.size < w2.heap.size := by omega
  go_wp2_with fail
  go_region_held3 (fun w' => (w'.cell? ⟨w.heap.size, 0, none⟩ = some (.int .i64 to) ∧ w'.cell? ⟨w.heap.size, 0 + 1, none⟩ = some (.string (bstr tn)) ∧ w'.cell? ⟨w.heap.size, 0 + 2, none⟩ = some (.int .i64 ts) ∧ w'.cell? ⟨w.heap.size, 0 + 3, none⟩ = some (.slice A q ca) ∧
      w'.cell? ⟨w.heap.size + 1, 0, none⟩ = some (.int .i64 uo) ∧ w'.cell? ⟨w.heap.size + 1, 0 + 1, none⟩ = some (.string (bstr un)) ∧ w'.cell? ⟨w.heap.size + 1, 0 + 2, none⟩ = some (.int .i64 us) ∧ w'.cell? ⟨w.heap.size + 1, 0 + 3, none⟩ = some (.slice B p cb)) ∧ Below w2.heap.size w2 w')
    (first | (refine ⟨⟨?_, ?_, ?_, ?_, ?_, ?_, ?_, ?_⟩, (Below.refl _ _).drew⟩ <;> assumption) | (go_split_ands; exact keep_eight (g := w.heap.size) (g' := w.heap.size + 1) ⟨⟨by assumption, by assumption, by assumption, by assumption, by assumption, by assumption, by assumption, by assumption⟩, by assumption⟩ ⟨hsw2, hs2⟩ (by assumption)))
    ((first
      | (go_at_call 26; go_split_ands; first
          | (with_reducible refine (HTA.out _ (hbw2.trans (Below.mono (by assumption) hbw2.size)) HSM.out.1).mono ?_; rintro e wa ⟨v7, S7, rfl, ho7, hb7⟩; obtain ⟨A7, c7', rfl⟩ := HOA.out ho7; have HO7 := Lib.hid ho7; clear ho7)
          | (with_reducible refine (HTB.out _ (hbw2.trans (Below.mono (by assumption) hbw2.size)) HSM.out.2).mono ?_; rintro e wb ⟨v8, S8, rfl, ho8, hb8⟩; obtain ⟨A8, c8', rfl⟩ := HOB.out ho8; have HO8 := Lib.hid ho8; clear ho8))
      | (go_at_call 23; go_split_ands; with_reducible refine (HSP.out _ _ _ _ _ (by first | exact HO7.out.has | exact (HO7.out.below hb8).has) (by first | exact HO8.out.has | exact (HO8.out.below hb7).has) HSM.out.1 HSM.out.2).mono ?_; rintro e w3 ⟨rfl, hb3⟩)))
  all_goals
    go_split_ands
    have hb23 : Below w2.heap.size w2 w3 := by assumption
    have hbw3 := hbw2.trans (hb23.mono hbw2.size)
    have HZA := Lib.hid (HYA.out.below hsw2 hb23)
    have HZB := Lib.hid (HYB.out.below hs2 hb23)
    have hs3 : w.heap.size + 1 < w3.heap.size := Nat.lt_of_lt_of_le hs2 hb23.size
    clear hb23 hb7 hb8 hb3 HO7 HO8 c0 c1 c2 c3 d0 d1 d2 d3 HYA HYB
    obtain ⟨c0, c1, c2, c3⟩ := HZA.out.out
    -- the program's arguments
    go_wp2_with fail
    with_reducible refine (HTA.out _ hbw3 HSM.out.1).mono ?_
    rintro e w4 ⟨v4, S4, rfl, ho4, hb4⟩
    obtain ⟨A4, c4', rfl⟩ := HOA.out ho4
    have HO4 := Lib.hid ho4
    have hbw4 := hbw3.trans (hb4.mono hbw3.size)
    have HVA := Lib.hid (HZA.out.below (by omega) hb4)
    have HVB := Lib.hid (HZB.out.below hs3 hb4)
    have hs4 : w.heap.size + 1 < w4.heap.size := Nat.lt_of_lt_of_le hs3 hb4.size
    clear ho4 hb4 c0 c1 c2 c3 HZA HZB
    obtain ⟨d0, d1, d2, d3⟩ := HVB.out.out
    go_wp2_with fail
    have hb5 : Below w4.heap.size w4 (w4.alloc (.cells #[.int .i64 to, .string (bstr tn), .int .i64 ts, .slice A4 q c4'] 26)) := (Below.refl _ _).alloc (Nat.le_refl _) _
    have HX0 : Hid (Box4 (w4.alloc (.cells #[.int .i64 to, .string (bstr tn), .int .i64 ts, .slice A4 q c4'] 26)) w4.heap.size to tn ts (.slice A4 q c4')) := Lib.hid ⟨by simp, by simp, by simp, by simp⟩
    have hs5 : (w4.alloc (.cells #[.int .i64 to, .string (bstr tn), .int .i64 ts, .slice A4 q c4'] 26)).heap.size = w4.heap.size + 1 := by simp
    generalize w4.alloc (.cells #[.int .i64 to, .string (bstr tn), .int .i64 ts, .slice A4 q c4'] 26) = w5 at hb5 HX0 hs5 ⊢
    have hbw5 := hbw4.trans (hb5.mono hbw4.size)
    have HO45 := Lib.hid (HO4.out.below hb5)
    have HWA := Lib.hid (HVA.out.below (by omega) hb5)
    have HWB := Lib.hid (HVB.out.below hs4 hb5)
    clear d0 d1 d2 d3 HVA HVB hb5 HO4
    with_reducible refine (HTB.out _ hbw5 HSM.out.2).mono ?_
    rintro e w6 ⟨v6, S6, rfl, ho6, hb6⟩
    obtain ⟨A6, c6', rfl⟩ := HOB.out ho6
    have HO6 := Lib.hid ho6
    have hbw6 := hbw5.trans (hb6.mono hbw5.size)
    have HX06 := Lib.hid (HX0.out.below (by omega) hb6)
    have HO46 := Lib.hid (HO45.out.below hb6)
    have HWA6 := Lib.hid (HWA.out.below (by omega) hb6)
    have HWB6 := Lib.hid (HWB.out.below (by omega) hb6)
    have hs6 : w4.heap.size < w6.heap.size := by have := hb6.size; omega
    clear ho6 hb6 HX0 HO45 HWA HWB
    obtain ⟨b0, b1, b2, b3⟩ := HX06.out.out
    go_wp2_with fail
    have hb7 : Below w6.heap.size w6 (w6.alloc (.cells #[.int .i64 uo, .string (bstr un), .int .i64 us, .slice A6 p c6'] 26)) := (Below.refl _ _).alloc (Nat.le_refl _) _
    have HX1 : Hid (Box4 (w6.alloc (.cells #[.int .i64 uo, .string (bstr un), .int .i64 us, .slice A6 p c6'] 26)) w6.heap.size uo un us (.slice A6 p c6')) := Lib.hid ⟨by simp, by simp, by simp, by simp⟩
    have hs7 : (w6.alloc (.cells #[.int .i64 uo, .string (bstr un), .int .i64 us, .slice A6 p c6'] 26)).heap.size = w6.heap.size + 1 := by simp
    with_reducible refine (HIM.out _ _ _ _ _ (HO46.out.below hb7).has (HO6.out.below hb7).has HSM.out.1 HSM.out.2).mono ?_
    rintro e w7 ⟨rfl, hb8⟩
    have hb67 : Below w6.heap.size w6 w7 := hb7.trans (hb8.mono hb7.size)
    have hbw7 := hbw6.trans (hb67.mono hbw6.size)
    have HX07 := Lib.hid (HX06.out.below hs6 hb67)
    have HX17 := Lib.hid (HX1.out.below (by omega) hb8)
    have HO47 := Lib.hid (HO46.out.below hb67)
    have HO67 := Lib.hid (HO6.out.below hb67)
    have HWA7 := Lib.hid (HWA6.out.below (by omega) hb67)
    have HWB7 := Lib.hid (HWB6.out.below (by omega) hb67)
    have hs76 : w6.heap.size < w7.heap.size := by have := hb8.size; omega
    have hs74 : w4.heap.size < w7.heap.size := by omega
    have hs70 : w.heap.size < w7.heap.size := by omega
    clear hb7 hb8 hb67 b0 b1 b2 b3 HX06 HX1 HO46 HO6 HWA6 HWB6 hs7
    obtain ⟨b0, b1, b2, b3⟩ := HX07.out.out
    obtain ⟨c0, c1, c2, c3⟩ := HWA7.out.out
    go_wp2_with fail
    go_region_held3 (fun w' => (w'.cell? ⟨w4.heap.size, 0, none⟩ = some (.int .i64 to) ∧ w'.cell? ⟨w4.heap.size, 0 + 1, none⟩ = some (.string (bstr tn)) ∧ w'.cell? ⟨w4.heap.size, 0 + 2, none⟩ = some (.int .i64 ts) ∧ w'.cell? ⟨w4.heap.size, 0 + 3, none⟩ = some (.slice A4 q c4') ∧
        w'.cell? ⟨w.heap.size, 0, none⟩ = some (.int .i64 to) ∧ w'.cell? ⟨w.heap.size, 0 + 1, none⟩ = some (.string (bstr tn)) ∧ w'.cell? ⟨w.heap.size, 0 + 2, none⟩ = some (.int .i64 ts) ∧ w'.cell? ⟨w.heap.size, 0 + 3, none⟩ = some (.slice A q ca)) ∧ Below w7.heap.size w7 w')
      (first | (refine ⟨⟨?_, ?_, ?_, ?_, ?_, ?_, ?_, ?_⟩, (Below.refl _ _).drew⟩ <;> assumption) | (go_split_ands; exact keep_eight (g := w4.heap.size) (g' := w.heap.size) ⟨⟨by assumption, by assumption, by assumption, by assumption, by assumption, by assumption, by assumption, by assumption⟩, by assumption⟩ ⟨hs74, hs70⟩ (by assumption)))
      ((first | (go_at_call 26; go_split_ands; with_reducible refine (HTA.out _ (hbw7.trans (Below.mono (by assumption) hbw7.size)) HSM.out.1).mono ?_; rintro e wz ⟨v9, S9, rfl, ho9, hb9⟩; obtain ⟨A9, c9', rfl⟩ := HOA.out ho9; have HO9 := Lib.hid ho9; clear ho9) | (go_at_call 28; go_split_ands; refine (HEA.out _ _ _ _ _ (HasTs.below HO47.out.has (Nat.le_refl _) (by assumption)) HO9.out.has).mono ?_; rintro e w8 ⟨rfl, hb10⟩)))
    go_split_ands
    have hb78 : Below w7.heap.size w7 w8 := by assumption
    have hbw8 := hbw7.trans (hb78.mono hbw7.size)
    have HX18 := Lib.hid (HX17.out.below hs76 hb78)
    have HO68 := Lib.hid (HO67.out.below hb78)
    have HWB8 := Lib.hid (HWB7.out.below (by omega) hb78)
    have hs86 : w6.heap.size < w8.heap.size := Nat.lt_of_lt_of_le hs76 hb78.size
    have hs81 : w.heap.size + 1 < w8.heap.size := by omega
    clear hb78 hb9 hb10 HO9 b0 b1 b2 b3 c0 c1 c2 c3 HX07 HX17 HO47 HO67 HWA7 HWB7
    obtain ⟨b0, b1, b2, b3⟩ := HX18.out.out
    obtain ⟨d0, d1, d2, d3⟩ := HWB8.out.out
    go_wp2_with fail
    go_region_held3 (fun w' => (w'.cell? ⟨w6.heap.size, 0, none⟩ = some (.int .i64 uo) ∧ w'.cell? ⟨w6.heap.size, 0 + 1, none⟩ = some (.string (bstr un)) ∧ w'.cell? ⟨w6.heap.size, 0 + 2, none⟩ = some (.int .i64 us) ∧ w'.cell? ⟨w6.heap.size, 0 + 3, none⟩ = some (.slice A6 p c6') ∧
        w'.cell? ⟨(w.heap.size + 1), 0, none⟩ = some (.int .i64 uo) ∧ w'.cell? ⟨(w.heap.size + 1), 0 + 1, none⟩ = some (.string (bstr un)) ∧ w'.cell? ⟨(w.heap.size + 1), 0 + 2, none⟩ = some (.int .i64 us) ∧ w'.cell? ⟨(w.heap.size + 1), 0 + 3, none⟩ = some (.slice B p cb)) ∧ Below w8.heap.size w8 w')
      (first | (refine ⟨⟨?_, ?_, ?_, ?_, ?_, ?_, ?_, ?_⟩, (Below.refl _ _).drew⟩ <;> assumption) | (go_split_ands; exact keep_eight (g := w6.heap.size) (g' := (w.heap.size + 1)) ⟨⟨by assumption, by assumption, by assumption, by assumption, by assumption, by assumption, by assumption, by assumption⟩, by assumption⟩ ⟨hs86, hs81⟩ (by assumption)))
      ((first | (go_at_call 26; go_split_ands; with_reducible refine (HTB.out _ (hbw8.trans (Below.mono (by assumption) hbw8.size)) HSM.out.2).mono ?_; rintro e wz ⟨v9, S9, rfl, ho9, hb9⟩; obtain ⟨A9, c9', rfl⟩ := HOB.out ho9; have HO9 := Lib.hid ho9; clear ho9) | (go_at_call 28; go_split_ands; refine (HEB.out _ _ _ _ _ (HasTs.below HO68.out.has (Nat.le_refl _) (by assumption)) HO9.out.has).mono ?_; rintro e w9 ⟨rfl, hb10⟩)))
    go_wp2
    go_ret
    go_split_ands
    exact ⟨rfl, hbw8.trans (Below.mono (by assumption) hbw8.size)⟩
set_option maxRecDepth 100000 in
theorem walk {H : Type} {enc : TypeId × Value → H} {W : World} {base : Nat} {v v' : Value} {d d' : DataW H} {p p' : List MemPlace}
    (hval : Value.okWide Try.prog W .any base 38 v) (hd : DataW.Trod enc Try.prog W 0 (fun _ => true) true 38 v d p) (_hlt : ∀ x ∈ p, x.block < W.heap.size)
    (hval' : Value.okWide Try.prog W .any base 38 v') (hd' : DataW.Trod enc Try.prog W 0 (fun _ => true) true 38 v' d' p') (_hlt' : ∀ x ∈ p', x.block < W.heap.size) :
    Calls Try.prog 10 #[v, v'] W fun e w' => e = .returned (.bool true) ∧ Below W.heap.size W w' := by
  obtain ⟨n, t, va, rfl, h, hB⟩ := termop.has_term hval hd
  obtain ⟨m, u, vb, rfl, h', hB'⟩ := termop.has_term hval' hd'
  exact go t u va vb W h hB h' hB'
end Go.Proofs.Ytlhdnnakkjafgaa.fnExactOccursIn
