/-
  JOINING: plain mathematics, and the contracts.
-/
import Derived.Test.YtkmgpdadioeipaaGreatStrl
import Derived.Lib.AppendStr
set_option maxRecDepth 50000
namespace Go.Proofs.YtkmgpdadioeipaaGreat.join
open Go.ChangeShapes Go.WideShapes Go.ChangeAt Go.RowKit
open mem split strl
theorem info_u8J : (Tryz.prog.info? 5).map (fun i => (i.zero, i.size, i.bytes)) = some (some (.int .u8 0), 1, 1) := by kernel_rfl

/-- the first k elements joined -/
def jk (c : List UInt8) (P : List (List UInt8)) : Nat → List UInt8
  | 0 => []
  | k + 1 => jk c P k ++ (if 0 < k then c else []) ++ P.getD k []
theorem jk_mono (c : List UInt8) (P : List (List UInt8)) (k : Nat) : (jk c P k).length ≤ (jk c P (k + 1)).length := by simp [jk]
theorem jk_le (c : List UInt8) (P : List (List UInt8)) (k m : Nat) (h : k ≤ m) : (jk c P k).length ≤ (jk c P m).length := by
  induction m with
  | zero => have : k = 0 := by omega
            subst this; exact Nat.le_refl _
  | succ m ih =>
    by_cases hk : k = m + 1
    · subst hk; exact Nat.le_refl _
    · exact Nat.le_trans (ih (by omega)) (jk_mono c P m)
def okJ (c : List UInt8) (P : List (List UInt8)) : Bool := decide ((jk c P P.length).length ≤ 1048576)
def outJ (c : List UInt8) (P : List (List UInt8)) : List UInt8 := if okJ c P then jk c P P.length else []
theorem ok_no {c : List UInt8} {P : List (List UInt8)} {k : Nat} (hk : k ≤ P.length) (h : 1048576 < (jk c P k).length) : okJ c P = false ∧ outJ c P = [] := by
  have := jk_le c P k P.length hk
  have h2 : okJ c P = false := by simp [okJ]; omega
  exact ⟨h2, by simp [outJ, h2]⟩
theorem ok_yes {c : List UInt8} {P : List (List UInt8)} (h : (jk c P P.length).length ≤ 1048576) : okJ c P = true ∧ outJ c P = jk c P P.length := by
  have h2 : okJ c P = true := by simp [okJ, h]
  exact ⟨h2, by simp [outJ, h2]⟩

theorem ret_pair {a : Int} {b : Bool} {a' : Int} {b' : Bool} (h : a = a') (h' : b = b') : Ending.returned (.tuple #[.int .i64 a, .bool b]) = .returned (.tuple #[.int .i64 a', .bool b']) := by rw [h, h']

/-- all are short -/
def Small (P : List (List UInt8)) : Prop := P.length ≤ 1048576 ∧ ∀ k, k < P.length → (P.getD k []).length ≤ 1048576

/-- laws.szStringS -/
theorem sz_any (P : List (List UInt8)) (hP : ∀ k, k < P.length → (P.getD k []).length ≤ maxLen) (v : Value) (w : World) (h : Has w v (ssv P)) :
    Calls Tryz.prog 126 #[v, .int .i64 1048576] w fun e w' => ∃ r : Int, e = .returned (.int .i64 r) ∧ (0 ≤ r → Small P) ∧ -1 ≤ r ∧ r ≤ 1048576 ∧ Below w.heap.size w w' := by
  obtain ⟨A, c, rfl, h⟩ := h.shape (ssv_len P)
  have hl := h.len.2
  by_cases hbig : 1048576 < P.length
  · go_enter Tryz.func126, Tryz.ntmps126
    go_wp2
    go_ret
    exact ⟨-1, rfl, fun h => by omega, by omega, by omega, Below.refl _ _⟩
  · go_enter Tryz.func126, Tryz.ntmps126
    have hd : decide ((1048576 : Int) - (P.length : Int) < 0) = false := by simp; omega
    have hd1 : ((1048576 : Int) - (P.length : Int) < 0) = False := by simp; omega
    go_wp2
    go_loop [1, 5] (fun r i => ∃ (j : Nat) (R : Int), j ≤ P.length ∧ i = .int .i64 j ∧ r = .int .i64 R ∧ 0 ≤ R ∧ R ≤ 1048576 ∧ Hid (∀ k, k < j → (P.getD k []).length ≤ 1048576)) (fun _ i => P.length - (intOf i).toNat)
    case atStart => exact ⟨0, _, Nat.zero_le _, rfl, rfl, by omega, by omega, Lib.hid (fun k hk => by omega)⟩
    case round =>
      obtain ⟨j, R, hj, rfl, rfl, hR0, hR1, HALL⟩ := hrel
      by_cases hlt : j < P.length
      · obtain ⟨g, o, rfl, hg, hcell⟩ := h.cellAt hlt
        rw [ssv_get P j hlt] at hcell
        have hsz := bstr_size (P.getD j [])
        have hm := hP j hlt
        unfold maxLen at hm
        obtain ⟨x, hx⟩ : ∃ x, x = P.getD j [] := ⟨_, rfl⟩
        rw [← hx] at hcell hsz hm
        have HX := Lib.hid hx
        have HP := Lib.hid hP
        clear hx hP h
        by_cases hneg : R - (x.length : Int) < 0
        · go_wp2
          go_ret
          exact ⟨-1, rfl, fun h => by omega, by omega, by omega, Below.refl _ _⟩
        · have HALL2 : Hid (∀ k, k < j + 1 → (P.getD k []).length ≤ 1048576) := Lib.hid (by
            intro k hk
            by_cases hkj : k = j
            · subst hkj; rw [← HX.out]; omega
            · exact HALL.out k (by omega))
          go_wp2
          go_round
          case rel => exact ⟨j + 1, _, by omega, by go_num, rfl, by omega, by omega, HALL2⟩
          case measure => simp [intOf]; omega
      · obtain rfl : j = P.length := by omega
        have HS : Hid (Small P) := Lib.hid ⟨by omega, HALL.out⟩
        have HP := Lib.hid hP
        clear hP h
        go_wp2
        go_ret
        exact ⟨R, rfl, fun _ => HS.out, by omega, by omega, Below.refl _ _⟩

/-- laws.toStringS -/
theorem to_any (P : List (List UInt8)) (hP : P.length ≤ 1048576) (v : Value) (w : World) (h : Has w v (ssv P)) :
    Calls Tryz.prog 138 #[v] w fun e w' => ∃ v', e = .returned v' ∧ w'.ownsRow w.heap.size 9 1 v' P.length (ssv P) ∧ Below w.heap.size w w' := by
  obtain ⟨A, c, rfl, h⟩ := h.shape (ssv_len P)
  obtain ⟨i0, hi, hz0, hz1, hz2⟩ := info_parts info_str
  go_enter Tryz.func138, Tryz.ntmps138
  go_wp2_with (at_make; refine wpList_make_full _ rfl _ _ 24 rfl w.heap.size 9 i0 (.string .empty) 1 Tryz.underlying24 hi hz0 hz1 _ _ _ _ P.length rfl rfl rfl rfl (by rw [hz2]; omega) (by unfold maxLen; omega) (Nat.le_refl _) ?_)
  intro w1 hown hgrow
  go_wp2
  go_loopw [4] (fun i wr => ∃ (j : Nat) (ys : List Value), j ≤ P.length ∧ i = .int .i64 j ∧ wr.ownsRow w.heap.size 9 1 (.slice (some ⟨w.heap.size, 0, none⟩) P.length P.length) P.length ys ∧ Hid (ys.take j = ssv (P.take j)) ∧ Below w.heap.size w wr) (fun i _ => P.length - (intOf i).toNat)
  case atStart => exact ⟨0, _, Nat.zero_le _, rfl, hown, Lib.hid rfl, (Below.refl _ _).grown hgrow (Nat.le_refl _) (by intro k h; cases h)⟩
  case round =>
    obtain ⟨j, ys, hj, rfl, hown, HY, hbel⟩ := hrel
    by_cases hlt : j < P.length
    · obtain ⟨g, o, rfl, hg, hcell⟩ := h.cellAt hlt
      rw [ssv_get P j hlt, ← hbel.cell (p := ⟨g, o + j, none⟩) hg] at hcell
      obtain ⟨v0, hc⟩ : ∃ v0, wr.cell? ⟨w.heap.size, j, none⟩ = some v0 := by
        rw [hown.cellAt j (by omega)]
        exact ⟨_, List.getElem?_eq_getElem (by have := hown.1; omega)⟩
      have hf := hown.frozenAt j
      have HOWN := Lib.hid hown
      have hTK := take_get P j hlt
      have HTK := Lib.hid hTK
      obtain ⟨x, hx⟩ : ∃ x, x = P.getD j [] := ⟨_, rfl⟩
      rw [← hx] at hcell
      have HX := Lib.hid hx
      clear hown h hTK hx
      go_wp2
      go_roundw
      case rel =>
        refine ⟨j + 1, ys.set j (.string (bstr x)), by omega, by go_num, setCell_own HOWN.out j _, Lib.hid ?_, hbel.setCell (Nat.le_refl _) _⟩
        have hlen : ys.length = P.length := by have := HOWN.out.1; omega
        rw [List.take_succ_eq_append_getElem (by rw [List.length_set]; omega), List.take_set_of_le (Nat.le_refl _), HY.out, HTK.out, HX.out]
        simp [ssv]
      case measure => simp [intOf]; omega
    · obtain rfl : j = P.length := by omega
      have HW : Hid (wr.ownsRow w.heap.size 9 1 (.slice (some ⟨w.heap.size, 0, none⟩) P.length P.length) P.length (ssv P)) := Lib.hid (by
        have hlen : ys.length = P.length := by have := hown.1; omega
        have := HY.out
        rw [List.take_length, List.take_of_length_le (by omega)] at this
        rw [← this]; exact hown)
      clear h hown
      go_wp2
      go_ret
      exact ⟨_, rfl, HW.out, hbel⟩

/-- impl.joinedSize -/
theorem size_any (c : List UInt8) (hc : c.length ≤ 1048576) (P : List (List UInt8)) (hP : Small P) (v : Value) (w : World) (h : Has w v (ssv P)) :
    Calls Tryz.prog 186 #[v, .string (bstr c)] w fun e w' => e = .returned (.tuple #[.int .i64 ((outJ c P).length : Int), .bool (okJ c P)]) ∧ Below w.heap.size w w' := by
  obtain ⟨A, cp, rfl, h⟩ := h.shape (ssv_len P)
  have hl := h.len.2
  have hsz := bstr_size c
  go_enter Tryz.func186, Tryz.ntmps186
  go_wp2
  go_loop [6, 11] (fun r i => ∃ (j : Nat), j ≤ P.length ∧ i = .int .i64 j ∧ r = .int .i64 ((jk c P j).length : Int) ∧ (jk c P j).length ≤ 1048576) (fun _ i => P.length - (intOf i).toNat)
  case atStart => exact ⟨0, Nat.zero_le _, rfl, rfl, by simp [jk]⟩
  case round =>
    obtain ⟨j, hj, rfl, rfl, hJ⟩ := hrel
    by_cases hlt : j < P.length
    · obtain ⟨g, o, rfl, hg, hcell⟩ := h.cellAt hlt
      rw [ssv_get P j hlt] at hcell
      have hszx := bstr_size (P.getD j [])
      have hm := hP.2 j hlt
      have HJ1 : Hid ((jk c P (j + 1)).length = (jk c P j).length + (if 0 < j then c.length else 0) + (P.getD j []).length) := Lib.hid (by
        simp only [jk, List.length_append]; split <;> simp)
      obtain ⟨x, hx⟩ : ∃ x, x = P.getD j [] := ⟨_, rfl⟩
      rw [← hx] at hcell hszx hm HJ1
      clear hx h
      by_cases h0 : 0 < j
      · by_cases hbig : 1048576 < (jk c P j).length + c.length + x.length
        · have HR := Lib.hid (ok_no (c := c) (P := P) (k := j + 1) (by omega) (by rw [HJ1.out, if_pos h0]; exact hbig))
          go_wp2
          go_ret2
          exact ⟨ret_pair (by rw [HR.out.2]; rfl) HR.out.1.symm, Below.refl _ _⟩
        · go_wp2
          go_round
          case rel => exact ⟨j + 1, by omega, by go_num, by rw [HJ1.out, if_pos h0]; go_num, by rw [HJ1.out, if_pos h0]; omega⟩
          case measure => simp [intOf]; omega
      · by_cases hbig : 1048576 < (jk c P j).length + x.length
        · have HR := Lib.hid (ok_no (c := c) (P := P) (k := j + 1) (by omega) (by rw [HJ1.out, if_neg h0]; omega))
          go_wp2
          go_ret2
          exact ⟨ret_pair (by rw [HR.out.2]; rfl) HR.out.1.symm, Below.refl _ _⟩
        · go_wp2
          go_round
          case rel => exact ⟨j + 1, by omega, by go_num, by rw [HJ1.out, if_neg h0]; go_num, by rw [HJ1.out, if_neg h0]; omega⟩
          case measure => simp [intOf]; omega
    · obtain rfl : j = P.length := by omega
      have HR := Lib.hid (ok_yes hJ)
      clear h
      go_wp2
      go_ret2
      exact ⟨ret_pair (by rw [HR.out.2]) HR.out.1.symm, Below.refl _ _⟩

theorem cells_str (l : List UInt8) : Lib.strCells (bstr l) = u8s l := by simp [Lib.strCells, u8s, bstr]
theorem u8s_append (a b : List UInt8) : u8s (a ++ b) = u8s a ++ u8s b := by simp [u8s]

/-- spec.Join -/
theorem spec_any (c : List UInt8) (hc : c.length ≤ 1048576) (P : List (List UInt8)) (hP : Small P) (v : Value) (w : World) (h : Has w v (ssv P)) :
    Calls Tryz.prog 147 #[v, .string (bstr c)] w fun e w' => e = .returned (.string (bstr (outJ c P))) ∧ Below w.heap.size w w' := by
  obtain ⟨A, cp, rfl, h⟩ := h.shape (ssv_len P)
  have hl := h.len.2
  have hsz := bstr_size c
  obtain ⟨i0, hi, hz0, hz1, hz2⟩ := info_parts info_u8J
  go_enter Tryz.func147, Tryz.ntmps147
  go_wp2
  go_loopw [5, 6] (fun v i wr => ∃ (j : Nat), j ≤ P.length ∧ i = .int .i64 j ∧ (jk c P j).length ≤ 1048576 ∧ wr.ownsRow w.heap.size 5 1 v (jk c P j).length (u8s (jk c P j)) ∧ Below w.heap.size w wr) (fun _ i _ => P.length - (intOf i).toNat)
  case atStart => exact ⟨0, Nat.zero_le _, rfl, by simp [jk], by simpa [jk, u8s] using World.ownsRow_lit (e := 5) (size := 1) w #[] 0 (Nat.le_refl _) (by unfold maxLen; omega) rfl, (Below.refl _ _).alloc (Nat.le_refl _) _⟩
  case round =>
    obtain ⟨j, hj, rfl, hJ, hown, hbel⟩ := hrel
    have hbs := hbel.size
    by_cases hlt : j < P.length
    · obtain ⟨g, o, rfl, hg, hcell⟩ := h.cellAt hlt
      rw [ssv_get P j hlt] at hcell
      have hszx := bstr_size (P.getD j [])
      have hm := hP.2 j hlt
      have HJ1 : Hid (jk c P (j + 1) = jk c P j ++ (if 0 < j then c else []) ++ (P.getD j [])) := Lib.hid rfl
      obtain ⟨x, hx⟩ : ∃ x, x = P.getD j [] := ⟨_, rfl⟩
      rw [← hx] at hcell hszx hm HJ1
      have HO := Lib.hid (own_block hown)
      have HCELL := Lib.hid hcell
      clear hx h hcell
      by_cases h0 : 0 < j
      · go_wp2_with (first | (at_builtin; refine Lib.wpList_append_own_string _ rfl (.tmp 16) (.tmp 17) 22 9 rfl w.heap.size 5 i0 Tryz.underlying22 Tryz.underlying9 hi hz0 hz1 hz2 _ _ _ rfl hown (bstr c) rfl (by unfold maxLen; omega) (by omega) (by omega) ?_))
        intro v1 w1 hown1 hgrow1 _
        have hb1 := hbel.grown hgrow1 hbs HO.out
        have hb1s := hb1.size
        have hcell1 := (hb1.cell (p := ⟨g, o + j, none⟩) hg).trans HCELL.out
        have HO1 := Lib.hid (own_block hown1)
        clear hown hgrow1
        go_wp2_with (first | (at_builtin; refine Lib.wpList_append_own_string _ rfl (.tmp 19) (.tmp 23) 22 9 rfl w.heap.size 5 i0 Tryz.underlying22 Tryz.underlying9 hi hz0 hz1 hz2 _ _ _ rfl hown1 (bstr x) rfl (by unfold maxLen; omega) (by omega) (by omega) ?_))
        intro v2 w2 hown2 hgrow2 _
        have hb2 := hb1.grown hgrow2 hb1s HO1.out
        have hown2 : w2.ownsRow w.heap.size 5 1 v2 (jk c P (j + 1)).length (u8s (jk c P (j + 1))) := by
          rw [HJ1.out, if_pos h0, u8s_append, u8s_append, ← cells_str c, ← cells_str x]
          simp only [List.length_append]
          first | exact hown2 | (rw [List.append_assoc]; exact hown2) | (rw [← hszx]; exact hown2)
        have hlen : (jk c P (j + 1)).length = (jk c P j).length + c.length + x.length := by rw [HJ1.out, if_pos h0]; simp; omega
        obtain ⟨A2, cap2, rfl, hcap2⟩ := own_slice hown2
        have HOWN := Lib.hid hown2
        have HLEN := Lib.hid hlen
        have hlen' : (jk c P (j + 1)).length ≤ 4194304 := by rw [hlen]; omega
        clear hown1 hcell1 hgrow2 hown2 hlen
        by_cases hbig : 1048576 < (jk c P (j + 1)).length
        · have HR := Lib.hid (ok_no (c := c) (P := P) (k := j + 1) (by omega) hbig)
          go_wp2
          go_ret
          exact ⟨ret_str (by rw [HR.out.2]; rfl), hb2⟩
        · go_wp2
          go_roundw
          case rel => exact ⟨j + 1, by omega, by go_num, by omega, HOWN.out, hb2⟩
          case measure => simp [intOf]; omega
      · have hcell1 := (hbel.cell (p := ⟨g, o + j, none⟩) hg).trans HCELL.out
        go_wp2_with (first | (at_builtin; refine Lib.wpList_append_own_string _ rfl (.tmp 19) (.tmp 23) 22 9 rfl w.heap.size 5 i0 Tryz.underlying22 Tryz.underlying9 hi hz0 hz1 hz2 _ _ _ rfl hown (bstr x) rfl (by unfold maxLen; omega) (by omega) (by omega) ?_))
        intro v2 w2 hown2 hgrow2 _
        have hb2 := hbel.grown hgrow2 hbs HO.out
        have hown2 : w2.ownsRow w.heap.size 5 1 v2 (jk c P (j + 1)).length (u8s (jk c P (j + 1))) := by
          rw [HJ1.out, if_neg h0, List.append_nil, u8s_append, ← cells_str x]
          simp only [List.length_append]
          first | exact hown2 | (rw [List.append_assoc]; exact hown2) | (rw [← hszx]; exact hown2)
        have hlen : (jk c P (j + 1)).length = (jk c P j).length + x.length := by rw [HJ1.out, if_neg h0]; simp
        obtain ⟨A2, cap2, rfl, hcap2⟩ := own_slice hown2
        have HOWN := Lib.hid hown2
        have HLEN := Lib.hid hlen
        have hlen' : (jk c P (j + 1)).length ≤ 4194304 := by rw [hlen]; omega
        clear hown hcell1 hgrow2 hown2 hlen
        by_cases hbig : 1048576 < (jk c P (j + 1)).length
        · have HR := Lib.hid (ok_no (c := c) (P := P) (k := j + 1) (by omega) hbig)
          go_wp2
          go_ret
          exact ⟨ret_str (by rw [HR.out.2]; rfl), hb2⟩
        · go_wp2
          go_roundw
          case rel => exact ⟨j + 1, by omega, by go_num, by omega, HOWN.out, hb2⟩
          case measure => simp [intOf]; omega
    · obtain rfl : j = P.length := by omega
      have HR := Lib.hid (ok_yes hJ)
      clear h
      have hcv := run_str_ownA (P := Tryz.prog) (dst := 9) Tryz.underlying22 Tryz.underlying5 Tryz.underlying9 hown
      obtain ⟨A2, cap2, rfl, hcap2⟩ := own_slice hown
      go_wp2
      go_ret
      exact ⟨ret_str (by rw [HR.out.2]), hbel⟩

/-- impl.Join -/
theorem impl_any (c : List UInt8) (hc : c.length ≤ 1048576) (P : List (List UInt8)) (hP : Small P) (v : Value) (w : World) (h : Has w v (ssv P)) :
    Calls Tryz.prog 149 #[v, .string (bstr c)] w fun e w' => e = .returned (.string (bstr (outJ c P))) ∧ Below w.heap.size w w' := by
  obtain ⟨A, cp, rfl, h⟩ := h.shape (ssv_len P)
  have hl := h.len.2
  have hsz := bstr_size c
  obtain ⟨i0, hi, hz0, hz1, hz2⟩ := info_parts info_u8J
  have CS := Lib.hid (fun W hW => size_any c hc P hP (.slice A P.length cp) W hW)
  cases hok : okJ c P with
  | false =>
    have HR : Hid (outJ c P = []) := Lib.hid (by simp [outJ, hok])
    rw [hok] at CS
    have HH := Lib.hid h
    clear h hok
    go_enter Tryz.func149, Tryz.ntmps149
    go_wp2_with (go_at_call 186; refine (CS.out _ HH.out).mono ?_; rintro e w1 ⟨rfl, hb⟩)
    go_ret
    exact ⟨ret_str (by rw [HR.out]; rfl), hb⟩
  | true =>
    have hfull : (jk c P P.length).length ≤ 1048576 := by simpa [okJ] using hok
    have HR := Lib.hid (ok_yes hfull)
    rw [hok, HR.out.2] at CS
    clear hok
    have HH := Lib.hid h
    have HM := Lib.hid (fun k hk => jk_le c P k P.length hk)
    obtain ⟨N, hN⟩ : ∃ N, N = (jk c P P.length).length := ⟨_, rfl⟩
    rw [← hN] at hfull CS HM
    have HN := Lib.hid hN
    clear h hN
    go_enter Tryz.func149, Tryz.ntmps149
    go_wp2_with (first | (go_at_call 186; refine (CS.out _ HH.out).mono ?_; rintro e w0 ⟨rfl, hb0⟩) | (at_make; refine wpList_make_own _ rfl _ _ 22 rfl w.heap.size 5 i0 (.int .u8 0) 1 Tryz.underlying22 hi hz0 hz1 _ _ _ N rfl rfl rfl (by rw [hz2]; omega) (by unfold maxLen; omega) (by have := hb0.size; omega) ?_))
    intro w1 hown hgrow
    have hb1 := hb0.grown hgrow hb0.size (by intro k hk; cases hk)
    clear hgrow hb0
    go_wp2
    go_loopw [7, 22] (fun v i wr => ∃ (j : Nat), j ≤ P.length ∧ i = .int .i64 j ∧ wr.ownsRow w.heap.size 5 1 v (jk c P j).length (u8s (jk c P j)) ∧ Below w.heap.size w wr) (fun _ i _ => P.length - (intOf i).toNat)
    case atStart => exact ⟨0, Nat.zero_le _, rfl, by simpa [jk, u8s] using hown, hb1⟩
    case round =>
      obtain ⟨j, hj, rfl, hown, hbel⟩ := hrel
      have hbs := hbel.size
      have hJ := HM.out j hj
      have h := HH.out
      by_cases hlt : j < P.length
      · obtain ⟨g, o, rfl, hg, hcell⟩ := h.cellAt hlt
        rw [ssv_get P j hlt] at hcell
        have hszx := bstr_size (P.getD j [])
        have hm := hP.2 j hlt
        have HJ1 : Hid (jk c P (j + 1) = jk c P j ++ (if 0 < j then c else []) ++ (P.getD j [])) := Lib.hid rfl
        obtain ⟨x, hx⟩ : ∃ x, x = P.getD j [] := ⟨_, rfl⟩
        rw [← hx] at hcell hszx hm HJ1
        have HO := Lib.hid (own_block hown)
        have hcell0 := (hbel.cell (p := ⟨g, o + j, none⟩) hg).trans hcell
        clear hx h hcell
        by_cases h0 : 0 < j
        · go_wp2_with (first | (at_builtin; refine Lib.wpList_append_own_string _ rfl (.tmp 29) (.tmp 30) 22 9 rfl w.heap.size 5 i0 Tryz.underlying22 Tryz.underlying9 hi hz0 hz1 hz2 _ _ _ rfl hown (bstr c) rfl (by unfold maxLen; omega) (by omega) (by omega) ?_))
          intro v1 w1 hown1 hgrow1 _
          have hb1 := hbel.grown hgrow1 hbs HO.out
          have hb1s := hb1.size
          have HO1 := Lib.hid (own_block hown1)
          clear hown hgrow1 hcell0
          go_wp2_with (first | (at_builtin; refine Lib.wpList_append_own_string _ rfl (.tmp 32) (.tmp 33) 22 9 rfl w.heap.size 5 i0 Tryz.underlying22 Tryz.underlying9 hi hz0 hz1 hz2 _ _ _ rfl hown1 (bstr x) rfl (by unfold maxLen; omega) (by omega) (by omega) ?_))
          intro v2 w2 hown2 hgrow2 _
          have hb2 := hb1.grown hgrow2 hb1s HO1.out
          have hown2 : w2.ownsRow w.heap.size 5 1 v2 (jk c P (j + 1)).length (u8s (jk c P (j + 1))) := by
            rw [HJ1.out, if_pos h0, u8s_append, u8s_append, ← cells_str c, ← cells_str x]
            simp only [List.length_append]
            first | exact hown2 | (rw [List.append_assoc]; exact hown2) | (rw [← hszx]; exact hown2)
          clear hown1 hgrow2
          go_wp2
          go_roundw
          case rel => exact ⟨j + 1, by omega, by go_num, hown2, hb2⟩
          case measure => simp [intOf]; omega
        · go_wp2_with (first | (at_builtin; refine Lib.wpList_append_own_string _ rfl (.tmp 32) (.tmp 33) 22 9 rfl w.heap.size 5 i0 Tryz.underlying22 Tryz.underlying9 hi hz0 hz1 hz2 _ _ _ rfl hown (bstr x) rfl (by unfold maxLen; omega) (by omega) (by omega) ?_))
          intro v2 w2 hown2 hgrow2 _
          have hb2 := hbel.grown hgrow2 hbs HO.out
          have hown2 : w2.ownsRow w.heap.size 5 1 v2 (jk c P (j + 1)).length (u8s (jk c P (j + 1))) := by
            rw [HJ1.out, if_neg h0, List.append_nil, u8s_append, ← cells_str x]
            simp only [List.length_append]
            first | exact hown2 | (rw [List.append_assoc]; exact hown2) | (rw [← hszx]; exact hown2)
          clear hown hgrow2
          go_wp2
          go_roundw
          case rel => exact ⟨j + 1, by omega, by go_num, hown2, hb2⟩
          case measure => simp [intOf]; omega
      · obtain rfl : j = P.length := by omega
        clear h
        have hcv := run_str_ownA (P := Tryz.prog) (dst := 9) Tryz.underlying22 Tryz.underlying5 Tryz.underlying9 hown
        obtain ⟨A2, cap2, rfl, hcap2⟩ := own_slice hown
        go_wp2
        go_ret
        exact ⟨ret_str (by rw [HR.out.2]), hbel⟩
end Go.Proofs.YtkmgpdadioeipaaGreat.join
