/-
  JOINING: plain mathematics, and the contracts.
-/
import Derived.Test.YtjejdcehlckfhaaGreatStrl
import Derived.Lib.AppendStr
set_option maxRecDepth 50000
namespace Go.Proofs.YtjejdcehlckfhaaGreat.join
open Go.ChangeShapes Go.WideShapes Go.ChangeAt Go.RowKit
open mem split strl
theorem info_u8J : (Tryz.prog.info? 5).map (fun i => (i.zero, i.size, i.bytes)) = some (some (.int .u8 0), 1, 1) := by kernel_rfl

/-- the first k elements joined -/
def jk (c : List UInt8) (P : List (List UInt8)) : Nat → List UInt8
  | 0 => []
  | k + 1 => jk c P k ++ (if 0 < k then c else []) ++ P.getD k []
theorem jk_mono (c : List UInt8) (P : List (List UInt8)) (k : Nat) : (jk c P k).length ≤ (jk c P (k + 1)).length := by simp [jk]
theorem jk_le (c : List UInt8) (P : List (List UInt8)) (k m : Nat) (h : k ≤ m) : (jk c P k).length ≤ (jk c P m).length := by
  induction m with
  | zero => have : k = 0 := by omega
            subst this; exact Nat.le_refl _
  | succ m ih =>
    by_cases hk : k = m + 1
    · subst hk; exact Nat.le_refl _
    · exact Nat.le_trans (ih (by omega)) (jk_mono c P m)
def okJ (c : List UInt8) (P : List (List UInt8)) : Bool := decide ((jk c P P.length).length ≤ 1048576)
def outJ (c : List UInt8) (P : List (List UInt8)) : List UInt8 := if okJ c P then jk c P P.length else []
theorem ok_no {c : List UInt8} {P : List (List UInt8)} {k : Nat} (hk : k ≤ P.length) (h : 1048576 < (jk c P k).length) : okJ c P = false ∧ outJ c P = [] := by
  have := jk_le c P k P.length hk
  have h2 : okJ c P = false := by simp [okJ]; omega
  exact ⟨h2, by simp [outJ, h2]⟩
theorem ok_yes {c : List UInt8} {P : List (List UInt8)} (h : (jk c P P.length).length ≤ 1048576) : okJ c P = true ∧ outJ c P = jk c P P.length := by
  have h2 : okJ c P = true := by simp [okJ, h]
  exact ⟨h2, by simp [outJ, h2]⟩

theorem ret_pair {a : Int} {b : Bool} {a' : Int} {b' : Bool} (h : a = a') (h' : b = b') : Ending.returned (.tuple #[.int .i64 a, .bool b]) = .returned (.tuple #[.int .i64 a', .bool b']) := by rw [h, h']

/-- all are short -/
def Small (P : List (List UInt8)) : Prop := P.length ≤ 1048576 ∧ ∀ k, k < P.length → (P.getD k []).length ≤ 1048576

/-- laws.szStringS -/
theorem sz_any (P : List (List UInt8)) (hP : ∀ k, k < P.length → (P.getD k []).length ≤ maxLen) (v : Value) (w : World) (h : Has w v (ssv P)) :
    Calls Tryz.prog 72 #[v, .int .i64 1048576] w fun e w' => ∃ r : Int, e = .returned (.int .i64 r) ∧ (0 ≤ r → Small P) ∧ -1 ≤ r ∧ r ≤ 1048576 ∧ Below w.heap.size w w' := by
  obtain ⟨A, c, rfl, h⟩ := h.shape (ssv_len P)
  have hl := h.len.2
  by_cases hbig : 1048576 < P.length
  · go_enter Tryz.func72, Tryz.ntmps72
    go_wp2
    go_ret
    exact ⟨-1, rfl, fun h => by omega, by omega, by omega, Below.refl _ _⟩
  · go_enter Tryz.func72, Tryz.ntmps72
    have hd : decide ((1048576 : Int) - (P.length : Int) < 0) = false := by simp; omega
    have hd1 : ((1048576 : Int) - (P.length : Int) < 0) = False := by simp; omega
    go_wp2
    go_loop [1, 5] (fun r i => ∃ (j : Nat) (R : Int), j ≤ P.length ∧ i = .int .i64 j ∧ r = .int .i64 R ∧ 0 ≤ R ∧ R ≤ 1048576 ∧ Hid (∀ k, k < j → (P.getD k []).length ≤ 1048576)) (fun _ i => P.length - (intOf i).toNat)
    case atStart => exact ⟨0, _, Nat.zero_le _, rfl, rfl, by omega, by omega, Lib.hid (fun k hk => by omega)⟩
    case round =>
      obtain ⟨j, R, hj, rfl, rfl, hR0, hR1, HALL⟩ := hrel
      by_cases hlt : j < P.length
      · obtain ⟨g, o, rfl, hg, hcell⟩ := h.cellAt hlt
        rw [ssv_get P j hlt] at hcell
        have hsz := bstr_size (P.getD j [])
        have hm := hP j hlt
        unfold maxLen at hm
        obtain ⟨x, hx⟩ : ∃ x, x = P.getD j [] := ⟨_, rfl⟩
        rw [← hx] at hcell hsz hm
        have HX := Lib.hid hx
        have HP := Lib.hid hP
        clear hx hP h
        by_cases hneg : R - (x.length : Int) < 0
        · go_wp2
          go_ret
          exact ⟨-1, rfl, fun h => by omega, by omega, by omega, Below.refl _ _⟩
        · have HALL2 : Hid (∀ k, k < j + 1 → (P.getD k []).length ≤ 1048576) := Lib.hid (by
            intro k hk
            by_cases hkj : k = j
            · subst hkj; rw [← HX.out]; omega
            · exact HALL.out k (by omega))
          go_wp2
          go_round
          case rel => exact ⟨j + 1, _, by omega, by go_num, rfl, by omega, by omega, HALL2⟩
          case measure => simp [intOf]; omega
      · obtain rfl : j = P.length := by omega
        have HS : Hid (Small P) := Lib.hid ⟨by omega, HALL.out⟩
        have HP := Lib.hid hP
        clear hP h
        go_wp2
        go_ret
        exact ⟨R, rfl, fun _ => HS.out, by omega, by omega, Below.refl _ _⟩

/-- laws.toStringS -/
theorem to_any (P : List (List UInt8)) (hP : P.length ≤ 1048576) (v : Value) (w : World) (h : Has w v (ssv P)) :
    Calls Tryz.prog 81 #[v] w fun e w' => ∃ v', e = .returned v' ∧ w'.ownsRow w.heap.size 9 1 v' P.length (ssv P) ∧ Below w.heap.size w w' := by
  obtain ⟨A, c, rfl, h⟩ := h.shape (ssv_len P)
  obtain ⟨i0, hi, hz0, hz1, hz2⟩ := info_parts info_str
  go_enter Tryz.func81, Tryz.ntmps81
  go_wp2_with (at_make; refine wpList_make_full _ rfl _ _ 22 rfl w.heap.size 9 i0 (.string .empty) 1 Tryz.underlying22 hi hz0 hz1 _ _ _ _ P.length rfl rfl rfl rfl (by rw [hz2]; omega) (by unfold maxLen; omega) (Nat.le_refl _) ?_)
  intro w1 hown hgrow
  go_wp2
  go_loopw [4] (fun i wr => ∃ (j : Nat) (ys : List Value), j ≤ P.length ∧ i = .int .i64 j ∧ wr.ownsRow w.heap.size 9 1 (.slice (some ⟨w.heap.size, 0, none⟩) P.length P.length) P.length ys ∧ Hid (ys.take j = ssv (P.take j)) ∧ Below w.heap.size w wr) (fun i _ => P.length - (intOf i).toNat)
  case atStart => exact ⟨0, _, Nat.zero_le _, rfl, hown, Lib.hid rfl, (Below.refl _ _).grown hgrow (Nat.le_refl _) (by intro k h; cases h)⟩
  case round =>
    obtain ⟨j, ys, hj, rfl, hown, HY, hbel⟩ := hrel
    by_cases hlt : j < P.length
    · obtain ⟨g, o, rfl, hg, hcell⟩ := h.cellAt hlt
      rw [ssv_get P j hlt, ← hbel.cell (p := ⟨g, o + j, none⟩) hg] at hcell
      obtain ⟨v0, hc⟩ : ∃ v0, wr.cell? ⟨w.heap.size, j, none⟩ = some v0 := by
        rw [hown.cellAt j (by omega)]
        exact ⟨_, List.getElem?_eq_getElem (by have := hown.1; omega)⟩
      have hf := hown.frozenAt j
      have HOWN := Lib.hid hown
      have hTK := take_get P j hlt
      have HTK := Lib.hid hTK
      obtain ⟨x, hx⟩ : ∃ x, x = P.getD j [] := ⟨_, rfl⟩
      rw [← hx] at hcell
      have HX := Lib.hid hx
      clear hown h hTK hx
      go_wp2
      go_roundw
      case rel =>
        refine ⟨j + 1, ys.set j (.string (bstr x)), by omega, by go_num, setCell_own HOWN.out j _, Lib.hid ?_, hbel.setCell (Nat.le_refl _) _⟩
        have hlen : ys.length = P.length := by have := HOWN.out.1; omega
        rw [List.take_succ_eq_append_getElem (by rw [List.length_set]; omega), List.take_set_of_le (Nat.le_refl _), HY.out, HTK.out, HX.out]
        simp [ssv]
      case measure => simp [intOf]; omega
    · obtain rfl : j = P.length := by omega
      have HW : Hid (wr.ownsRow w.heap.size 9 1 (.slice (some ⟨w.heap.size, 0, none⟩) P.length P.length) P.length (ssv P)) := Lib.hid (by
        have hlen : ys.length = P.length := by have := hown.1; omega
        have := HY.out
        rw [List.take_length, List.take_of_length_le (by omega)] at this
        rw [← this]; exact hown)
      clear h hown
      go_wp2
      go_ret
      exact ⟨_, rfl, HW.out, hbel⟩

theorem cells_str (l : List UInt8) : Lib.strCells (bstr l) = u8s l := by simp [Lib.strCells, u8s, bstr]
theorem u8s_append (a b : List UInt8) : u8s (a ++ b) = u8s a ++ u8s b := by simp [u8s]

end Go.Proofs.YtjejdcehlckfhaaGreat.join
