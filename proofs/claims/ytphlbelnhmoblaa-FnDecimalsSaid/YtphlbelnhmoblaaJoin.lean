/-
  JOINING: plain mathematics, and the contracts.
-/
import Derived.Test.YtphlbelnhmoblaaStrl
import Derived.Lib.AppendStr
namespace Go.Proofs.Ytphlbelnhmoblaa.join
open Go.ChangeShapes Go.WideShapes Go.ChangeAt Go.RowKit
open mem split strl
theorem info_u8J : (Try.prog.info? 5).map (fun i => (i.zero, i.size, i.bytes)) = some (some (.int .u8 0), 1, 1) := by kernel_rfl

/-- the first k elements joined -/
def jk (c : List UInt8) (P : List (List UInt8)) : Nat → List UInt8
  | 0 => []
  | k + 1 => jk c P k ++ (if 0 < k then c else []) ++ P.getD k []
theorem jk_mono (c : List UInt8) (P : List (List UInt8)) (k : Nat) : (jk c P k).length ≤ (jk c P (k + 1)).length := by simp [jk]
theorem jk_le (c : List UInt8) (P : List (List UInt8)) (k m : Nat) (h : k ≤ m) : (jk c P k).length ≤ (jk c P m).length := by
  induction m with
  | zero => have : k = 0 := by omega
            subst this; exact Nat.le_refl _
  | succ m ih =>
    by_cases hk : k = m + 1
    · subst hk; exact Nat.le_refl _
    · exact Nat.le_trans (ih (by omega)) (jk_mono c P m)
def okJ (c : List UInt8) (P : List (List UInt8)) : Bool := decide ((jk c P P.length).length ≤ 1048576)
def outJ (c : List UInt8) (P : List (List UInt8)) : List UInt8 := if okJ c P then jk c P P.length else []
theorem ok_no {c : List UInt8} {P : List (List UInt8)} {k : Nat} (hk : k ≤ P.length) (h : 1048576 < (jk c P k).length) : okJ c P = false ∧ outJ c P = [] := by
  have := jk_le c P k P.length hk
  have h2 : okJ c P = false := by simp [okJ]; omega
  exact ⟨h2, by simp [outJ, h2]⟩
theorem ok_yes {c : List UInt8} {P : List (List UInt8)} (h : (jk c P P.length).length ≤ 1048576) : okJ c P = true ∧ outJ c P = jk c P P.length := by
  have h2 : okJ c P = true := by simp [okJ, h]
  exact ⟨h2, by simp [outJ, h2]⟩

theorem ret_pair {a : Int} {b : Bool} {a' : Int} {b' : Bool} (h : a = a') (h' : b = b') : Ending.returned (.tuple #[.int .i64 a, .bool b]) = .returned (.tuple #[.int .i64 a', .bool b']) := by rw [h, h']

/-- all are short -/
def Small (P : List (List UInt8)) : Prop := P.length ≤ 1048576 ∧ ∀ k, k < P.length → (P.getD k []).length ≤ 1048576

/-- impl.joinedSize -/
theorem size_any (c : List UInt8) (hc : c.length ≤ 1048576) (P : List (List UInt8)) (hP : Small P) (v : Value) (w : World) (h : Has w v (ssv P)) :
    Calls Try.prog 22 #[v, .string (bstr c)] w fun e w' => e = .returned (.tuple #[.int .i64 ((outJ c P).length : Int), .bool (okJ c P)]) ∧ Below w.heap.size w w' := by
  obtain ⟨A, cp, rfl, h⟩ := h.shape (ssv_len P)
  have hl := h.len.2
  have hsz := bstr_size c
  go_enter Try.func22, Try.ntmps22
  go_wp2
  go_loop [6, 11] (fun r i => ∃ (j : Nat), j ≤ P.length ∧ i = .int .i64 j ∧ r = .int .i64 ((jk c P j).length : Int) ∧ (jk c P j).length ≤ 1048576) (fun _ i => P.length - (intOf i).toNat)
  case atStart => exact ⟨0, Nat.zero_le _, rfl, rfl, by simp [jk]⟩
  case round =>
    obtain ⟨j, hj, rfl, rfl, hJ⟩ := hrel
    by_cases hlt : j < P.length
    · obtain ⟨g, o, rfl, hg, hcell⟩ := h.cellAt hlt
      rw [ssv_get P j hlt] at hcell
      have hszx := bstr_size (P.getD j [])
      have hm := hP.2 j hlt
      have HJ1 : Hid ((jk c P (j + 1)).length = (jk c P j).length + (if 0 < j then c.length else 0) + (P.getD j []).length) := Lib.hid (by
        simp only [jk, List.length_append]; split <;> simp)
      obtain ⟨x, hx⟩ : ∃ x, x = P.getD j [] := ⟨_, rfl⟩
      rw [← hx] at hcell hszx hm HJ1
      clear hx h
      by_cases h0 : 0 < j
      · by_cases hbig : 1048576 < (jk c P j).length + c.length + x.length
        · have HR := Lib.hid (ok_no (c := c) (P := P) (k := j + 1) (by omega) (by rw [HJ1.out, if_pos h0]; exact hbig))
          go_wp2
          go_ret2
          exact ⟨ret_pair (by rw [HR.out.2]; rfl) HR.out.1.symm, Below.refl _ _⟩
        · go_wp2
          go_round
          case rel => exact ⟨j + 1, by omega, by go_num, by rw [HJ1.out, if_pos h0]; go_num, by rw [HJ1.out, if_pos h0]; omega⟩
          case measure => simp [intOf]; omega
      · by_cases hbig : 1048576 < (jk c P j).length + x.length
        · have HR := Lib.hid (ok_no (c := c) (P := P) (k := j + 1) (by omega) (by rw [HJ1.out, if_neg h0]; omega))
          go_wp2
          go_ret2
          exact ⟨ret_pair (by rw [HR.out.2]; rfl) HR.out.1.symm, Below.refl _ _⟩
        · go_wp2
          go_round
          case rel => exact ⟨j + 1, by omega, by go_num, by rw [HJ1.out, if_neg h0]; go_num, by rw [HJ1.out, if_neg h0]; omega⟩
          case measure => simp [intOf]; omega
    · obtain rfl : j = P.length := by omega
      have HR := Lib.hid (ok_yes hJ)
      clear h
      go_wp2
      go_ret2
      exact ⟨ret_pair (by rw [HR.out.2]) HR.out.1.symm, Below.refl _ _⟩

theorem cells_str (l : List UInt8) : Lib.strCells (bstr l) = u8s l := by simp [Lib.strCells, u8s, bstr]
theorem u8s_append (a b : List UInt8) : u8s (a ++ b) = u8s a ++ u8s b := by simp [u8s]

/-- impl.Join -/
theorem impl_any (c : List UInt8) (hc : c.length ≤ 1048576) (P : List (List UInt8)) (hP : Small P) (v : Value) (w : World) (h : Has w v (ssv P)) :
    Calls Try.prog 12 #[v, .string (bstr c)] w fun e w' => e = .returned (.string (bstr (outJ c P))) ∧ Below w.heap.size w w' := by
  obtain ⟨A, cp, rfl, h⟩ := h.shape (ssv_len P)
  have hl := h.len.2
  have hsz := bstr_size c
  obtain ⟨i0, hi, hz0, hz1, hz2⟩ := info_parts info_u8J
  have CS := Lib.hid (fun W hW => size_any c hc P hP (.slice A P.length cp) W hW)
  cases hok : okJ c P with
  | false =>
    have HR : Hid (outJ c P = []) := Lib.hid (by simp [outJ, hok])
    rw [hok] at CS
    have HH := Lib.hid h
    clear h hok
    go_enter Try.func12, Try.ntmps12
    go_wp2_with (go_at_call 22; refine (CS.out _ HH.out).mono ?_; rintro e w1 ⟨rfl, hb⟩)
    go_ret
    exact ⟨ret_str (by rw [HR.out]; rfl), hb⟩
  | true =>
    have hfull : (jk c P P.length).length ≤ 1048576 := by simpa [okJ] using hok
    have HR := Lib.hid (ok_yes hfull)
    rw [hok, HR.out.2] at CS
    clear hok
    have HH := Lib.hid h
    have HM := Lib.hid (fun k hk => jk_le c P k P.length hk)
    obtain ⟨N, hN⟩ : ∃ N, N = (jk c P P.length).length := ⟨_, rfl⟩
    rw [← hN] at hfull CS HM
    have HN := Lib.hid hN
    clear h hN
    go_enter Try.func12, Try.ntmps12
    go_wp2_with (first | (go_at_call 22; refine (CS.out _ HH.out).mono ?_; rintro e w0 ⟨rfl, hb0⟩) | (at_make; refine wpList_make_own _ rfl _ _ 22 rfl w.heap.size 5 i0 (.int .u8 0) 1 Try.underlying22 hi hz0 hz1 _ _ _ N rfl rfl rfl (by rw [hz2]; omega) (by unfold maxLen; omega) (by have := hb0.size; omega) ?_))
    intro w1 hown hgrow
    have hb1 := hb0.grown hgrow hb0.size (by intro k hk; cases hk)
    clear hgrow hb0
    go_wp2
    go_loopw [7, 22] (fun v i wr => ∃ (j : Nat), j ≤ P.length ∧ i = .int .i64 j ∧ wr.ownsRow w.heap.size 5 1 v (jk c P j).length (u8s (jk c P j)) ∧ Below w.heap.size w wr) (fun _ i _ => P.length - (intOf i).toNat)
    case atStart => exact ⟨0, Nat.zero_le _, rfl, by simpa [jk, u8s] using hown, hb1⟩
    case round =>
      obtain ⟨j, hj, rfl, hown, hbel⟩ := hrel
      have hbs := hbel.size
      have hJ := HM.out j hj
      have h := HH.out
      by_cases hlt : j < P.length
      · obtain ⟨g, o, rfl, hg, hcell⟩ := h.cellAt hlt
        rw [ssv_get P j hlt] at hcell
        have hszx := bstr_size (P.getD j [])
        have hm := hP.2 j hlt
        have HJ1 : Hid (jk c P (j + 1) = jk c P j ++ (if 0 < j then c else []) ++ (P.getD j [])) := Lib.hid rfl
        obtain ⟨x, hx⟩ : ∃ x, x = P.getD j [] := ⟨_, rfl⟩
        rw [← hx] at hcell hszx hm HJ1
        have HO := Lib.hid (own_block hown)
        have hcell0 := (hbel.cell (p := ⟨g, o + j, none⟩) hg).trans hcell
        clear hx h hcell
        by_cases h0 : 0 < j
        · go_wp2_with (first | (at_builtin; refine Lib.wpList_append_own_string _ rfl (.tmp 29) (.tmp 30) 22 9 rfl w.heap.size 5 i0 Try.underlying22 Try.underlying9 hi hz0 hz1 hz2 _ _ _ rfl hown (bstr c) rfl (by unfold maxLen; omega) (by omega) (by omega) ?_))
          intro v1 w1 hown1 hgrow1 _
          have hb1 := hbel.grown hgrow1 hbs HO.out
          have hb1s := hb1.size
          have HO1 := Lib.hid (own_block hown1)
          clear hown hgrow1 hcell0
          go_wp2_with (first | (at_builtin; refine Lib.wpList_append_own_string _ rfl (.tmp 32) (.tmp 33) 22 9 rfl w.heap.size 5 i0 Try.underlying22 Try.underlying9 hi hz0 hz1 hz2 _ _ _ rfl hown1 (bstr x) rfl (by unfold maxLen; omega) (by omega) (by omega) ?_))
          intro v2 w2 hown2 hgrow2 _
          have hb2 := hb1.grown hgrow2 hb1s HO1.out
          have hown2 : w2.ownsRow w.heap.size 5 1 v2 (jk c P (j + 1)).length (u8s (jk c P (j + 1))) := by
            rw [HJ1.out, if_pos h0, u8s_append, u8s_append, ← cells_str c, ← cells_str x]
            simp only [List.length_append]
            first | exact hown2 | (rw [List.append_assoc]; exact hown2) | (rw [← hszx]; exact hown2)
          clear hown1 hgrow2
          go_wp2
          go_roundw
          case rel => exact ⟨j + 1, by omega, by go_num, hown2, hb2⟩
          case measure => simp [intOf]; omega
        · go_wp2_with (first | (at_builtin; refine Lib.wpList_append_own_string _ rfl (.tmp 32) (.tmp 33) 22 9 rfl w.heap.size 5 i0 Try.underlying22 Try.underlying9 hi hz0 hz1 hz2 _ _ _ rfl hown (bstr x) rfl (by unfold maxLen; omega) (by omega) (by omega) ?_))
          intro v2 w2 hown2 hgrow2 _
          have hb2 := hbel.grown hgrow2 hbs HO.out
          have hown2 : w2.ownsRow w.heap.size 5 1 v2 (jk c P (j + 1)).length (u8s (jk c P (j + 1))) := by
            rw [HJ1.out, if_neg h0, List.append_nil, u8s_append, ← cells_str x]
            simp only [List.length_append]
            first | exact hown2 | (rw [List.append_assoc]; exact hown2) | (rw [← hszx]; exact hown2)
          clear hown hgrow2
          go_wp2
          go_roundw
          case rel => exact ⟨j + 1, by omega, by go_num, hown2, hb2⟩
          case measure => simp [intOf]; omega
      · obtain rfl : j = P.length := by omega
        clear h
        have hcv := run_str_ownA (P := Try.prog) (dst := 9) Try.underlying22 Try.underlying5 Try.underlying9 hown
        obtain ⟨A2, cap2, rfl, hcap2⟩ := own_slice hown
        go_wp2
        go_ret
        exact ⟨ret_str (by rw [HR.out.2]), hbel⟩
end Go.Proofs.Ytphlbelnhmoblaa.join
