/-
  CONTRACTS OF THE MODEL'S l5Collect, VariablesOf, IsGround.
-/
import Derived.Test.YtejkkdnjdfehjaaTermin
namespace Go.Proofs.Ytejkkdnjdfehjaa.termic
open Go.ChangeShapes Go.WideShapes Go.ChangeAt Go.RowKit
open mem dec rowl trm trmv terml termb termt termu termv termvo termx termz termro termsd termvr termcf termso termvx termin

theorem flat_vin : ∀ (t : TermM) (n lo : Nat) (w : World) (va : Value), HasTs n lo w va t.args → Bnd t → ∀ x, vin x t → Flat x := by
  refine TermM.ind (fun o nm s l ih n lo w va h hB x hv => ?_)
  rcases (vin_mk x o nm s l).1 hv with ⟨_, rfl⟩ | ⟨_, a, ha, hv⟩
  · exact ⟨rfl, hB.1, by show I64 (-1); unfold I64; omega, hB.2.2⟩
  · obtain ⟨j, hj, rfl⟩ := List.getElem_of_mem ha
    obtain ⟨A, c, rfl, h'⟩ := HasR.shape h rfl
    obtain ⟨k, g, o', A2, c2, _, _, _, _, _, _, _, _, hh, hb⟩ := term_at h' (j := j) hj
    have e : (TermM.mk o nm s l).args.getD j default = l[j] := getD_at hj
    rw [e] at hh hb
    exact ih _ ha k lo w _ hh hb x hv
theorem insT_len : ∀ (l : List TermM) (t : TermM), (insT l t).length ≤ l.length + 1
  | [], _ => by simp [insT]
  | a :: l, t => by
    have := insT_len l t
    rw [insT]
    split
    · simp; omega
    · split <;> simp
theorem colT_len : ∀ (t : TermM) (acc : List TermM), (colT t acc).length ≤ acc.length + size t := by
  refine TermM.ind (fun o nm s l ih acc => ?_)
  rw [colT_mk, size_mk]
  split
  · have := insT_len acc (var nm s); omega
  · have key : ∀ (l : List TermM), (∀ t ∈ l, ∀ acc, (colT t acc).length ≤ acc.length + size t) → ∀ acc, (cols l acc).length ≤ acc.length + sizes l := by
      intro l
      induction l with
      | nil => intro _ acc; simp [cols]
      | cons a l ih2 =>
        intro h acc
        have h1 := h a (by simp) acc
        have h2 := ih2 (fun t ht => h t (by simp [ht])) (colT a acc)
        have e : cols (a :: l) acc = cols l (colT a acc) := rfl
        rw [e]
        simp only [sizes, List.map_cons, List.sum_cons] at h2 ⊢
        omega
    have := key l ih acc
    omega
theorem cols_len (l : List TermM) : ∀ acc, (cols l acc).length ≤ acc.length + sizes l := by
  induction l with
  | nil => intro acc; simp [cols]
  | cons a l ih =>
    intro acc
    have h1 := colT_len a acc
    have h2 := ih (colT a acc)
    have e : cols (a :: l) acc = cols l (colT a acc) := rfl
    rw [e]
    simp only [sizes, List.map_cons, List.sum_cons] at h2 ⊢
    omega
theorem colT_eta (t : TermM) (acc : List TermM) : colT t acc = if t.op = -1 then insT acc (var t.name t.sort) else cols t.args acc := by cases t; exact colT_mk _ _ _ _ _
theorem mem_cols (x : TermM) (l : List TermM) : ∀ acc, x ∈ cols l acc ↔ x ∈ acc ∨ ∃ a ∈ l, vin x a := by
  induction l with
  | nil => intro acc; simp [cols]
  | cons a l ih =>
    intro acc
    have e : cols (a :: l) acc = cols l (colT a acc) := rfl
    rw [e, ih, mem_colT]
    simp only [List.mem_cons, exists_eq_or_imp, or_assoc]
def ColT (n : Nat) : Prop := ∀ (t : TermM) (va : Value) (acc : List TermM) (g m cap b : Nat) (w : World) (lo : Nat), HasTs n lo w va t.args → Bnd t → m = acc.length → m + size t ≤ 1073741824 → (∀ x ∈ acc, Flat x) → b ≤ w.heap.size →
  w.ownsRow b 51 4 (.slice (some ⟨g, 0, none⟩) m cap) m (flatV acc) → Calls Try.prog 56 #[aggT t va, .slice (some ⟨g, 0, none⟩) m cap] w (RowPost b (colT t acc) w)
set_option maxRecDepth 50000 in
set_option maxHeartbeats 8000000 in
theorem colT_step {n : Nat} (hS : ∀ k, n = k + 1 → ColT k) : ColT n := by
  intro t va acc g m cap b w lo h hB hm hsz hF hb ho
  obtain ⟨A, c, rfl, h⟩ := HasR.shape h rfl
  obtain ⟨N, hN⟩ : ∃ N, N = t.args.length := ⟨_, rfl⟩
  have hgw := (own_lt ho).2.1
  have HIN := Lib.hid (fun W (hW : Below w.heap.size w W) (hop : t.op = -1) => insert_any acc (var t.name t.sort) m g cap b W hm (by have := size_pos t; omega) hF ⟨rfl, hB.1, by show I64 (-1); unfold I64; omega, hB.2.2⟩ (by have := hW.size; omega) (own_below ho hW))
  have HCE := Lib.hid (colT_eta t acc)
  have HST := Lib.hid (termro.size_eq t)
  have HH := Lib.hid h
  have HM := Lib.hid hm
  have HSZ := Lib.hid hsz
  have HF := Lib.hid hF
  have HS := Lib.hid hS
  have HO := Lib.hid ho
  have HB := Lib.hid hB
  obtain ⟨L, hL⟩ : ∃ L, L = t.args := ⟨_, rfl⟩
  have HNL : Hid (N = L.length) := Lib.hid (by rw [hN, hL])
  rw [← hL] at HCE HST HH
  rw [← HNL.out] at HH
  obtain ⟨R, hR⟩ : ∃ R, R = colT t acc := ⟨_, rfl⟩
  rw [← hR] at HCE ⊢
  unfold aggT
  rw [← hL, ← HNL.out]
  obtain ⟨to, hto⟩ : ∃ q, q = t.op := ⟨_, rfl⟩
  obtain ⟨tn, htn⟩ : ∃ q, q = t.name := ⟨_, rfl⟩
  obtain ⟨ts, hts⟩ : ∃ q, q = t.sort := ⟨_, rfl⟩
  obtain ⟨tz, htz⟩ : ∃ q, q = size t := ⟨_, rfl⟩
  rw [← hto, ← htn, ← hts] at HIN HCE ⊢
  rw [← htz] at HST HSZ
  have hN30 : N ≤ 1073741824 := by have h1 := HST.out; have h2 := HSZ.out; have h3 := sizes_len L; have h4 := HNL.out; omega
  clear h hB hm hsz hF hS ho hL hN hR hto htn hts htz
  by_cases hop : to = -1
  · subst hop
    have HI2 := Lib.hid (fun W hW => HIN.out W hW rfl)
    have HR : Hid (R = insT acc (var tn ts)) := Lib.hid (by rw [HCE.out, if_pos rfl])
    unfold var at HI2
    simp only [op_mk, name_mk, sort_mk] at HI2
    clear HIN
    go_enter Try.func56, Try.ntmps56
    go_wp2_with fail
    refine (var_any tn ts _).mono ?_
    rintro e w1 ⟨rfl, hb1⟩
    have hb2 : Below w.heap.size w w1 := ((Below.refl _ _).alloc (Nat.le_refl _) _).trans (hb1.mono (by simp))
    clear hb1
    go_wp2_with fail
    refine (HI2.out w1 hb2).mono ?_
    rintro e w2 ⟨g2, cap2, m2, hm2, rfl, ho2, hb3⟩
    have HE : Hid (RowPost b R w (.returned (.slice (some ⟨g2, 0, none⟩) m2 cap2)) w2) := Lib.hid (by
      rw [HR.out]
      exact ⟨g2, cap2, m2, hm2, rfl, ho2, hb2.trans (hb3.mono hb2.size)⟩)
    clear hm2 ho2 hb3
    go_wp2
    go_ret
    exact HE.out
  · have HR : Hid (R = cols L acc) := Lib.hid (by rw [HCE.out, if_neg hop])
    clear HIN HCE
    have e1 : (to == (-1 : Int)) = false := by simpa using hop
    have e2 : decide (to = -1) = false := decide_eq_false hop
    go_enter Try.func56, Try.ntmps56
    go_wp2
    go_loopw [1, 5] (fun v1 v5 wr => ∃ (k g1 m1 cap1 : Nat), v1 = .slice (some ⟨g1, 0, none⟩) m1 cap1 ∧ v5 = .int .i64 k ∧ k ≤ N ∧ Hid (m1 = (cols (L.take k) acc).length) ∧ Hid (wr.ownsRow b 51 4 (.slice (some ⟨g1, 0, none⟩) m1 cap1) m1 (flatV (cols (L.take k) acc))) ∧ Below (w.heap.size + 1) (w.alloc (.cells #[.int .i64 to, .string (bstr tn), .int .i64 ts, .slice A N c] 51)) wr) (fun _ i _ => N - (intOf i).toNat)
    case atStart => exact ⟨0, g, m, cap, rfl, rfl, Nat.zero_le _, HM, Lib.hid (own_below HO.out ((Below.refl _ _).alloc (Nat.le_refl _) _)), Below.refl _ _⟩
    case round =>
      obtain ⟨k, g1, m1, cap1, rfl, rfl, hk, HM1, HO1, hbel⟩ := hrel
      have hsz : w.heap.size + 1 ≤ wr.heap.size := by have := hbel.size; simp at this; omega
      have hbw : Below w.heap.size w wr := ((Below.refl _ _).alloc (Nat.le_refl _) _).trans (hbel.mono (by omega))
      have q3 : wr.cell? ⟨w.heap.size, 3, none⟩ = some (.slice A N c) := (hbel.cell (p := ⟨w.heap.size, 3, none⟩) (Nat.lt_succ_self _)).trans (by simp)
      by_cases hlt : k < N
      · obtain ⟨k', ga, oa, A2, c2, hnk, rfl, _, hga, c0, c1, c2', c3, hh, hbd⟩ := term_at HH.out hlt
        rw [← hbw.cell (p := ⟨ga, oa + k * 4, none⟩) hga] at c0
        rw [← hbw.cell (p := ⟨ga, oa + k * 4 + 1, none⟩) hga] at c1
        rw [← hbw.cell (p := ⟨ga, oa + k * 4 + 2, none⟩) hga] at c2'
        rw [← hbw.cell (p := ⟨ga, oa + k * 4 + 3, none⟩) hga] at c3
        have hkl : k < L.length := by have := HNL.out; omega
        obtain ⟨x, hx⟩ : ∃ x, x = L.getD k default := ⟨_, rfl⟩
        rw [← hx] at c0 c1 c2' c3 hh hbd
        have HCX : Hid (Calls Try.prog 56 #[aggT x (.slice A2 x.args.length c2), .slice (some ⟨g1, 0, none⟩) m1 cap1] wr (RowPost b (cols (L.take (k + 1)) acc) wr)) := Lib.hid (by
          rw [cols_take L acc k hkl, ← hx]
          refine HS.out k' hnk x _ _ g1 m1 cap1 b wr lo (hh.below (Nat.le_refl _) hbw) hbd HM1.out ?_ (fun y hy => ?_) (by omega) HO1.out
          · have h1 := cols_len (L.take k) acc
            have h2 := sizes_take hkl
            have h3 : sizes (L.take (k + 1)) ≤ sizes L := by
              have e := List.take_append_drop (k + 1) L
              have : sizes L = sizes (L.take (k + 1)) + sizes (L.drop (k + 1)) := by
                conv => lhs; rw [← e]
                simp only [sizes, List.map_append, List.sum_append]
              omega
            have h4 := HST.out
            have h5 := HSZ.out
            have h6 := HM1.out
            have h7 := HM.out
            rw [← hx] at h2
            omega
          · rcases (mem_cols y (L.take k) acc).1 hy with hy | ⟨a, ha, hv⟩
            · exact HF.out y hy
            · obtain ⟨j, hj, rfl⟩ := List.getElem_of_mem ha
              have hjk : j < N := by rw [List.length_take] at hj; omega
              obtain ⟨kj, gj, oj, Aj, cj, _, _, _, _, _, _, _, _, hhj, hbj⟩ := term_at HH.out hjk
              have e : L.getD j default = (L.take k)[j] := by rw [getD_at (by have := HNL.out; omega), List.getElem_take]
              rw [e] at hhj hbj
              exact flat_vin _ _ _ _ _ hhj hbj y hv)
        unfold aggT at HCX
        obtain ⟨q, hq⟩ : ∃ q, q = x.args.length := ⟨_, rfl⟩
        obtain ⟨xo, hxo⟩ : ∃ q, q = x.op := ⟨_, rfl⟩
        obtain ⟨xn, hxn⟩ : ∃ q, q = x.name := ⟨_, rfl⟩
        obtain ⟨xs, hxs⟩ : ∃ q, q = x.sort := ⟨_, rfl⟩
        rw [← hq] at c3 HCX
        rw [← hxo] at c0 HCX
        rw [← hxn] at c1 HCX
        rw [← hxs] at c2' HCX
        clear hh hbd hx hq hxo hxn hxs hnk hkl
        have i1 : (0 : Int) ≤ (k : Int) := by omega
        have i2 : (k : Int) < (N : Int) := by omega
        go_wp2_with fail
        refine (HCX.out).mono ?_
        rintro e w2 ⟨g2, cap2, m2, hm2, rfl, ho2, hb2⟩
        have HM2 := Lib.hid hm2
        have HO2 := Lib.hid ho2
        clear hm2 ho2
        go_wp2
        go_roundw
        case measure => simp [intOf]; omega
        case rel => exact ⟨k + 1, g2, m2, cap2, rfl, by go_num, by omega, HM2, HO2, hbel.trans (hb2.mono hsz)⟩
      · obtain rfl : k = N := by omega
        have HE : Hid (RowPost b R w (.returned (.slice (some ⟨g1, 0, none⟩) m1 cap1)) wr) := Lib.hid (by
          have h1 := HM1.out
          have h2 := HO1.out
          rw [List.take_of_length_le (by have := HNL.out; omega)] at h1 h2
          rw [HR.out]
          exact ⟨g1, cap1, m1, h1, rfl, h2, hbw⟩)
        go_wp2
        go_ret
        exact HE.out
theorem collect_all : ∀ n, ColT n
  | 0 => colT_step (fun k h => by omega)
  | n + 1 => colT_step (fun k h => Nat.succ.inj h ▸ collect_all n)
/-- spec.VariablesOf -/
theorem svarsOf_any {n : Nat} (t : TermM) (v : Value) (w : World) {lo : Nat} (h : HasTs n lo w v t.args) (hB : Bnd t) (hsz : sizes t.args ≤ 1048576) :
    Calls Try.prog 37 #[aggT t v] w (RowPost w.heap.size (varsT t) w) := by
  obtain ⟨A, c, rfl, h⟩ := HasR.shape h rfl
  have hst := termro.size_eq t
  have HC := Lib.hid (fun W (hW : Below w.heap.size w W) g cap (ho : W.ownsRow w.heap.size 51 4 (.slice (some ⟨g, 0, none⟩) 0 cap) 0 (flatV [])) => collect_all n t _ [] g 0 cap w.heap.size W lo (h.below (Nat.le_refl _) hW) hB rfl (by omega) (fun x hx => by simp at hx) hW.size ho)
  obtain ⟨R, hR⟩ : ∃ R, R = varsT t := ⟨_, rfl⟩
  unfold varsT at hR
  unfold aggT at HC
  rw [← hR] at HC
  unfold varsT aggT
  rw [← hR]
  obtain ⟨N, hN⟩ : ∃ N, N = t.args.length := ⟨_, rfl⟩
  rw [← hN] at HC
  rw [← hN]
  obtain ⟨to, hto⟩ : ∃ q, q = t.op := ⟨_, rfl⟩
  obtain ⟨tn, htn⟩ : ∃ q, q = t.name := ⟨_, rfl⟩
  obtain ⟨ts, hts⟩ : ∃ q, q = t.sort := ⟨_, rfl⟩
  rw [← hto, ← htn, ← hts] at HC ⊢
  clear h hB hsz hst hR hN hto htn hts
  go_enter Try.func37, Try.ntmps37
  go_wp2_with fail
  have hb1 : Below w.heap.size w ((w.alloc (.cells #[.int .i64 to, .string (bstr tn), .int .i64 ts, .slice A N c] 51)).alloc (.cells #[] 51)) := ((Below.refl _ _).alloc (Nat.le_refl _) _).alloc (by simp) _
  refine (HC.out _ hb1 (w.heap.size + 1) 0 ?_).mono ?_
  · have h := World.ownsRow_lit (e := 51) (size := 4) (w.alloc (.cells #[.int .i64 to, .string (bstr tn), .int .i64 ts, .slice A N c] 51)) #[] 0 (Nat.le_refl _) (by unfold maxLen; omega) rfl
    exact own_mono (by simpa [flatV] using h) (Nat.le_succ _)
  rintro e w2 ⟨g2, cap2, m2, hm2, rfl, ho2, hb2⟩
  have HE : Hid (RowPost w.heap.size R w (.returned (.slice (some ⟨g2, 0, none⟩) m2 cap2)) w2) := Lib.hid ⟨g2, cap2, m2, hm2, rfl, ho2, hb1.trans (hb2.mono hb1.size)⟩
  clear hm2 ho2 hb2 hb1
  go_wp2
  go_ret
  exact HE.out
/-- spec.IsGround -/
theorem sisGround_any {n : Nat} (t : TermM) (v : Value) (w : World) {lo : Nat} (h : HasTs n lo w v t.args) (hB : Bnd t) (hsz : sizes t.args ≤ 1048576) (r : Bool) (hr : decide (varsT t = []) = r) :
    Calls Try.prog 17 #[aggT t v] w fun e w' => e = .returned (.bool r) ∧ Below w.heap.size w w' := by
  obtain ⟨A, c, rfl, _⟩ := HasR.shape h rfl
  have HC := Lib.hid (fun W (hW : Below w.heap.size w W) => svarsOf_any t _ W (h.below (Nat.le_refl _) hW) hB hsz)
  have HR : Hid (∀ m : Nat, m = (varsT t).length → r = ((m : Int) == 0)) := Lib.hid (fun m hm => by
    rw [← hr, hm, Bool.eq_iff_iff]
    simp)
  unfold aggT at HC ⊢
  obtain ⟨q, hq⟩ : ∃ q, q = t.args.length := ⟨_, rfl⟩
  rw [← hq] at HC
  rw [← hq]
  obtain ⟨to, hto⟩ : ∃ q, q = t.op := ⟨_, rfl⟩
  obtain ⟨tn, htn⟩ : ∃ q, q = t.name := ⟨_, rfl⟩
  obtain ⟨ts, hts⟩ : ∃ q, q = t.sort := ⟨_, rfl⟩
  rw [← hto, ← htn, ← hts] at HC ⊢
  clear h hB hsz hr hq hto htn hts
  go_enter Try.func17, Try.ntmps17
  go_wp2_with fail
  have hb0 : Below w.heap.size w (w.alloc (.cells #[.int .i64 to, .string (bstr tn), .int .i64 ts, .slice A q c] 51)) := (Below.refl _ _).alloc (Nat.le_refl _) _
  refine (HC.out _ hb0).mono ?_
  rintro e w1 ⟨g, cap, m, hm, rfl, _, hb1⟩
  have HE : Hid (r = ((m : Int) == 0)) := Lib.hid (HR.out m hm)
  have hb2 := hb0.trans (hb1.mono hb0.size)
  clear hm hb1 hb0
  go_wp2
  go_ret
  exact ⟨ret_bool HE.out.symm, hb2⟩
end Go.Proofs.Ytejkkdnjdfehjaa.termic
