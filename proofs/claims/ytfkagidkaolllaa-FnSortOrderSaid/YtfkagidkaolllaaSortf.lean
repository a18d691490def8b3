/-
  THE PROGRAM's SEVEN FUNCTIONS OF SORTS: IsSorts, AboveSort, BelowSort, KindOfSort, LeastSorts, GreatestSorts, CommonSorts.
-/
import Derived.Test.YtfkagidkaolllaaSorti
import Derived.Laws.Cover3
namespace Go.Proofs.Ytfkagidkaolllaa.sortf
open Go.ChangeShapes Go.WideShapes Go.ChangeAt Go.RowKit
open mem split strl subs sortn setm sets sortm sortp sorti

def aboveI (P : List (List UInt8)) (Q : List (Int × Int)) (x : Int) : Nat := atU (ordU P Q) x
def belowI (P : List (List UInt8)) (Q : List (Int × Int)) (x : Int) : Nat := belowX (ordU P Q) x
def kindI (P : List (List UInt8)) (Q : List (Int × Int)) (x : Int) : Int := if 0 ≤ x ∧ x < (ordU P Q).length then (((kin P.length (prs Q)).getD x.toNat 0 : Nat) : Int) else -1
def leastI (P : List (List UInt8)) (Q : List (Int × Int)) (x : Int) : Nat := leastU (ordU P Q) (inU (ordU P Q).length x)
def mostI (P : List (List UInt8)) (Q : List (Int × Int)) (x : Int) : Nat := mostU (ordU P Q) (inU (ordU P Q).length x)
def commonI (P : List (List UInt8)) (Q : List (Int × Int)) (a b : Int) : Nat := mostU (ordU P Q) (belowX (ordU P Q) a &&& belowX (ordU P Q) b)
theorem atU_lt {U : List Nat} (h : Lim U) (x : Int) : atU U x < 2 ^ U.length := by
  unfold atU
  split
  · exact h.2 _
  · exact Nat.two_pow_pos _
theorem lim16 {U : List Nat} (h : Lim U) {x : Nat} (hx : x < 2 ^ U.length) : x < 65536 := Nat.lt_of_lt_of_le hx (Nat.le_trans (pow8 h.1) (by decide))
theorem ordU_refl (P : List (List UInt8)) (Q : List (Int × Int)) (i : Nat) (hi : i < (ordU P Q).length) : ((ordU P Q).getD i 0).testBit i = true := by
  cases h : okS P Q with
  | false => rw [ordU_no h] at hi; simp at hi
  | true =>
    obtain ⟨h1, h2, h3, h4, h5⟩ := okS_parts h
    rw [ordU_yes h] at hi ⊢
    rw [clo_len] at hi
    exact (clo_bit h3.inR hi i).2 ⟨hi, rea_refl _ _ _⟩
theorem ordU_len (P : List (List UInt8)) (Q : List (Int × Int)) : (ordU P Q).length = if okS P Q then P.length else 0 := by
  unfold ordU; split
  · rw [clo_len]
  · rfl
theorem conv_u16 (n : Nat) (h : n < 65536) : IntKind.i64.wrap (n : Int) = (n : Int) := wraps_i64 _ (by omega) (by omega)
/-- impl.IsSorts -/
theorem iIsSorts_any (P : List (List UInt8)) (Q : List (Int × Int)) (va vb : Value) (r : Bool) (hr : okS P Q = r) (w : World) (h : HasS w va vb P Q) :
    Calls Try.prog 27 #[.agg #[va, vb]] w fun e w' => e = .returned (.bool r) ∧ Below w.heap.size w w' := by
  have HO := Lib.hid (fun W hW => sortOrder_any P Q va vb W (h.below (Nat.le_refl _) hW))
  obtain ⟨A, ca, B, cb, rfl, rfl, hla, hlb, h'⟩ := h.shape
  have hne : ∀ (m : Option Nat) (W : World), (binOp .neq 54 (.map m) (.map none)).run Try.prog W = .ok (.bool (!m.isNone)) W := fun m W => run_neq_map_nil W 54 _ _ m Try.underlying54
  clear h h'
  subst hr
  cases hok : okS P Q with
  | false =>
    have HOK := Lib.hid hok
    clear hok
    go_enter Try.func27, Try.ntmps27
    go_wp2_with (go_at_call 45; refine (HO.out _ ((Below.refl _ _).alloc (Nat.le_refl _) _)).mono ?_; rintro e w1 ⟨mv, rfl, hM, hy, hno, hb1⟩; obtain rfl := hno HOK.out; clear hM hy hno)
    go_ret
    exact ⟨rfl, ((Below.refl _ _).alloc (Nat.le_refl _) _).trans (hb1.mono (by simp))⟩
  | true =>
    have HOK := Lib.hid hok
    clear hok
    go_enter Try.func27, Try.ntmps27
    go_wp2_with (go_at_call 45; refine (HO.out _ ((Below.refl _ _).alloc (Nat.le_refl _) _)).mono ?_; rintro e w1 ⟨mv, rfl, hM, hy, hno, hb1⟩; obtain ⟨b, rfl⟩ := hy HOK.out; clear hM hno)
    go_ret
    exact ⟨rfl, ((Below.refl _ _).alloc (Nat.le_refl _) _).trans (hb1.mono (by simp))⟩
/-- impl.AboveSort -/
theorem iAbove_any (P : List (List UInt8)) (Q : List (Int × Int)) (va vb : Value) (x : Int) (h1 : -9223372036854775808 ≤ x) (h2 : x ≤ 9223372036854775807) (w : World) (h : HasS w va vb P Q) :
    Calls Try.prog 16 #[.agg #[va, vb], .int .i64 x] w fun e w' => e = .returned (.int .i64 ((aboveI P Q x : Nat) : Int)) ∧ Below w.heap.size w w' := by
  have HO := Lib.hid (fun W hW => sortOrder_any P Q va vb W (h.below (Nat.le_refl _) hW))
  obtain ⟨A, ca, B, cb, rfl, rfl, hla, hlb, h'⟩ := h.shape
  have hlt : aboveI P Q x < 65536 := lim16 (ordU_lim P Q) (atU_lt (ordU_lim P Q) x)
  have hcv := conv_u16 _ hlt
  have HAB : Hid (atU (ordU P Q) x = aboveI P Q x) := Lib.hid rfl
  obtain ⟨N, hN⟩ : ∃ N, N = aboveI P Q x := ⟨_, rfl⟩
  rw [← hN] at hlt HAB hcv ⊢
  clear h h' hN
  go_enter Try.func16, Try.ntmps16
  go_wp2_with (go_at_call 45; refine (HO.out _ ((Below.refl _ _).alloc (Nat.le_refl _) _)).mono ?_; rintro e w1 ⟨mv, rfl, hM, hy, hno, hb1⟩; have hlk := hM.look h1 h2; rw [HAB.out] at hlk; clear hM hy hno)
  go_ret
  exact ⟨rfl, ((Below.refl _ _).alloc (Nat.le_refl _) _).trans (hb1.mono (by simp))⟩
/-- impl.BelowSort -/
theorem iBelow_any (P : List (List UInt8)) (Q : List (Int × Int)) (va vb : Value) (x : Int) (h1 : -9223372036854775808 ≤ x) (h2 : x ≤ 9223372036854775807) (w : World) (h : HasS w va vb P Q) :
    Calls Try.prog 19 #[.agg #[va, vb], .int .i64 x] w fun e w' => e = .returned (.int .i64 ((belowI P Q x : Nat) : Int)) ∧ Below w.heap.size w w' := by
  have HO := Lib.hid (fun W hW => sortOrder_any P Q va vb W (h.below (Nat.le_refl _) hW))
  obtain ⟨A, ca, B, cb, rfl, rfl, hla, hlb, h'⟩ := h.shape
  have hlt : belowI P Q x < 65536 := lim16 (ordU_lim P Q) (belowX_lt (ordU P Q) x)
  have hcv := conv_u16 _ hlt
  have HR := Lib.hid (fun v W hM => relatedTo_any (ordU P Q) (ordU_lim P Q) v x h1 h2 W hM)
  rw [show belowX (ordU P Q) x = belowI P Q x from rfl] at HR
  obtain ⟨N, hN⟩ : ∃ N, N = belowI P Q x := ⟨_, rfl⟩
  rw [← hN] at hlt HR hcv ⊢
  clear h h' hN
  go_enter Try.func19, Try.ntmps19
  go_wp2_with (first
    | (go_at_call 45; refine (HO.out _ ((Below.refl _ _).alloc (Nat.le_refl _) _)).mono ?_; rintro e w1 ⟨mv, rfl, hM, hy, hno, hb1⟩; have HM := Lib.hid hM; clear hM hy hno)
    | (go_at_call 50; refine (HR.out _ _ HM.out).mono ?_; rintro e w2 ⟨rfl, rfl⟩))
  go_ret
  exact ⟨rfl, ((Below.refl _ _).alloc (Nat.le_refl _) _).trans (hb1.mono (by simp))⟩
/-- impl.LeastSorts -/
theorem iLeast_any (P : List (List UInt8)) (Q : List (Int × Int)) (va vb : Value) (x : Int) (w : World) (h : HasS w va vb P Q) :
    Calls Try.prog 31 #[.agg #[va, vb], .int .i64 x] w fun e w' => e = .returned (.int .i64 ((leastI P Q x : Nat) : Int)) ∧ Below w.heap.size w w' := by
  have HO := Lib.hid (fun W hW => sortOrder_any P Q va vb W (h.below (Nat.le_refl _) hW))
  obtain ⟨A, ca, B, cb, rfl, rfl, hla, hlb, h'⟩ := h.shape
  have hlim := ordU_lim P Q
  have hlt : leastI P Q x < 65536 := lim16 hlim (leastU_lt _ _)
  have hcv := conv_u16 _ hlt
  have HS := Lib.hid (fun v W hM => asSorts_any (ordU P Q) hlim v x W hM)
  have hin := inU_lt (n := (ordU P Q).length) hlim.1 x
  have HL := Lib.hid (fun v W hM => least_any (ordU P Q) hlim (inU (ordU P Q).length x) (lim16 hlim hin) v W hM)
  rw [leastL_eq (by have := hlim.1; omega) hin, show leastU (ordU P Q) (inU (ordU P Q).length x) = leastI P Q x from rfl] at HL
  obtain ⟨N, hN⟩ : ∃ N, N = leastI P Q x := ⟨_, rfl⟩
  rw [← hN] at hlt HL hcv ⊢
  obtain ⟨S, hS⟩ : ∃ S, S = inU (ordU P Q).length x := ⟨_, rfl⟩
  rw [← hS] at HS HL
  clear h h' hN hS hin hlim
  go_enter Try.func31, Try.ntmps31
  go_wp2_with (first
    | (go_at_call 45; refine (HO.out _ ((Below.refl _ _).alloc (Nat.le_refl _) _)).mono ?_; rintro e w1 ⟨mv, rfl, hM, hy, hno, hb1⟩; have HM := Lib.hid hM; clear hM hy hno)
    | (go_at_call 52; refine (HS.out _ _ HM.out).mono ?_; rintro e w2 ⟨rfl, rfl⟩)
    | (go_at_call 61; refine (HL.out _ _ HM.out).mono ?_; rintro e w2 ⟨rfl, hb2⟩))
  go_ret
  exact ⟨rfl, (((Below.refl _ _).alloc (Nat.le_refl _) _).trans (hb1.mono (by simp))).trans (hb2.mono (by have := hb1.size; simp at this; omega))⟩
/-- impl.GreatestSorts -/
theorem iMost_any (P : List (List UInt8)) (Q : List (Int × Int)) (va vb : Value) (x : Int) (w : World) (h : HasS w va vb P Q) :
    Calls Try.prog 23 #[.agg #[va, vb], .int .i64 x] w fun e w' => e = .returned (.int .i64 ((mostI P Q x : Nat) : Int)) ∧ Below w.heap.size w w' := by
  have HO := Lib.hid (fun W hW => sortOrder_any P Q va vb W (h.below (Nat.le_refl _) hW))
  obtain ⟨A, ca, B, cb, rfl, rfl, hla, hlb, h'⟩ := h.shape
  have hlim := ordU_lim P Q
  have hlt : mostI P Q x < 65536 := lim16 hlim (mostU_lt _ _)
  have hcv := conv_u16 _ hlt
  have HS := Lib.hid (fun v W hM => asSorts_any (ordU P Q) hlim v x W hM)
  have hin := inU_lt (n := (ordU P Q).length) hlim.1 x
  have HL := Lib.hid (fun v W hM => greatest_any (ordU P Q) hlim (inU (ordU P Q).length x) (lim16 hlim hin) v W hM)
  rw [mostL_eq (by have := hlim.1; omega) hin (ordU_refl P Q), show mostU (ordU P Q) (inU (ordU P Q).length x) = mostI P Q x from rfl] at HL
  obtain ⟨N, hN⟩ : ∃ N, N = mostI P Q x := ⟨_, rfl⟩
  rw [← hN] at hlt HL hcv ⊢
  obtain ⟨S, hS⟩ : ∃ S, S = inU (ordU P Q).length x := ⟨_, rfl⟩
  rw [← hS] at HS HL
  clear h h' hN hS hin hlim
  go_enter Try.func23, Try.ntmps23
  go_wp2_with (first
    | (go_at_call 45; refine (HO.out _ ((Below.refl _ _).alloc (Nat.le_refl _) _)).mono ?_; rintro e w1 ⟨mv, rfl, hM, hy, hno, hb1⟩; have HM := Lib.hid hM; clear hM hy hno)
    | (go_at_call 52; refine (HS.out _ _ HM.out).mono ?_; rintro e w2 ⟨rfl, rfl⟩)
    | (go_at_call 51; refine (HL.out _ _ HM.out).mono ?_; rintro e w2 ⟨rfl, hb2⟩))
  go_ret
  exact ⟨rfl, (((Below.refl _ _).alloc (Nat.le_refl _) _).trans (hb1.mono (by simp))).trans (hb2.mono (by have := hb1.size; simp at this; omega))⟩
/-- impl.CommonSorts -/
theorem iCommon_any (P : List (List UInt8)) (Q : List (Int × Int)) (va vb : Value) (x y : Int) (h1 : -9223372036854775808 ≤ x) (h2 : x ≤ 9223372036854775807) (h3 : -9223372036854775808 ≤ y) (h4 : y ≤ 9223372036854775807) (w : World) (h : HasS w va vb P Q) :
    Calls Try.prog 21 #[.agg #[va, vb], .int .i64 x, .int .i64 y] w fun e w' => e = .returned (.int .i64 ((commonI P Q x y : Nat) : Int)) ∧ Below w.heap.size w w' := by
  have HO := Lib.hid (fun W hW => sortOrder_any P Q va vb W (h.below (Nat.le_refl _) hW))
  obtain ⟨A, ca, B, cb, rfl, rfl, hla, hlb, h'⟩ := h.shape
  have hlim := ordU_lim P Q
  have hlt : commonI P Q x y < 65536 := lim16 hlim (mostU_lt _ _)
  have hcv := conv_u16 _ hlt
  have HR := Lib.hid (fun v x h1 h2 W hM => relatedTo_any (ordU P Q) hlim v x h1 h2 W hM)
  have hbx := belowX_lt (ordU P Q) x
  have hby := belowX_lt (ordU P Q) y
  have hin : belowX (ordU P Q) x &&& belowX (ordU P Q) y < 2 ^ (ordU P Q).length := Nat.lt_of_le_of_lt Nat.and_le_left hbx
  have HL := Lib.hid (fun v W hM => greatest_any (ordU P Q) hlim (belowX (ordU P Q) x &&& belowX (ordU P Q) y) (lim16 hlim hin) v W hM)
  rw [mostL_eq (by have := hlim.1; omega) hin (ordU_refl P Q), show mostU (ordU P Q) (belowX (ordU P Q) x &&& belowX (ordU P Q) y) = commonI P Q x y from rfl] at HL
  have hand := and_u16 _ _ (lim16 hlim hbx) (lim16 hlim hby)
  obtain ⟨N, hN⟩ : ∃ N, N = commonI P Q x y := ⟨_, rfl⟩
  rw [← hN] at hlt HL hcv ⊢
  have HR1 := Lib.hid (fun v W hM => HR.out v x h1 h2 W hM)
  have HR2 := Lib.hid (fun v W hM => HR.out v y h3 h4 W hM)
  obtain ⟨S1, hS1⟩ : ∃ S, S = belowX (ordU P Q) x := ⟨_, rfl⟩
  obtain ⟨S2, hS2⟩ : ∃ S, S = belowX (ordU P Q) y := ⟨_, rfl⟩
  rw [← hS1] at HR1 HL hand
  rw [← hS2] at HR2 HL hand
  have HRR : Hid (∀ v z W, MapU W v (ordU P Q) → z = x ∨ z = y → Calls Try.prog 50 #[v, .int .i64 z] W fun e w' => e = .returned (.int .u16 ((belowX (ordU P Q) z : Nat) : Int)) ∧ W = w') := Lib.hid (fun v z W hM hz => by
    rcases hz with rfl | rfl
    · exact HR.out v _ h1 h2 W hM
    · exact HR.out v _ h3 h4 W hM)
  have HS1 := Lib.hid hS1
  have HS2 := Lib.hid hS2
  clear h h' hN hS1 hS2 hin hlim hbx hby
  go_enter Try.func21, Try.ntmps21
  go_wp2_with (first
    | (go_at_call 45; refine (HO.out _ ((Below.refl _ _).alloc (Nat.le_refl _) _)).mono ?_; rintro e w1 ⟨mv, rfl, hM, hy, hno, hb1⟩; have HM := Lib.hid hM; clear hM hy hno)
    | (go_at_call 50; refine (HRR.out _ _ _ HM.out (by first | exact .inl rfl | exact .inr rfl)).mono ?_; (first | rw [← HS1.out] | rw [← HS2.out]); rintro e w2 ⟨rfl, rfl⟩)
    | (go_at_call 51; refine (HL.out _ _ HM.out).mono ?_; rintro e w2 ⟨rfl, hb2⟩))
  go_ret
  exact ⟨rfl, (((Below.refl _ _).alloc (Nat.le_refl _) _).trans (hb1.mono (by simp))).trans (hb2.mono (by have := hb1.size; simp at this; omega))⟩
/-- impl.KindOfSort -/
theorem iKind_any (P : List (List UInt8)) (Q : List (Int × Int)) (va vb : Value) (x : Int) (h1 : -9223372036854775808 ≤ x) (h2 : x ≤ 9223372036854775807) (w : World) (h : HasS w va vb P Q) :
    Calls Try.prog 29 #[.agg #[va, vb], .int .i64 x] w fun e w' => e = .returned (.int .i64 (kindI P Q x)) ∧ Below w.heap.size w w' := by
  have HO := Lib.hid (fun W hW => sortOrder_any P Q va vb W (h.below (Nat.le_refl _) hW))
  obtain ⟨A, ca, B, cb, rfl, rfl, hla, hlb, h'⟩ := h.shape
  have HH := Lib.hid h'
  have HHS := Lib.hid (fun v r hr W hM => hasSort_any (ordU P Q) v x h1 h2 r hr W hM)
  clear h h'
  by_cases hx : 0 ≤ x ∧ x < (ordU P Q).length
  · have hok : okS P Q = true := by
      cases h : okS P Q with
      | true => rfl
      | false => rw [ordU_no h] at hx; simp at hx; omega
    obtain ⟨p1, p2, p3, p4, p5⟩ := okS_parts hok
    obtain ⟨k, rfl⟩ : ∃ k : Nat, x = (k : Int) := ⟨x.toNat, by omega⟩
    have HQ : Hid (kindI P Q (k : Int) = (((kin P.length (prs Q)).getD k 0 : Nat) : Int)) := Lib.hid (by rw [kindI, if_pos hx]; rfl)
    have hlen : (ordU P Q).length = P.length := by rw [ordU_len, if_pos hok]
    have hk : k < P.length := by omega
    have HHS2 := Lib.hid (fun v W hM => HHS.out v true (by simp; omega) W hM)
    have HB := Lib.hid (fun W hW => bothDirections_any Q p4 _ W (HH.out.below (Nat.le_refl _) hW).b)
    have HCL := Lib.hid (fun v W hW => closePairs_any P.length (by omega) (bothQ Q) (by rw [bothQ_len]; omega) (bothQ_pin p3) v W hW)
    rw [bothQ_prs] at HCL
    obtain ⟨g1, g2⟩ := kin_head p3.inR (by omega) hk
    have hclt := clo_lt (both_in p3.inR) k
    have hp2 := pow8 p2
    have HEL := Lib.hid (fun W => nels_any ((clo P.length (both (prs Q))).getD k 0) (by omega) W)
    obtain ⟨n, hn⟩ : ∃ n, n = P.length := ⟨_, rfl⟩
    rw [← hn] at p2 hlen HCL g1 g2 hclt HEL HQ hla
    obtain ⟨C, hC⟩ : ∃ C, C = clo n (both (prs Q)) := ⟨_, rfl⟩
    rw [← hC] at HCL g1 g2 hclt HEL
    obtain ⟨s, hs⟩ : ∃ s, s = C.getD k 0 := ⟨_, rfl⟩
    rw [← hs] at g1 g2 hclt HEL
    have HSS := Lib.hid hs
    have HG := Lib.hid g2
    have HLEN := Lib.hid hlen
    have HN := Lib.hid hn
    clear hx hok p3 p5 hs hC g2 hlen hn hclt
    rw [show P.length = n from HN.out.symm]
    go_enter Try.func29, Try.ntmps29
    go_wp2_with (first
      | (go_at_call 45; rw [HN.out]; refine (HO.out _ ((Below.refl _ _).alloc (Nat.le_refl _) _)).mono ?_; rintro e w1 ⟨mv, rfl, hM, hy, hno, hb1⟩
         have HM := Lib.hid hM
         have hbw : Below w.heap.size w w1 := ((Below.refl _ _).alloc (Nat.le_refl _) _).trans (hb1.mono (by simp))
         have c1 : w1.cell? ⟨w.heap.size, 1, none⟩ = some (.slice B Q.length cb) := by rw [hb1.cell (p := ⟨w.heap.size, 1, none⟩) (by simp)]; simp
         have hml := hM.len
         rw [HLEN.out] at hml
         clear hM hy hno hb1)
      | (go_at_call 57; refine (HHS2.out _ _ HM.out).mono ?_; rintro e w2 ⟨rfl, rfl⟩)
      | (go_at_call 59; refine (HB.out _ hbw).mono ?_; rintro e w2 ⟨bv, rfl, hbv, hb2⟩
         have HBV := Lib.hid hbv
         have hbw2 := hbw.trans (hb2.mono hbw.size)
         clear hbv hb2)
      | (go_at_call 58; refine (HCL.out _ _ HBV.out).mono ?_; rintro e w3 ⟨cm, rfl, hM3, hb3⟩
         have hlk := hM3.look (x := (k : Int)) (by omega) (by omega)
         rw [atU_nat, ← HSS.out] at hlk
         have hbw3 := hbw2.trans (hb3.mono hbw2.size)
         clear hM3 hb3)
      | (go_at_call 60; refine (HEL.out _).mono ?_; rintro e w4 ⟨ev, rfl, hown, hb4⟩
         obtain ⟨A4, c4, rfl, hh4⟩ := (Has.of_own hown).shape (n := (els s).length) (by rw [ivs_len]; simp [nats])
         obtain ⟨g, o, rfl, hg, hcell⟩ := hh4.cellAt g1
         rw [ivs_get _ 0 (by simp [nats]; omega), nats_get, HG.out, Nat.add_zero] at hcell
         have hbw4 := hbw3.trans (hb4.mono hbw3.size)
         clear hown hh4 hb4))
    go_ret
    exact ⟨ret_int (by rw [HQ.out]; first | rfl | simp), hbw4⟩
  · have HQ : Hid (kindI P Q x = -1) := Lib.hid (by rw [kindI, if_neg hx])
    have HHS2 := Lib.hid (fun v W hM => HHS.out v false (by simpa using hx) W hM)
    clear hx
    go_enter Try.func29, Try.ntmps29
    go_wp2_with (first
      | (go_at_call 45; refine (HO.out _ ((Below.refl _ _).alloc (Nat.le_refl _) _)).mono ?_; rintro e w1 ⟨mv, rfl, hM, hy, hno, hb1⟩; have HM := Lib.hid hM; clear hM hy hno)
      | (go_at_call 57; refine (HHS2.out _ _ HM.out).mono ?_; rintro e w2 ⟨rfl, rfl⟩))
    go_ret
    exact ⟨ret_int (by rw [HQ.out]), ((Below.refl _ _).alloc (Nat.le_refl _) _).trans (hb1.mono (by simp))⟩
end Go.Proofs.Ytfkagidkaolllaa.sortf
