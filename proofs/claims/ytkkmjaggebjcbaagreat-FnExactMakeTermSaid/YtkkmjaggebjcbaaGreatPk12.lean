/-
  Sortu, Sorts, Sortg, Sigl, Tmk, Tmo, merged.
-/
import Derived.Test.YtkkmjaggebjcbaaGreatPk04
import Derived.BigRegion
import Derived.Test.YtkkmjaggebjcbaaGreatPk02
/-
 THE MODEL's CLOSURES: l3Up, l3Kinds, l1Min.
-/
namespace Go.Proofs.YtkkmjaggebjcbaaGreat.sortu
open Go.ChangeShapes Go.WideShapes Go.ChangeAt Go.RowKit
open mem split strl subs sortn setm sets sortm sortp sorti sortf

theorem ivs_set (L : List Int) (k : Nat) (x : Int) : (ivs L).set k (.int .i64 x) = ivs (L.set k x) := by simp [ivs, List.map_set]
theorem nats_set (L : List Nat) (k x : Nat) : (nats L).set k (x : Int) = nats (L.set k x) := by
 simp [nats, List.map_set]
theorem nats_len (L : List Nat) : (nats L).length = L.length := by simp [nats]
theorem in_cell {w : World} {base g n cap : Nat} {U : List Nat} (h : w.ownsRow base 3 1 (.slice (some ⟨g, 0, none⟩) n cap) n (ivs (nats U))) {j : Nat} (hj : j < n) :
  w.cell? ⟨g, j, none⟩ = some (.int .i64 ((U.getD j 0 : Nat) : Int)) ∧ w.frozen? ⟨g, j, none⟩ = false := by
 refine ⟨?_, h.frozenAt j⟩
 have hl := h.1
 rw [h.cellAt j (by omega)]
 have hl2 : (ivs (nats U)).length = U.length := by rw [ivs_len, nats_len]
 have : (ivs (nats U))[j]? = some ((ivs (nats U)).getD j undef) := by
  rw [List.getElem?_eq_getElem (by omega)]; simp [List.getD, List.getElem?_eq_getElem (show j < (ivs (nats U)).length by omega)]
 rw [this, ivs_get _ _ (by rw [nats_len]; omega), nats_get]
theorem own_base {w : World} {base base' n : Nat} {e : TypeId} {size : Nat} {v : Value} {xs : List Value} (h : w.ownsRow base e size v n xs) (hb : base' ≤ base) : w.ownsRow base' e size v n xs := by
 refine ⟨h.1, ?_⟩
 rcases h.2 with h2 | ⟨g, cap, cur, hv, hg, r⟩
 ·exact .inl h2
 ·exact .inr ⟨g, cap, cur, hv, by omega, r⟩
set_option maxHeartbeats 4000000 in
/-- spec.l3Up -/
theorem l3Up_any (P : List (List UInt8)) (Q : List (Int × Int)) (hP1 : 1 ≤ P.length) (hP : P.length ≤ 8) (hQ : Q.length ≤ 32) (hin : PIn P.length Q) (va vb : Value) (w : World) (h : HasS w va vb P Q) :
  Calls Tryz.prog 113 #[.agg #[va, vb]] w fun e w' => ∃ v, e = .returned v ∧ w'.ownsRow w.heap.size 3 1 v P.length (ivs (nats (clo P.length (prs Q)))) ∧ Below w.heap.size w w' := by
 obtain ⟨i0, hi, hz0, hz1, hz2⟩ := info_parts info_int
 obtain ⟨A, ca, B, cb, rfl, rfl, hla, hlb, h'⟩ := h.shape
 obtain ⟨n, hn⟩ : ∃ n, n = P.length := ⟨_, rfl⟩
 obtain ⟨m, hm⟩ : ∃ m, m = Q.length := ⟨_, rfl⟩
 rw [← hn] at hP1 hP hin hla ⊢
 rw [← hm] at hQ hlb
 have hHP := h'.b
 rw [← hm] at hHP
 have HB := Lib.hid hHP
 have HN := Lib.hid hn
 have HM := Lib.hid hm
 have HIN := Lib.hid hin
 rw [← hm]
 clear h h' hn hm hin hHP
 go_enter Tryz.func113, Tryz.ntmps113
 go_wp2
 have hini : (((w.alloc (.cells #[.slice A n ca, .slice B m cb] 39)).alloc (.cells #[] 3)).ownsRow (w.heap.size + 1) 3 1 (.slice (some ⟨w.heap.size + 1, 0, none⟩) 0 0) 0 (ivs (nats (ident 0)))) := by
  have := World.ownsRow_lit (e := 3) (size := 1) (w.alloc (.cells #[.slice A n ca, .slice B m cb] 39)) #[] 0 (Nat.le_refl _) (by unfold maxLen; omega) rfl
  simpa [ident, ivs, nats] using this
 have HINI := Lib.hid hini
 clear hini
 go_loopw [3, 4] (fun v i wr => ∃ k : Nat, k ≤ n ∧ i = .int .i64 k ∧ wr.ownsRow (w.heap.size + 1) 3 1 v k (ivs (nats (ident k))) ∧ Below (w.heap.size + 1) (w.alloc (.cells #[.slice A n ca, .slice B m cb] 39)) wr) (fun _ i _ => n - (intOf i).toNat)
 case atStart =>
  exact ⟨0, Nat.zero_le _, rfl, HINI.out, (Below.refl _ _).alloc (by simp) _⟩
 case round =>
  obtain ⟨k, hk, rfl, hown, hbel⟩ := hrel
  have HO := Lib.hid (own_block hown)
  have c0 : wr.cell? ⟨w.heap.size, 0, none⟩ = some (.slice A n ca) := by rw [hbel.cell (p := ⟨w.heap.size, 0, none⟩) (by simp)]; simp
  have hsz : w.heap.size + 1 ≤ wr.heap.size := by have := hbel.size; simpa using this
  by_cases hlt : k < n
  ·have HBIT := Lib.hid (fun W => l2Bit_any k (by omega) W)
   obtain ⟨z, hz⟩ : ∃ z, z = 2 ^ k := ⟨_, rfl⟩
   have HZ : Hid (ident (k + 1) = ident k ++ [z]) := Lib.hid (by rw [hz]; exact ident_succ k)
   rw [← hz] at HBIT
   clear hz
   go_wp2_with (first
    | (go_at_call 153; refine (HBIT.out _).mono ?_; rintro e w1 ⟨rfl, rfl⟩)
    | (at_builtin; refine wpList_append_own _ rfl _ _ 117 rfl (w.heap.size + 1) 3 i0 (.int .i64 0) 1 8 Tryz.underlying117 hi hz0 hz1 hz2 rfl (by decide) _ _ _ rfl (hown.alloc _) ⟨wr.heap.size, 0, none⟩ 1 1 [.int .i64 (z : Int)] rfl rfl (one_cell _ _ _) (one_one _ rfl) (by unfold maxLen; omega) (by omega) (by simp; omega) ?_))
   intro v2 w2 hown2 hgrow2 _
   have HB2 := (hbel.alloc hsz (.cells #[.int .i64 (z : Int)] 3)).grown hgrow2 (by simp; omega) HO.out
   have HOWN : w2.ownsRow (w.heap.size + 1) 3 1 v2 (k + 1) (ivs (nats (ident (k + 1)))) := by rw [HZ.out]; simpa [ivs, nats] using hown2
   clear hown2 hgrow2 hown hbel
   go_wp2
   go_roundw
   case rel => exact ⟨k + 1, by omega, by go_num, HOWN, HB2⟩
   case measure => simp [intOf]; omega
  ·obtain rfl : k = n := by omega
   clear hlt
   obtain ⟨g, cap, rfl, hgb, hgs⟩ := own_shape hown (by intro e; have := hown.1; rw [e] at this; simp at this; omega)
   have HOWN := Lib.hid hown
   have HBEL := Lib.hid hbel
   clear hown hbel hsz
   go_wp2
   clear c0
   go_loopw [5] (fun i wr => ∃ t : Nat, t ≤ k ∧ i = .int .i64 t ∧ wr.ownsRow (w.heap.size + 1) 3 1 (.slice (some ⟨g, 0, none⟩) k cap) k (ivs (nats (iterU (prs Q) (ident k) t))) ∧ Below (w.heap.size + 1) (w.alloc (.cells #[.slice A k ca, .slice B m cb] 39)) wr) (fun i _ => k - (intOf i).toNat)
   case atStart => exact ⟨0, Nat.zero_le _, rfl, HOWN.out, HBEL.out⟩
   case round =>
    obtain ⟨t, ht, rfl, hown, hbel⟩ := hrel
    have c0 : wr.cell? ⟨w.heap.size, 0, none⟩ = some (.slice A k ca) := by rw [hbel.cell (p := ⟨w.heap.size, 0, none⟩) (by simp)]; simp
    by_cases hlt : t < k
    ·have HOWN2 := Lib.hid hown
     have HBEL2 := Lib.hid hbel
     clear hown hbel
     go_wp2
     clear c0
     go_loopw [6] (fun i wr => ∃ j : Nat, j ≤ m ∧ i = .int .i64 j ∧ wr.ownsRow (w.heap.size + 1) 3 1 (.slice (some ⟨g, 0, none⟩) k cap) k (ivs (nats (midU k (prs Q) t j))) ∧ Below (w.heap.size + 1) (w.alloc (.cells #[.slice A k ca, .slice B m cb] 39)) wr) (fun i _ => m - (intOf i).toNat)
     case atStart => exact ⟨0, Nat.zero_le _, rfl, by rw [midU_zero]; exact HOWN2.out, HBEL2.out⟩
     case round =>
      obtain ⟨j, hj, rfl, hown, hbel⟩ := hrel
      have c1 : wr.cell? ⟨w.heap.size, 1, none⟩ = some (.slice B m cb) := by rw [hbel.cell (p := ⟨w.heap.size, 1, none⟩) (by simp)]; simp
      by_cases hlt3 : j < m
      ·obtain ⟨gq, o, rfl, hg, hcell, hcell2⟩ := HB.out.cellAt hlt3
       have hbw : Below w.heap.size w wr := ((Below.refl _ _).alloc (Nat.le_refl _) _).trans (hbel.mono (by omega))
       rw [← hbw.cell (p := ⟨gq, o + j * 2, none⟩) hg] at hcell
       rw [← hbw.cell (p := ⟨gq, o + j * 2 + 1, none⟩) hg] at hcell2
       have hin := HIN.out.get (k := j) (by have := HM.out; omega)
       have hs := midU_succ k (prs Q) t j (by rw [prs_len]; have := HM.out; omega)
       rw [prs_get] at hs
       have hl1 := midU_lt HIN.out.inR t j (Q.getD j (0, 0)).1.toNat
       have hl2 := midU_lt HIN.out.inR t j (Q.getD j (0, 0)).2.toNat
       have hpk := pow8 hP
       have HLEN := Lib.hid (midU_len k (prs Q) t j)
       obtain ⟨x, hx⟩ : ∃ x, x = (Q.getD j (0, 0)).1 := ⟨_, rfl⟩
       obtain ⟨y, hy⟩ : ∃ y, y = (Q.getD j (0, 0)).2 := ⟨_, rfl⟩
       rw [← hx, ← hy] at hin hs
       rw [← hx] at hcell hl1
       rw [← hy] at hcell2 hl2
       obtain ⟨x', rfl⟩ : ∃ x' : Nat, x = (x' : Int) := ⟨x.toNat, by omega⟩
       obtain ⟨y', rfl⟩ : ∃ y' : Nat, y = (y' : Int) := ⟨y.toNat, by omega⟩
       simp only [Int.toNat_natCast] at hs hl1 hl2
       obtain ⟨U, hU⟩ : ∃ U, U = midU k (prs Q) t j := ⟨_, rfl⟩
       rw [← hU] at hs hl1 hl2 hown HLEN
       have HS : Hid (midU k (prs Q) t (j + 1) = U.set x' (U.getD x' 0 ||| U.getD y' 0)) := Lib.hid (by rw [hs, stepU])
       have hor := or_i64 (U.getD x' 0) (U.getD y' 0) (by omega) (by omega)
       have hxk : x' < k := by omega
       have hyk : y' < k := by omega
       obtain ⟨d0, f0⟩ := in_cell hown hxk
       obtain ⟨d1, _⟩ := in_cell hown hyk
       have HOWN3 := Lib.hid hown
       obtain ⟨a, ha⟩ : ∃ a, a = U.getD x' 0 := ⟨_, rfl⟩
       obtain ⟨b, hb⟩ : ∃ b, b = U.getD y' 0 := ⟨_, rfl⟩
       rw [← ha, ← hb] at hor HS
       rw [← ha] at hl1 d0
       rw [← hb] at hl2 d1
       clear hx hy hs hU ha hb hown hl1 hl2
       have HBEL3 := Lib.hid hbel
       have HBW3 := Lib.hid hbw
       clear hbel hbw
       go_wp2
       go_region
       go_wp2
       go_roundw
       case rel =>
        refine ⟨j + 1, by omega, by go_num, ?_, ?_⟩
        ·have := setCell_own HOWN3.out x' (.int .i64 ((a ||| b : Nat) : Int))
         rw [ivs_set, nats_set] at this
         rw [HS.out]
         first | exact this | exact own_below this ((Below.refl _ _).drew)
        ·first | exact HBEL3.out.setCell hgb _ | exact (HBEL3.out.setCell hgb _).drew
       case measure => simp [intOf]; omega
      ·obtain rfl : j = m := by omega
       have HOWN4 : Hid (wr.ownsRow (w.heap.size + 1) 3 1 (.slice (some ⟨g, 0, none⟩) k cap) k (ivs (nats (iterU (prs Q) (ident k) (t + 1))))) := Lib.hid (by rw [← midU_last, prs_len, ← HM.out]; exact hown)
       clear hown
       go_wp2
       go_roundw
       case rel => exact ⟨t + 1, by omega, by go_num, HOWN4.out, hbel⟩
       case measure => simp [intOf]; omega
    ·obtain rfl : t = k := by omega
     go_wp2
     go_ret
     exact ⟨_, rfl, own_base hown (by omega), ((Below.refl _ _).alloc (Nat.le_refl _) _).trans (hbel.mono (by omega))⟩
/-- spec.l1Min, at small numbers -/
theorem l1Min_any (a b : Nat) (ha : a < 65536) (hb : b < 65536) (w : World) :
  Calls Tryz.prog 115 #[.int .i64 (a : Int), .int .i64 (b : Int)] w fun e w' => e = .returned (.int .i64 ((min a b : Nat) : Int)) ∧ w = w' := by
 obtain ⟨c, hc⟩ : ∃ c, c = min a b := ⟨_, rfl⟩
 rw [← hc]
 by_cases h : a < b
 ·have hca : c = a := by omega
  subst hca
  clear hc
  go_enter Tryz.func115, Tryz.ntmps115
  go_wp2
  go_ret
  exact ⟨rfl, rfl⟩
 ·have hcb : c = b := by omega
  subst hcb
  clear hc
  have hd : decide ((a : Int) < (c : Int)) = false := by simp; omega
  go_enter Tryz.func115, Tryz.ntmps115
  go_wp2
  go_ret
  exact ⟨rfl, rfl⟩
set_option maxHeartbeats 4000000 in
/-- spec.l3Kinds -/
theorem l3Kinds_any (P : List (List UInt8)) (Q : List (Int × Int)) (hP1 : 1 ≤ P.length) (hP : P.length ≤ 8) (hQ : Q.length ≤ 32) (hin : PIn P.length Q) (hne : ∀ p ∈ Q, p.1 ≠ p.2) (va vb : Value) (w : World) (h : HasS w va vb P Q) :
  Calls Tryz.prog 73 #[.agg #[va, vb]] w fun e w' => ∃ v, e = .returned v ∧ w'.ownsRow w.heap.size 3 1 v P.length (ivs (nats (kin P.length (prs Q)))) ∧ Below w.heap.size w w' := by
 obtain ⟨i0, hi, hz0, hz1, hz2⟩ := info_parts info_int
 obtain ⟨A, ca, B, cb, rfl, rfl, hla, hlb, h'⟩ := h.shape
 obtain ⟨n, hn⟩ : ∃ n, n = P.length := ⟨_, rfl⟩
 obtain ⟨m, hm⟩ : ∃ m, m = Q.length := ⟨_, rfl⟩
 rw [← hn] at hP1 hP hin hla ⊢
 rw [← hm] at hQ hlb
 have hHP := h'.b
 rw [← hm] at hHP
 have HB := Lib.hid hHP
 have HN := Lib.hid hn
 have HM := Lib.hid hm
 have HIN := Lib.hid hin
 have HNE : Hid (∀ j, j < Q.length → (Q.getD j (0, 0)).1 ≠ (Q.getD j (0, 0)).2) := Lib.hid (fun j hj => by
  have := hne _ (List.getElem_mem hj)
  simpa [List.getD, List.getElem?_eq_getElem hj] using this)
 clear hne
 rw [← hm]
 clear h h' hn hm hin hHP
 go_enter Tryz.func73, Tryz.ntmps73
 go_wp2
 have hini : (((w.alloc (.cells #[.slice A n ca, .slice B m cb] 39)).alloc (.cells #[] 3)).ownsRow (w.heap.size + 1) 3 1 (.slice (some ⟨w.heap.size + 1, 0, none⟩) 0 0) 0 (ivs (nats (List.range 0)))) := by
  have := World.ownsRow_lit (e := 3) (size := 1) (w.alloc (.cells #[.slice A n ca, .slice B m cb] 39)) #[] 0 (Nat.le_refl _) (by unfold maxLen; omega) rfl
  simpa [ivs, nats] using this
 have HINI := Lib.hid hini
 clear hini
 go_loopw [3, 4] (fun v i wr => ∃ k : Nat, k ≤ n ∧ i = .int .i64 k ∧ wr.ownsRow (w.heap.size + 1) 3 1 v k (ivs (nats (List.range k))) ∧ Below (w.heap.size + 1) (w.alloc (.cells #[.slice A n ca, .slice B m cb] 39)) wr) (fun _ i _ => n - (intOf i).toNat)
 case atStart =>
  exact ⟨0, Nat.zero_le _, rfl, HINI.out, (Below.refl _ _).alloc (by simp) _⟩
 case round =>
  obtain ⟨k, hk, rfl, hown, hbel⟩ := hrel
  have HO := Lib.hid (own_block hown)
  have c0 : wr.cell? ⟨w.heap.size, 0, none⟩ = some (.slice A n ca) := by rw [hbel.cell (p := ⟨w.heap.size, 0, none⟩) (by simp)]; simp
  have hsz : w.heap.size + 1 ≤ wr.heap.size := by have := hbel.size; simpa using this
  by_cases hlt : k < n
  ·go_wp2_with (at_builtin; refine wpList_append_own _ rfl _ _ 117 rfl (w.heap.size + 1) 3 i0 (.int .i64 0) 1 8 Tryz.underlying117 hi hz0 hz1 hz2 rfl (by decide) _ _ _ rfl (hown.alloc _) ⟨wr.heap.size, 0, none⟩ 1 1 [.int .i64 (k : Int)] rfl rfl (one_cell _ _ _) (one_one _ rfl) (by unfold maxLen; omega) (by omega) (by simp; omega) ?_)
   intro v2 w2 hown2 hgrow2 _
   have HB2 := (hbel.alloc hsz (.cells #[.int .i64 (k : Int)] 3)).grown hgrow2 (by simp; omega) HO.out
   have HOWN : w2.ownsRow (w.heap.size + 1) 3 1 v2 (k + 1) (ivs (nats (List.range (k + 1)))) := by rw [List.range_succ]; simpa [ivs, nats] using hown2
   clear hown2 hgrow2 hown hbel
   go_wp2
   go_roundw
   case rel => exact ⟨k + 1, by omega, by go_num, HOWN, HB2⟩
   case measure => simp [intOf]; omega
  ·obtain rfl : k = n := by omega
   clear hlt
   obtain ⟨g, cap, rfl, hgb, hgs⟩ := own_shape hown (by intro e; have := hown.1; rw [e] at this; simp at this; omega)
   have HOWN := Lib.hid hown
   have HBEL := Lib.hid hbel
   clear hown hbel hsz
   go_wp2
   clear c0
   go_loopw [5] (fun i wr => ∃ t : Nat, t ≤ k ∧ i = .int .i64 t ∧ wr.ownsRow (w.heap.size + 1) 3 1 (.slice (some ⟨g, 0, none⟩) k cap) k (ivs (nats (iterK (prs Q) (List.range k) t))) ∧ Below (w.heap.size + 1) (w.alloc (.cells #[.slice A k ca, .slice B m cb] 39)) wr) (fun i _ => k - (intOf i).toNat)
   case atStart => exact ⟨0, Nat.zero_le _, rfl, HOWN.out, HBEL.out⟩
   case round =>
    obtain ⟨t, ht, rfl, hown, hbel⟩ := hrel
    have c0 : wr.cell? ⟨w.heap.size, 0, none⟩ = some (.slice A k ca) := by rw [hbel.cell (p := ⟨w.heap.size, 0, none⟩) (by simp)]; simp
    by_cases hlt : t < k
    ·have HOWN2 := Lib.hid hown
     have HBEL2 := Lib.hid hbel
     clear hown hbel
     go_wp2
     clear c0
     go_loopw [6] (fun i wr => ∃ j : Nat, j ≤ m ∧ i = .int .i64 j ∧ wr.ownsRow (w.heap.size + 1) 3 1 (.slice (some ⟨g, 0, none⟩) k cap) k (ivs (nats (midK k (prs Q) t j))) ∧ Below (w.heap.size + 1) (w.alloc (.cells #[.slice A k ca, .slice B m cb] 39)) wr) (fun i _ => m - (intOf i).toNat)
     case atStart => exact ⟨0, Nat.zero_le _, rfl, by rw [midK_zero]; exact HOWN2.out, HBEL2.out⟩
     case round =>
      obtain ⟨j, hj, rfl, hown, hbel⟩ := hrel
      have c1 : wr.cell? ⟨w.heap.size, 1, none⟩ = some (.slice B m cb) := by rw [hbel.cell (p := ⟨w.heap.size, 1, none⟩) (by simp)]; simp
      by_cases hlt3 : j < m
      ·obtain ⟨gq, o, rfl, hg, hcell, hcell2⟩ := HB.out.cellAt hlt3
       have hbw : Below w.heap.size w wr := ((Below.refl _ _).alloc (Nat.le_refl _) _).trans (hbel.mono (by omega))
       rw [← hbw.cell (p := ⟨gq, o + j * 2, none⟩) hg] at hcell
       rw [← hbw.cell (p := ⟨gq, o + j * 2 + 1, none⟩) hg] at hcell2
       have hin := HIN.out.get (k := j) (by have := HM.out; omega)
       have hs := midK_succ k (prs Q) t j (by rw [prs_len]; have := HM.out; omega)
       rw [prs_get] at hs
       have hxy := HNE.out j (by have := HM.out; omega)
       have hb1 := midK_lt HIN.out.inR t j (Q.getD j (0, 0)).1.toNat (by omega)
       have hb2 := midK_lt HIN.out.inR t j (Q.getD j (0, 0)).2.toNat (by omega)
       have HLEN := Lib.hid (midK_len k (prs Q) t j)
       obtain ⟨x, hx⟩ : ∃ x, x = (Q.getD j (0, 0)).1 := ⟨_, rfl⟩
       obtain ⟨y, hy⟩ : ∃ y, y = (Q.getD j (0, 0)).2 := ⟨_, rfl⟩
       rw [← hx, ← hy] at hin hs hxy
       rw [← hx] at hb1
       rw [← hy] at hb2
       rw [← hx] at hcell
       rw [← hy] at hcell2
       obtain ⟨x', rfl⟩ : ∃ x' : Nat, x = (x' : Int) := ⟨x.toNat, by omega⟩
       obtain ⟨y', rfl⟩ : ∃ y' : Nat, y = (y' : Int) := ⟨y.toNat, by omega⟩
       simp only [Int.toNat_natCast] at hs hb1 hb2
       have hxy1 : x' ≠ y' := by omega
       have hxy2 : y' ≠ x' := by omega
       clear hxy
       obtain ⟨U, hU⟩ : ∃ U, U = midK k (prs Q) t j := ⟨_, rfl⟩
       rw [← hU] at hs hb1 hb2 hown HLEN
       have HS : Hid (midK k (prs Q) t (j + 1) = (U.set x' (min (U.getD x' 0) (U.getD y' 0))).set y' (min (U.getD x' 0) (U.getD y' 0))) := Lib.hid (by rw [hs, stepK])
       have hxk : x' < k := by omega
       have hyk : y' < k := by omega
       obtain ⟨d0, f0⟩ := in_cell hown hxk
       obtain ⟨d1, f1⟩ := in_cell hown hyk
       have HOWN3 := Lib.hid hown
       obtain ⟨a, ha⟩ : ∃ a, a = U.getD x' 0 := ⟨_, rfl⟩
       obtain ⟨b, hb⟩ : ∃ b, b = U.getD y' 0 := ⟨_, rfl⟩
       rw [← ha, ← hb] at HS
       rw [← ha] at d0 hb1
       rw [← hb] at d1 hb2
       have HMN := Lib.hid (fun W => l1Min_any a b (by omega) (by omega) W)
       obtain ⟨c, hc⟩ : ∃ c, c = min a b := ⟨_, rfl⟩
       rw [← hc] at HMN HS
       clear hx hy hs hU ha hb hown hc hb1 hb2
       have HBEL3 := Lib.hid hbel
       have HBW3 := Lib.hid hbw
       clear hbel hbw
       go_wp2
       go_quiet (fail)
       go_wp2
       go_quiet ((go_at_call 115; exact (HMN.out _).mono (fun _ _ h => ⟨h.1, _, h.2.symm⟩)))
       go_wp2
       go_roundw
       case rel =>
        refine ⟨j + 1, by omega, by go_num, ?_, ?_⟩
        ·have := setCell_own (setCell_own HOWN3.out x' (.int .i64 ((c : Nat) : Int))) y' (.int .i64 ((c : Nat) : Int))
         rw [ivs_set, nats_set, ivs_set, nats_set] at this
         rw [HS.out]
         first | exact this | exact own_below this ((Below.refl _ _).drew)
        ·repeat (first | exact HBEL3.out | refine Below.setCell ?_ hgb _ | refine Below.drew ?_ | refine below_drewN ?_ _)
       case measure => simp [intOf]; omega
      ·obtain rfl : j = m := by omega
       have HOWN4 : Hid (wr.ownsRow (w.heap.size + 1) 3 1 (.slice (some ⟨g, 0, none⟩) k cap) k (ivs (nats (iterK (prs Q) (List.range k) (t + 1))))) := Lib.hid (by rw [← midK_last, prs_len, ← HM.out]; exact hown)
       clear hown
       go_wp2
       go_roundw
       case rel => exact ⟨t + 1, by omega, by go_num, HOWN4.out, hbel⟩
       case measure => simp [intOf]; omega
    ·obtain rfl : t = k := by omega
     go_wp2
     go_ret
     exact ⟨_, rfl, own_base hown (by omega), ((Below.refl _ _).alloc (Nat.le_refl _) _).trans (hbel.mono (by omega))⟩
end Go.Proofs.YtkkmjaggebjcbaaGreat.sortu
/-
 THE MODEL's FUNCTIONS OF SORTS: IsSorts, AboveSort, BelowSort, KindOfSort, LeastSorts, GreatestSorts, CommonSorts.
-/
namespace Go.Proofs.YtkkmjaggebjcbaaGreat.sorts
open Go.ChangeShapes Go.WideShapes Go.ChangeAt Go.RowKit
open mem split strl subs sortn setm sets sortm sortp sorti sortf sortu

theorem in_range (x : Int) (n : Nat) (_hn : 1 ≤ n) : inI x 0 ((n : Int) - 1) = decide (0 ≤ x ∧ x < n) := by
 rw [inI, decide_eq_decide]; omega
theorem okS_names {P : List (List UInt8)} {Q : List (Int × Int)} (h : namesOk P = false) : okS P Q = false := by rw [okS, h]; rfl
theorem okS_subs {P : List (List UInt8)} {Q : List (Int × Int)} (h : subsOk P.length Q = false) : okS P Q = false := by rw [okS, h]; simp
set_option maxHeartbeats 4000000 in
/-- spec.IsSorts -/
theorem sIsSorts_any (P : List (List UInt8)) (Q : List (Int × Int)) (va vb : Value) (r : Bool) (hr : okS P Q = r) (w : World) (h : HasS w va vb P Q) :
  Calls Tryz.prog 65 #[.agg #[va, vb]] w fun e w' => e = .returned (.bool r) ∧ Below w.heap.size w w' := by
 obtain ⟨A, ca, B, cb, rfl, rfl, hla, hlb, h'⟩ := h.shape
 have HH := Lib.hid h'
 have HR := Lib.hid hr
 have hcap : P.length ≤ ca := by obtain ⟨A', c', e, h1, h2, _⟩ := h'.a; simp only [Value.slice.injEq] at e; rw [e.2.2, ← ssv_len P]; exact h1
 clear h h' hr
 by_cases hlo : P.length < 1
 ·have HQ : Hid (r = false) := Lib.hid (by rw [← HR.out]; exact okS_names (by simp [namesOk]; omega))
  go_enter Tryz.func65, Tryz.ntmps65
  go_wp2
  go_ret
  exact ⟨ret_bool HQ.out.symm, (Below.refl _ _).alloc (Nat.le_refl _) _⟩
 by_cases hhi : 8 < P.length
 ·have HQ : Hid (r = false) := Lib.hid (by rw [← HR.out]; exact okS_names (by simp [namesOk]; omega))
  go_enter Tryz.func65, Tryz.ntmps65
  go_wp2
  go_ret
  exact ⟨ret_bool HQ.out.symm, (Below.refl _ _).alloc (Nat.le_refl _) _⟩
 have hd1 : decide ((P.length : Int) < 1) = false := by simp; omega
 have hd2 : decide ((8 : Int) < (P.length : Int)) = false := by simp; omega
 by_cases hq : 16 < Q.length
 ·have HQ : Hid (r = false) := Lib.hid (by rw [← HR.out]; exact okS_subs (by simp [subsOk]; omega))
  go_enter Tryz.func65, Tryz.ntmps65
  go_wp2
  go_ret
  exact ⟨ret_bool HQ.out.symm, (Below.refl _ _).alloc (Nat.le_refl _) _⟩
 have hd3 : decide ((16 : Int) < (Q.length : Int)) = false := by simp; omega
 obtain ⟨n, hn⟩ : ∃ n, n = P.length := ⟨_, rfl⟩
 obtain ⟨m, hm⟩ : ∃ m, m = Q.length := ⟨_, rfl⟩
 rw [← hn] at HH hla hcap hlo hhi hd1 hd2 ⊢
 rw [← hm] at HH hlb hq hd3 ⊢
 have HNM := Lib.hid (fun h => okS_names (P := P) (Q := Q) h)
 have HNS := Lib.hid (fun h => okS_subs (P := P) (Q := Q) h)
 have HN := Lib.hid hn
 have HM := Lib.hid hm
 clear hn hm
 go_enter Tryz.func65, Tryz.ntmps65
 go_wp2
 go_loopw [3] (fun i wr => ∃ k : Nat, k ≤ n ∧ i = .int .i64 k ∧ Hid (namesTo P k = true) ∧ Below (w.heap.size + 1) (w.alloc (.cells #[.slice A n ca, .slice B m cb] 39)) wr) (fun i _ => n - (intOf i).toNat)
 case atStart => exact ⟨0, Nat.zero_le _, rfl, Lib.hid rfl, Below.refl _ _⟩
 case round =>
  obtain ⟨k, hk, rfl, HX, hbel⟩ := hrel
  have c0 : wr.cell? ⟨w.heap.size, 0, none⟩ = some (.slice A n ca) := by rw [hbel.cell (p := ⟨w.heap.size, 0, none⟩) (by simp)]; simp
  have hbw : Below w.heap.size w wr := ((Below.refl _ _).alloc (Nat.le_refl _) _).trans (hbel.mono (by omega))
  by_cases hlt : k < n
  ·have hHS := HH.out.below (Nat.le_refl _) hbw
   obtain ⟨g, o, rfl, hg, hcell⟩ := hHS.a.cellAt hlt
   rw [ssv_get P k (by have := HN.out; omega)] at hcell
   have HT := Lib.hid (has_take hHS.a (k := k) (by omega))
   rw [ssv_take] at HT
   have HS := Lib.hid (namesTo_succ P k)
   have HB := Lib.hid (namesTo_bad P k P.length (by have := HN.out; omega))
   have HP2 := Lib.hid (hHS.short k (by have := HN.out; omega))
   obtain ⟨x, hx⟩ : ∃ x, x = P.getD k [] := ⟨_, rfl⟩
   rw [← hx] at hcell HS HB HP2
   have HC := Lib.hid (fun r hr q => l1Has_any (P.take k) x (.slice (some ⟨g, o, none⟩) k ca) r hr (wr.drewN q) (HT.out.below (Nat.le_refl _) (below_drewN (Below.refl _ _) q)))
   have HBEL := Lib.hid hbel
   have HBW := Lib.hid hbw
   clear hx hHS hbel hbw
   cases hnm : nameOk x with
   | false =>
    have HQ : Hid (r = false) := Lib.hid (by rw [← HR.out]; exact HNM.out (by rw [namesOk, HB.out (.inl hnm)]; simp))
    have HNA := Lib.hid (fun W => sName_any x HP2.out false hnm W)
    clear hnm
    go_wp2
    go_quiet ((go_at_call 66; exact (HNA.out _).mono (fun _ _ h => ⟨h.1, _, h.2.symm⟩)))
    go_wp2
    go_ret
    exact ⟨ret_bool HQ.out.symm, below_drewN HBW.out _⟩
   | true =>
    have HNA := Lib.hid (fun W => sName_any x HP2.out true hnm W)
    by_cases hmm : x ∈ P.take k
    ·have HQ : Hid (r = false) := Lib.hid (by rw [← HR.out]; exact HNM.out (by rw [namesOk, HB.out (.inr hmm)]; simp))
     have HC2 := Lib.hid (HC.out true (by simpa using hmm))
     clear hnm hmm
     go_wp2
     go_quiet (first | (go_at_call 66; exact (HNA.out _).mono (fun _ _ h => ⟨h.1, _, h.2.symm⟩)) | (go_at_call 112; exact (HC2.out _).mono (fun _ _ h => ⟨h.1, _, h.2.symm⟩)))
     go_wp2
     go_ret
     exact ⟨ret_bool HQ.out.symm, below_drewN HBW.out _⟩
    ·have HX2 : Hid (namesTo P (k + 1) = true) := Lib.hid (by rw [HS.out, HX.out, hnm]; simpa using hmm)
     have HC2 := Lib.hid (HC.out false (by simpa using hmm))
     clear hnm hmm
     go_wp2
     go_quiet (first | (go_at_call 66; exact (HNA.out _).mono (fun _ _ h => ⟨h.1, _, h.2.symm⟩)) | (go_at_call 112; exact (HC2.out _).mono (fun _ _ h => ⟨h.1, _, h.2.symm⟩)))
     go_wp2
     go_roundw
     case rel => exact ⟨k + 1, by omega, by go_num, HX2, below_drewN HBEL.out _⟩
     case measure => simp [intOf]; omega
  ·obtain rfl : k = n := by omega
   have HNAMES : Hid (namesOk P = true) := Lib.hid (by
    have h1 := HX.out
    rw [HN.out] at h1
    have h2 := HN.out
    rw [namesOk, h1]; simp; omega)
   have HBEL := Lib.hid hbel
   clear hbw hbel
   go_wp2
   clear c0
   go_loopw [4] (fun i wr => ∃ j : Nat, j ≤ m ∧ i = .int .i64 j ∧ Hid (subsTo k Q j = true) ∧ Below (w.heap.size + 1) (w.alloc (.cells #[.slice A k ca, .slice B m cb] 39)) wr) (fun i _ => m - (intOf i).toNat)
   case atStart => exact ⟨0, Nat.zero_le _, rfl, Lib.hid rfl, HBEL.out⟩
   case round =>
    obtain ⟨j, hj, rfl, HX2, hbel⟩ := hrel
    have c0 : wr.cell? ⟨w.heap.size, 0, none⟩ = some (.slice A k ca) := by rw [hbel.cell (p := ⟨w.heap.size, 0, none⟩) (by simp)]; simp
    have c1 : wr.cell? ⟨w.heap.size, 1, none⟩ = some (.slice B m cb) := by rw [hbel.cell (p := ⟨w.heap.size, 1, none⟩) (by simp)]; simp
    have hbw : Below w.heap.size w wr := ((Below.refl _ _).alloc (Nat.le_refl _) _).trans (hbel.mono (by omega))
    by_cases hlt : j < m
    ·have hHS := HH.out.below (Nat.le_refl _) hbw
     obtain ⟨g, o, rfl, hg, hcell, hcell2⟩ := hHS.b.cellAt hlt
     have hin := hHS.in64.get j
     have HBAD : Hid (subOk k (Q.getD j (0, 0)) = false → r = false) := Lib.hid (by
      intro h; rw [← HR.out]
      refine HNS.out ?_
      rw [subsOk, ← HN.out, subs_bad k Q j (by have := HM.out; omega) h]; simp)
     have HG : Hid (subOk k (Q.getD j (0, 0)) = true → subsTo k Q (j + 1) = true) := Lib.hid (by intro h; rw [subsTo_succ k Q j (by have := HM.out; omega), HX2.out, h]; rfl)
     have HS : Hid (subOk k (Q.getD j (0, 0)) = (decide (0 ≤ (Q.getD j (0, 0)).1 ∧ (Q.getD j (0, 0)).1 < k) && decide (0 ≤ (Q.getD j (0, 0)).2 ∧ (Q.getD j (0, 0)).2 < k) && decide ((Q.getD j (0, 0)).1 ≠ (Q.getD j (0, 0)).2))) := Lib.hid rfl
     obtain ⟨s, hs⟩ : ∃ s, s = subOk k (Q.getD j (0, 0)) := ⟨_, rfl⟩
     rw [← hs] at HBAD HG HS
     obtain ⟨x, hx⟩ : ∃ x, x = (Q.getD j (0, 0)).1 := ⟨_, rfl⟩
     obtain ⟨y, hy⟩ : ∃ y, y = (Q.getD j (0, 0)).2 := ⟨_, rfl⟩
     rw [← hx, ← hy] at hin HS
     rw [← hx] at hcell
     rw [← hy] at hcell2
     have HBEL2 := Lib.hid hbel
     have HBW := Lib.hid hbw
     clear hs hx hy hHS hbel hbw
     have HIX := Lib.hid (in_range x k (by omega))
     have HIY := Lib.hid (in_range y k (by omega))
     cases h1 : inI x 0 ((k : Int) - 1) with
     | false =>
      have HI := Lib.hid h1
      have HQ : Hid (r = false) := Lib.hid (HBAD.out (by rw [HS.out, ← HIX.out, h1]; rfl))
      clear h1
      go_wp2
      go_quiet ((go_at_call 32; exact (l1In_any _ _ _ _ HI.out _).mono (fun _ _ h => ⟨h.1, _, h.2.symm⟩)))
      go_wp2
      go_ret
      exact ⟨ret_bool HQ.out.symm, below_drewN HBW.out _⟩
     | true =>
      have HI := Lib.hid h1
      cases h2 : inI y 0 ((k : Int) - 1) with
      | false =>
       have HI2 := Lib.hid h2
       have HQ : Hid (r = false) := Lib.hid (HBAD.out (by rw [HS.out, ← HIX.out, ← HIY.out, h1, h2]; rfl))
       clear h1 h2
       go_wp2
       go_quiet ((go_at_call 32; exact (l1In_any _ _ _ _ (by first | exact HI.out | exact HI2.out) _).mono (fun _ _ h => ⟨h.1, _, h.2.symm⟩)))
       go_wp2
       go_ret
       exact ⟨ret_bool HQ.out.symm, below_drewN HBW.out _⟩
      | true =>
       have HI2 := Lib.hid h2
       by_cases h3 : x = y
       ·have HQ : Hid (r = false) := Lib.hid (HBAD.out (by rw [HS.out, ← HIX.out, ← HIY.out, h1, h2, h3]; simp))
        have he : (x == y) = true := by simpa using h3
        clear h1 h2 h3
        go_wp2
        go_quiet ((go_at_call 32; exact (l1In_any _ _ _ _ (by first | exact HI.out | exact HI2.out) _).mono (fun _ _ h => ⟨h.1, _, h.2.symm⟩)))
        go_wp2
        go_ret
        exact ⟨ret_bool HQ.out.symm, below_drewN HBW.out _⟩
       ·have HX3 : Hid (subsTo k Q (j + 1) = true) := Lib.hid (HG.out (by rw [HS.out, ← HIX.out, ← HIY.out, h1, h2]; simpa using h3))
        have he : (x == y) = false := by simpa using h3
        clear h1 h2 h3
        go_wp2
        go_quiet ((go_at_call 32; exact (l1In_any _ _ _ _ (by first | exact HI.out | exact HI2.out) _).mono (fun _ _ h => ⟨h.1, _, h.2.symm⟩)))
        go_wp2
        go_roundw
        case rel => exact ⟨j + 1, by omega, by go_num, HX3, below_drewN HBEL2.out _⟩
        case measure => simp [intOf]; omega
    ·obtain rfl : j = m := by omega
     have HSUBS : Hid (subsOk k Q = true) := Lib.hid (by
      have h1 := HX2.out
      have h2 := HM.out
      rw [subsTo, List.take_of_length_le (by omega)] at h1
      rw [subsOk, h1]; simp; omega)
     obtain ⟨hpin, hq16⟩ := subsOk_pin HSUBS.out
     have hpin2 : PIn P.length Q := by rw [← HN.out]; exact hpin
     have HUP := Lib.hid (l3Up_any P Q (by have := HN.out; omega) (by have := HN.out; omega) (by omega) hpin2 _ _ wr (HH.out.below (Nat.le_refl _) hbw))
     rw [← HN.out] at HUP
     have HOKC : Hid (okS P Q = !circ k (clo k (prs Q))) := Lib.hid (by rw [okS, HNAMES.out, ← HN.out, HSUBS.out]; simp)
     have hlt2 := fun i => clo_lt hpin.inR i
     have hcl := clo_len k (prs Q)
     obtain ⟨U, hU⟩ : ∃ U, U = clo k (prs Q) := ⟨_, rfl⟩
     rw [← hU] at HUP HOKC hlt2 hcl
     have hp8 := pow8 (n := k) (by omega)
     have HLT : Hid (∀ i, U.getD i 0 < 65536) := Lib.hid (fun i => by have := hlt2 i; omega)
     have HBW := Lib.hid hbw
     have HCL := Lib.hid hcl
     clear hU hpin hpin2 hq16 hlt2 hbw hbel hcl
     go_wp2_with (go_at_call 113; refine HUP.out.mono ?_; rintro e w1 ⟨uv, rfl, hown, hb1⟩; obtain ⟨gu, cu, rfl, hgu, hgs⟩ := own_shape hown (by intro e; have := hown.1; rw [e] at this; simp at this; omega); have HOWN := Lib.hid hown; clear hown)
     go_loop [6] (fun i => ∃ h : Nat, h ≤ k ∧ i = .int .i64 h ∧ Hid (∀ a b, a < h → b < a → ¬ ((U.getD b 0).testBit a = true ∧ (U.getD a 0).testBit b = true))) (fun i => k - (intOf i).toNat)
     case atStart => exact ⟨0, Nat.zero_le _, rfl, Lib.hid (fun a b h => by omega)⟩
     case round =>
      obtain ⟨h, hh, rfl, HY⟩ := hrel
      by_cases hlt : h < k
      ·obtain ⟨d0, _⟩ := in_cell HOWN.out hlt
       go_wp2
       go_loop [7] (fun i => ∃ l : Nat, l ≤ h ∧ i = .int .i64 l ∧ Hid (∀ b, b < l → ¬ ((U.getD b 0).testBit h = true ∧ (U.getD h 0).testBit b = true))) (fun i => h - (intOf i).toNat)
       case atStart => exact ⟨0, Nat.zero_le _, rfl, Lib.hid (fun b h => by omega)⟩
       case round =>
        obtain ⟨l, hl, rfl, HZ⟩ := hrel
        by_cases hlt2 : l < h
        ·obtain ⟨d1, _⟩ := in_cell HOWN.out (show l < k by omega)
         have HT : Hid ((U.getD h 0).testBit l = true → (U.getD l 0).testBit h = true → r = false) := Lib.hid (fun e2 e1 => by rw [← HR.out, HOKC.out, circ_true hlt hlt2 e1 e2]; rfl)
         have HF : Hid (¬ ((U.getD l 0).testBit h = true ∧ (U.getD h 0).testBit l = true) → ∀ b, b < l + 1 → ¬ ((U.getD b 0).testBit h = true ∧ (U.getD h 0).testBit b = true)) := Lib.hid (fun e b hb => by
          by_cases hbl : b = l
          ·subst hbl; exact e
          ·exact HZ.out b (by omega))
         have HI1 := Lib.hid (hasI_nat (U.getD h 0) l (by omega))
         have HI2 := Lib.hid (hasI_nat (U.getD l 0) h (by omega))
         obtain ⟨s, hs⟩ : ∃ s, s = U.getD l 0 := ⟨_, rfl⟩
         obtain ⟨t, ht⟩ : ∃ t, t = U.getD h 0 := ⟨_, rfl⟩
         rw [← hs] at d1 HI2
         rw [← ht] at d0 HI1
         rw [← hs, ← ht] at HT HF
         have HTT := Lib.hid ht
         clear hs ht
         cases h1 : t.testBit l with
         | false =>
          have HD : Hid (hasI t l = false) := Lib.hid (HI1.out.trans h1)
          have HF2 := Lib.hid (HF.out (by rw [h1]; simp))
          clear h1
          go_wp2_with (go_at_call 102; refine (l2Has_any _ _ _ HD.out _).mono ?_; rintro e w2 ⟨rfl, rfl⟩)
          go_round
          case rel => exact ⟨l + 1, by omega, by go_num, Lib.hid (by have := HF2.out; rw [HTT.out] at this; exact this)⟩
          case measure => simp [intOf]; omega
         | true =>
          have HD : Hid (hasI t l = true) := Lib.hid (HI1.out.trans h1)
          cases h2 : s.testBit h with
          | false =>
           have HD2 : Hid (hasI s h = false) := Lib.hid (HI2.out.trans h2)
           have HF2 := Lib.hid (HF.out (by rw [h2]; simp))
           clear h1 h2
           go_wp2_with (go_at_call 102; refine (l2Has_any _ _ _ (by first | exact HD.out | exact HD2.out) _).mono ?_; rintro e w2 ⟨rfl, rfl⟩)
           go_round
           case rel => exact ⟨l + 1, by omega, by go_num, Lib.hid (by have := HF2.out; rw [HTT.out] at this; exact this)⟩
           case measure => simp [intOf]; omega
          | true =>
           have HD2 : Hid (hasI s h = true) := Lib.hid (HI2.out.trans h2)
           have HQ := Lib.hid (HT.out h1 h2)
           clear h1 h2
           go_wp2_with (go_at_call 102; refine (l2Has_any _ _ _ (by first | exact HD.out | exact HD2.out) _).mono ?_; rintro e w2 ⟨rfl, rfl⟩)
           go_ret
           exact ⟨ret_bool HQ.out.symm, HBW.out.trans (hb1.mono HBW.out.size)⟩
        ·obtain rfl : l = h := by omega
         go_wp2
         go_round
         case rel =>
          refine ⟨l + 1, by omega, by go_num, Lib.hid (fun a b ha hb => ?_)⟩
          by_cases hal : a = l
          ·subst hal; exact HZ.out b hb
          ·exact HY.out a b (by omega) hb
         case measure => simp [intOf]; omega
      ·obtain rfl : h = k := by omega
       have HQ : Hid (r = true) := Lib.hid (by rw [← HR.out, HOKC.out, circ_false (fun a b ha hb => HY.out a b ha hb)]; rfl)
       go_wp2
       go_ret
       exact ⟨ret_bool HQ.out.symm, HBW.out.trans (hb1.mono HBW.out.size)⟩
end Go.Proofs.YtkkmjaggebjcbaaGreat.sorts
/-
 THE MODEL's FUNCTIONS OF SORTS: AboveSort, BelowSort, KindOfSort, LeastSorts, GreatestSorts, CommonSorts.
-/
namespace Go.Proofs.YtkkmjaggebjcbaaGreat.sortg
open Go.ChangeShapes Go.WideShapes Go.ChangeAt Go.RowKit
open mem split strl subs sortn setm sets sortm sortp sorti sortf sortu sorts

theorem ok_ne {P : List (List UInt8)} {Q : List (Int × Int)} (h : okS P Q = true) : ∀ p ∈ Q, p.1 ≠ p.2 := by
 simp only [okS, subsOk, subOk, Bool.and_eq_true, List.all_eq_true, decide_eq_true_eq] at h
 intro p hp
 exact (h.1.2.2 p hp).2
end Go.Proofs.YtkkmjaggebjcbaaGreat.sortg
/-
 THE MODEL's FUNCTIONS OF SIGNATURES: l4Arity, l4Decls.
-/
namespace Go.Proofs.YtkkmjaggebjcbaaGreat.sigl
open Go.ChangeShapes Go.WideShapes Go.ChangeAt Go.RowKit
open mem split strl join subs sortn setm sets sortm sortp sorti sortf sortu sortg rowl sigm sigs sigi sigj

/-- spec.l4Arity -/
theorem l4Arity_any (l : List UInt8) (D : List (List Int × Int)) (hD : 1 ≤ D.length) (v : Value) (a b : Bool) (u : Int) (w : World) {lo : Nat} (h : HasD lo w v D) :
  Calls Tryz.prog 74 #[.agg #[.string (bstr l), v, .bool a, .bool b, .int .i64 u]] w fun e w' => e = .returned (.int .i64 ((hd0 D).1.length : Int)) ∧ Below w.heap.size w w' := by
 obtain ⟨A, c, rfl, h⟩ := HasR.shape h rfl
 obtain ⟨g, o, A2, c2, rfl, _, hg, hc0, hc1, hh, _, _⟩ := decl_at h (j := 0) (by omega)
 have hd : D.getD 0 default = hd0 D := rfl
 rw [hd, show o + 0 * 2 = o by omega] at hc0
 rw [hd] at hh
 have hl := hh.has.len.2
 have hln := h.len.2.1
 obtain ⟨m, hm⟩ : ∃ m, m = (hd0 D).1.length := ⟨_, rfl⟩
 rw [← hm] at hc0 hl ⊢
 obtain ⟨n, hn⟩ : ∃ n, n = D.length := ⟨_, rfl⟩
 rw [← hn] at hD hln ⊢
 clear h hh hd hm hc1 hn
 go_enter Tryz.func74, Tryz.ntmps74
 go_wp2
 go_ret
 exact ⟨rfl, (Below.refl _ _).alloc (Nat.le_refl _) _⟩
theorem kD_point {κ : Int → Nat} {l m : List Int} {x y : Int} : kD κ (l, x) = kD κ (m, y) ↔ l.length = m.length ∧ (∀ q, q < l.length → κ (l.getD q 0) = κ (m.getD q 0)) ∧ κ x = κ y := by
 simp only [kD, Prod.mk.injEq]
 constructor
 ·rintro ⟨h1, h2⟩
  have hl : l.length = m.length := by have := congrArg List.length h1; simpa using this
  refine ⟨hl, fun q hq => ?_, h2⟩
  have h3 : (l.map κ)[q]? = (m.map κ)[q]? := by rw [h1]
  simp only [List.getElem?_map, List.getElem?_eq_getElem hq, List.getElem?_eq_getElem (show q < m.length by omega), Option.map_some, Option.some.injEq] at h3
  simpa [List.getD, List.getElem?_eq_getElem hq, List.getElem?_eq_getElem (show q < m.length by omega)] using h3
 ·rintro ⟨hl, h1, h2⟩
  refine ⟨List.ext_getElem (by simpa using hl) (fun q hq1 hq2 => ?_), h2⟩
  have hq : q < l.length := by simpa using hq1
  have := h1 q hq
  simpa [List.getD, List.getElem?_eq_getElem hq, List.getElem?_eq_getElem (show q < m.length by omega)] using this
theorem inI_inN {n : Nat} {x : Int} : inI x 0 ((n : Int) - 1) = inN n x := by
 simp only [inI, inN, decide_eq_decide]; omega
set_option maxRecDepth 20000 in
set_option maxHeartbeats 8000000 in
/-- spec.l4Decls -/
theorem l4Decls_any (P : List (List UInt8)) (Q : List (Int × Int)) (hok : okS P Q = true) (va vb : Value) (C : Option Addr) (oc cc : Nat) (nm : List UInt8) (D : List (List Int × Int)) (vd : Value) (a b : Bool) (u : Int) (r : Bool) (hr : declsOk P.length (κK P.length Q) D = r) (w : World) {lo : Nat} (hS : HasS w va vb P Q) (hD : HasD lo w vd D) :
  Calls Tryz.prog 67 #[.agg #[va, vb, .slice C oc cc], .agg #[.string (bstr nm), vd, .bool a, .bool b, .int .i64 u]] w fun e w' => e = .returned (.bool r) ∧ Below w.heap.size w w' := by
 obtain ⟨p1, p2, p3, p4, p5⟩ := okS_parts hok
 have HKI := Lib.hid (fun W (hW : Below w.heap.size w W) => l3Kinds_any P Q p1 p2 (by omega) p3 (ok_ne hok) va vb W (hS.below (Nat.le_refl _) hW))
 have hKl : (kin P.length (prs Q)).length = P.length := kin_len _ _
 obtain ⟨n, hn⟩ : ∃ n, n = P.length := ⟨_, rfl⟩
 have HNP := Lib.hid hn
 obtain ⟨A, ca, B, cb, rfl, rfl, hla, hlb, _⟩ := hS.shape
 rw [← hn] at hr HKI hKl p1 p2 p3 ⊢
 obtain ⟨K, hK⟩ : ∃ K, K = kin n (prs Q) := ⟨_, rfl⟩
 have hκ : ∀ x, κK n Q x = K.getD x.toNat 0 := fun x => by rw [κK, hK]
 rw [← hK] at HKI hKl
 obtain ⟨κ, hκd⟩ : ∃ κ, κ = κK n Q := ⟨_, rfl⟩
 rw [← hκd] at hr hκ
 have HKAP := Lib.hid hκ
 clear hS hok p3 p4 p5 hn hK hκd hκ
 obtain ⟨dn, hdn⟩ : ∃ dn, dn = D.length := ⟨_, rfl⟩
 obtain ⟨E, ce, rfl, hD⟩ := HasR.shape hD hdn.symm
 have hdl := hD.len.2.1
 have HN := Lib.hid hdn
 have HR := Lib.hid hr
 clear hdn hr
 by_cases hlo : dn < 1
 ·have HR2 : Hid (r = false) := Lib.hid (by rw [← HR.out, declsOk]; have := HN.out; simp; omega)
  clear hD
  go_enter Tryz.func67, Tryz.ntmps67
  go_wp2
  go_ret
  exact ⟨ret_bool HR2.out.symm, ((Below.refl _ _).alloc (Nat.le_refl _) _).alloc (by simp) _⟩
 by_cases hhi : 4 < dn
 ·have HR2 : Hid (r = false) := Lib.hid (by rw [← HR.out, declsOk]; have := HN.out; simp; omega)
  clear hD
  go_enter Tryz.func67, Tryz.ntmps67
  go_wp2
  go_ret
  exact ⟨ret_bool HR2.out.symm, ((Below.refl _ _).alloc (Nat.le_refl _) _).alloc (by simp) _⟩
 obtain ⟨g, o, A2, c2, rfl, _, hg, hc0, hc1, hh, hi1, hi2⟩ := decl_at hD (j := 0) (by omega)
 have hd : D.getD 0 default = hd0 D := rfl
 rw [hd, show o + 0 * 2 = o by omega] at hc0 hc1
 rw [hd] at hh hi1 hi2
 have hml := hh.has.len.2
 obtain ⟨L0, hL0⟩ : ∃ L, L = (hd0 D).1 := ⟨_, rfl⟩
 obtain ⟨x0, hx0⟩ : ∃ x, x = (hd0 D).2 := ⟨_, rfl⟩
 have HHD : Hid (hd0 D = (L0, x0)) := Lib.hid (by rw [hL0, hx0])
 rw [← hL0] at hc0 hh hml
 rw [← hx0] at hc1
 obtain ⟨m, hm⟩ : ∃ m, m = L0.length := ⟨_, rfl⟩
 rw [← hm] at hc0 hh hml
 have HM := Lib.hid hm
 have HHL := Lib.hid hh.has
 have HHDD := Lib.hid hD
 clear hd hL0 hx0 hh hi1 hi2 hm hD
 by_cases hm3 : 3 < m
 ·have HR2 : Hid (r = false) := Lib.hid (by
   rw [← HR.out]
   refine declsOk_bad (j := 0) (by have := HN.out; omega) (.inl ?_)
   have e : D.getD 0 default = hd0 D := rfl
   rw [e, HHD.out, okD]
   have := HM.out
   simp; omega)
  go_enter Tryz.func67, Tryz.ntmps67
  go_wp2
  go_ret
  exact ⟨ret_bool HR2.out.symm, ((Below.refl _ _).alloc (Nat.le_refl _) _).alloc (by simp) _⟩
 go_enter Tryz.func67, Tryz.ntmps67
 go_wp2_with fail
 refine (HKI.out _ (((Below.refl _ _).alloc (Nat.le_refl _) _).alloc (by simp) _)).mono ?_
 rintro e w1 ⟨kv, rfl, hkv, hb1⟩
 obtain ⟨KA, kc, rfl, hkh⟩ := (Has.of_own hkv).shape (n := n) (by rw [ivs_len, nats_len]; exact hKl)
 have hbw1 : Below w.heap.size w w1 := (((Below.refl _ _).alloc (Nat.le_refl _) _).alloc (by simp) _).trans (hb1.mono (by simp; omega))
 have e1 : w1.cell? ⟨w.heap.size + 1, 1, none⟩ = some (.slice (some ⟨g, o, none⟩) dn ce) := by rw [hb1.cell (p := ⟨w.heap.size + 1, 1, none⟩) (by simp)]; simp
 have hs1 : w.heap.size + 1 < w1.heap.size := by have := hb1.size; simp at this; omega
 have HKH := Lib.hid hkh
 clear hkv hb1 hkh
 rw [← hbw1.cell (p := ⟨g, o, none⟩) hg] at hc0
 rw [← hbw1.cell (p := ⟨g, o + 1, none⟩) hg] at hc1
 go_wp2_with fail
 generalize hW3 : w1.alloc (.cells #[.slice A2 m c2, .int .i64 x0] 123) = W3
 have hb13 : Below w1.heap.size w1 W3 := by rw [← hW3]; exact (Below.refl _ _).alloc (Nat.le_refl _) _
 have hs3 : W3.heap.size = w1.heap.size + 1 := by rw [← hW3]; simp
 have hbw3 : Below w.heap.size w W3 := hbw1.trans (hb13.mono hbw1.size)
 have f0 : W3.cell? ⟨w1.heap.size, 0, none⟩ = some (.slice A2 m c2) := by rw [← hW3]; simp
 have f1 : W3.cell? ⟨w1.heap.size, 1, none⟩ = some (.int .i64 x0) := by rw [← hW3]; simp
 have E1 : W3.cell? ⟨w.heap.size + 1, 1, none⟩ = some (.slice (some ⟨g, o, none⟩) dn ce) := (hb13.cell (by exact hs1)).trans e1
 have HK3 := Lib.hid (HKH.out.below (Nat.le_refl _) hb13)
 have HL3 := Lib.hid (HHL.out.below (Nat.le_refl _) hbw3)
 have HD3 := Lib.hid (HHDD.out.below RD_steady (Nat.le_refl _) hbw3)
 have HBW3 := Lib.hid hbw3
 clear hc0 hc1 e1 hW3 hb13 hbw3 hbw1
 go_loopw [7] (fun i wr => ∃ k : Nat, k ≤ dn ∧ i = .int .i64 k ∧ Hid (∀ j, j < k → okD n (D.getD j default) = true ∧ kD κ (D.getD j default) = kD κ (hd0 D)) ∧ Below W3.heap.size W3 wr) (fun i _ => dn - (intOf i).toNat)
 case atStart => exact ⟨0, Nat.zero_le _, rfl, Lib.hid (fun j hj => by omega), Below.refl _ _⟩
 case round =>
  obtain ⟨k, hk, rfl, HALL, hbel⟩ := hrel
  have hszr := hbel.size
  have hzr : w1.heap.size < wr.heap.size := by omega
  have hzr0 : w.heap.size + 1 < wr.heap.size := by omega
  have E1r : wr.cell? ⟨w.heap.size + 1, 1, none⟩ = some (.slice (some ⟨g, o, none⟩) dn ce) := (hbel.cell (by show w.heap.size + 1 < W3.heap.size; omega)).trans E1
  have f0r : wr.cell? ⟨w1.heap.size, 0, none⟩ = some (.slice A2 m c2) := (hbel.cell (by show w1.heap.size < W3.heap.size; omega)).trans f0
  have f1r : wr.cell? ⟨w1.heap.size, 1, none⟩ = some (.int .i64 x0) := (hbel.cell (by show w1.heap.size < W3.heap.size; omega)).trans f1
  by_cases hlt : k < dn
  ·obtain ⟨g', o', A3, c3, hge, _, hg', hc0, hc1, hh, hi1, hi2⟩ := decl_at HD3.out hlt
   simp only [Option.some.injEq, Addr.mk.injEq, and_true] at hge
   obtain ⟨rfl, rfl⟩ := hge
   rw [← hbel.cell (p := ⟨g, o + k * 2, none⟩) hg'] at hc0
   rw [← hbel.cell (p := ⟨g, o + k * 2 + 1, none⟩) hg'] at hc1
   have HBAD : Hid (okD n (D.getD k default) = false ∨ ¬ kD κ (D.getD k default) = kD κ (hd0 D) → r = false) := Lib.hid (fun hb => by rw [← HR.out]; exact declsOk_bad (by have := HN.out; omega) hb)
   have HGOOD : Hid (okD n (D.getD k default) = true → kD κ (D.getD k default) = kD κ (hd0 D) → ∀ j, j < k + 1 → okD n (D.getD j default) = true ∧ kD κ (D.getD j default) = kD κ (hd0 D)) := Lib.hid (fun h1 h2 j hj => by
    by_cases e : j = k
    ·subst e; exact ⟨h1, h2⟩
    ·exact HALL.out j (by omega))
   have HFST : Hid (k = 0 ∨ okD n (L0, x0) = true) := Lib.hid (by
    by_cases e : k = 0
    ·exact .inl e
    ·have := (HALL.out 0 (by omega)).1
     have e2 : D.getD 0 default = hd0 D := rfl
     rw [e2, HHD.out] at this
     exact .inr this)
   have HEQ0 : Hid (k = 0 → D.getD k default = (L0, x0)) := Lib.hid (fun e => by subst e; rw [← HHD.out]; rfl)
   rw [HHD.out] at HBAD HGOOD
   obtain ⟨⟨l, x⟩, hd⟩ : ∃ d, d = D.getD k default := ⟨_, rfl⟩
   rw [← hd] at hc0 hc1 hh hi1 hi2 HBAD HGOOD HEQ0
   have hli := hh.has.len.2
   obtain ⟨m2, hm2⟩ : ∃ m2, m2 = l.length := ⟨_, rfl⟩
   rw [← hm2] at hc0 hh hli
   have HM2 := Lib.hid hm2
   have HHR := Lib.hid hh.has
   have HI := Lib.hid (And.intro hi1 hi2)
   clear hh hi1 hi2 hd hm2
   by_cases hlen : m2 = m
   ·subst hlen
    have HLI := Lib.hid (fun (y : Int) r hr W => l1In_any y 0 ((n : Int) - 1) r hr W)
    simp only [inI_inN] at HLI
    cases hin : inN n x with
    | false =>
     have HR2 := Lib.hid (HBAD.out (.inl (by simp [okD, hin])))
     have HL1 := Lib.hid (fun W => HLI.out x false hin W)
     clear hin
     go_wp2_with fail
     refine (HL1.out _).mono ?_
     rintro e w2 ⟨rfl, rfl⟩
     go_wp2
     go_ret
     exact ⟨ret_bool HR2.out.symm, (HBW3.out.trans (hbel.mono HBW3.out.size)).alloc (by have := HBW3.out.size; omega) _⟩
    | true =>
     have HL1 := Lib.hid (fun W => HLI.out x true hin W)
     have HINX := Lib.hid hin
     clear hin
     go_wp2_with fail
     refine (HL1.out _).mono ?_
     rintro e w2 ⟨rfl, rfl⟩
     go_wp2_with fail
     generalize hW8 : wr.alloc (.cells #[.slice A3 m2 c3, .int .i64 x] 123) = W8
     have hb38 : Below W3.heap.size W3 W8 := by rw [← hW8]; exact hbel.alloc hszr _
     have hs8 : W8.heap.size = wr.heap.size + 1 := by rw [← hW8]; simp
     have h0 : W8.cell? ⟨wr.heap.size, 0, none⟩ = some (.slice A3 m2 c3) := by rw [← hW8]; simp
     have h1 : W8.cell? ⟨wr.heap.size, 1, none⟩ = some (.int .i64 x) := by rw [← hW8]; simp
     have F0 : W8.cell? ⟨w1.heap.size, 0, none⟩ = some (.slice A2 m2 c2) := (hb38.cell (by show w1.heap.size < W3.heap.size; omega)).trans f0
     have F1 : W8.cell? ⟨w1.heap.size, 1, none⟩ = some (.int .i64 x0) := (hb38.cell (by show w1.heap.size < W3.heap.size; omega)).trans f1
     have HK8 := Lib.hid (HK3.out.below (Nat.le_refl _) hb38)
     have HL8 := Lib.hid (HL3.out.below (Nat.le_refl _) hb38)
     have HR8 := Lib.hid (HHR.out.below (Nat.le_refl _) hb38)
     have HB38 := Lib.hid hb38
     have h8z : W3.heap.size ≤ W8.heap.size := hb38.size
     clear hW8 hb38 E1r f0r f1r hc0 hc1
     obtain ⟨wo, rfl⟩ : ∃ wo, wo = wr := ⟨wr, rfl⟩
     go_loopw [9] (fun i wr => ∃ q : Nat, q ≤ m2 ∧ i = .int .i64 q ∧ Hid (∀ j, j < q → inN n (l.getD j 0) = true ∧ κ (l.getD j 0) = κ (L0.getD j 0)) ∧ Below W8.heap.size W8 wr) (fun i _ => m2 - (intOf i).toNat)
     case atStart => exact ⟨0, Nat.zero_le _, rfl, Lib.hid (fun j hj => by omega), Below.refl _ _⟩
     case round =>
      obtain ⟨q, hq, rfl, HPT, hbq⟩ := hrel
      have h0q : wr.cell? ⟨wo.heap.size, 0, none⟩ = some (.slice A3 m2 c3) := (hbq.cell (by show wo.heap.size < W8.heap.size; omega)).trans h0
      have h1q : wr.cell? ⟨wo.heap.size, 1, none⟩ = some (.int .i64 x) := (hbq.cell (by show wo.heap.size < W8.heap.size; omega)).trans h1
      have F0q : wr.cell? ⟨w1.heap.size, 0, none⟩ = some (.slice A2 m2 c2) := (hbq.cell (by show w1.heap.size < W8.heap.size; omega)).trans F0
      have F1q : wr.cell? ⟨w1.heap.size, 1, none⟩ = some (.int .i64 x0) := (hbq.cell (by show w1.heap.size < W8.heap.size; omega)).trans F1
      have HFIN : Hid (Below w.heap.size w wr) := Lib.hid ((HBW3.out.trans (HB38.out.mono HBW3.out.size)).trans (hbq.mono (by have := HBW3.out.size; omega)))
      by_cases hqt : q < m2
      ·obtain ⟨gl, ol, rfl, hgl, hcl⟩ := HR8.out.cellAt hqt
       obtain ⟨gm, om, rfl, hgm, hcm⟩ := HL8.out.cellAt hqt
       rw [ivs_get l q (by have := HM2.out; omega), ← hbq.cell (p := ⟨gl, ol + q, none⟩) hgl] at hcl
       rw [ivs_get L0 q (by have := HM.out; omega), ← hbq.cell (p := ⟨gm, om + q, none⟩) hgm] at hcm
       have HFZ : Hid (inN n (l.getD q 0) = true → inN n (L0.getD q 0) = true) := Lib.hid (fun hy => by
        by_cases e : k = 0
        ·have e2 := HEQ0.out e
         rw [Prod.mk.injEq] at e2
         rw [← e2.1]; exact hy
        ·have h3 := HFST.out
         rcases h3 with h3 | h3
         ·exact absurd h3 e
         ·exact (okD_parts h3).2.2 q (by have := HM.out; show q < L0.length; omega))
       have HB1 : Hid (inN n (l.getD q 0) = false ∨ ¬ κ (l.getD q 0) = κ (L0.getD q 0) → r = false) := Lib.hid (fun hb => by
        rcases hb with hb | hb
        ·exact HBAD.out (.inl (okD_bad (by have := HM2.out; omega) hb))
        ·exact HBAD.out (.inr (fun e => hb ((kD_point.1 e).2.1 q (by have := HM2.out; omega)))))
       have HPT2 : Hid (inN n (l.getD q 0) = true → κ (l.getD q 0) = κ (L0.getD q 0) → ∀ j, j < q + 1 → inN n (l.getD j 0) = true ∧ κ (l.getD j 0) = κ (L0.getD j 0)) := Lib.hid (fun a1 a2 j hj => by
        by_cases e : j = q
        ·subst e; exact ⟨a1, a2⟩
        ·exact HPT.out j (by omega))
       obtain ⟨y, hy⟩ : ∃ y, y = l.getD q 0 := ⟨_, rfl⟩
       obtain ⟨z, hz⟩ : ∃ z, z = L0.getD q 0 := ⟨_, rfl⟩
       rw [← hy] at hcl HFZ HB1 HPT2
       rw [← hz] at hcm HFZ HB1 HPT2
       clear hy hz
       cases hyn : inN n y with
       | false =>
        have HR2 := Lib.hid (HB1.out (.inl hyn))
        have HL2 := Lib.hid (fun W => HLI.out y false hyn W)
        clear hyn
        go_wp2
        go_quiet ((go_at_call 32; exact (HL2.out _).mono (fun _ _ h => ⟨h.1, _, h.2.symm⟩)))
        go_wp2
        go_ret
        exact ⟨ret_bool HR2.out.symm, by first | exact HFIN.out | exact below_drewN HFIN.out _⟩
       | true =>
        have HL2 := Lib.hid (fun W => HLI.out y true hyn W)
        have hzn := HFZ.out hyn
        have HY := Lib.hid hyn
        have hyn2 : 0 ≤ y ∧ y < n := by simpa [inN] using hyn
        have hzn2 : 0 ≤ z ∧ z < n := by simpa [inN] using hzn
        obtain ⟨yn, rfl⟩ : ∃ yn : Nat, y = (yn : Int) := ⟨y.toNat, by omega⟩
        obtain ⟨zn, rfl⟩ : ∃ zn : Nat, z = (zn : Int) := ⟨z.toNat, by omega⟩
        obtain ⟨gk, ok, rfl, hgk, hky⟩ := HK8.out.cellAt (j := yn) (by omega)
        obtain ⟨gk2, ok2, hge, _, hkz⟩ := HK8.out.cellAt (j := zn) (by omega)
        simp only [Option.some.injEq, Addr.mk.injEq, and_true] at hge
        obtain ⟨rfl, rfl⟩ := hge
        rw [ivs_get _ yn (by rw [nats_len]; omega), nats_get, ← hbq.cell (p := ⟨gk, ok + yn, none⟩) hgk] at hky
        rw [ivs_get _ zn (by rw [nats_len]; omega), nats_get, ← hbq.cell (p := ⟨gk, ok + zn, none⟩) hgk] at hkz
        have HKY : Hid (κ (yn : Int) = K.getD yn 0) := Lib.hid (by rw [HKAP.out]; rfl)
        have HKZ : Hid (κ (zn : Int) = K.getD zn 0) := Lib.hid (by rw [HKAP.out]; rfl)
        obtain ⟨ky, hky'⟩ : ∃ ky, ky = K.getD yn 0 := ⟨_, rfl⟩
        obtain ⟨kz, hkz'⟩ : ∃ kz, kz = K.getD zn 0 := ⟨_, rfl⟩
        rw [← hky'] at hky HKY
        rw [← hkz'] at hkz HKZ
        have hyl : yn < n := by omega
        have hzl : zn < n := by omega
        clear hyn hzn hyn2 hzn2 hky' hkz'
        by_cases he : ky = kz
        ·subst he
         have HP := Lib.hid (HPT2.out HY.out (by rw [HKY.out, HKZ.out]))
         go_wp2
         go_quiet ((go_at_call 32; exact (HL2.out _).mono (fun _ _ h => ⟨h.1, _, h.2.symm⟩)))
         go_wp2
         go_roundw
         case rel => exact ⟨q + 1, by omega, by go_num, HP, by first | exact hbq | exact below_drewN hbq _⟩
         case measure => simp [intOf]; omega
        ·have hne : ((ky : Int) != (kz : Int)) = true := by simp; omega
         have HR2 := Lib.hid (HB1.out (.inr (by rw [HKY.out, HKZ.out]; exact he)))
         clear he
         go_wp2
         go_quiet ((go_at_call 32; exact (HL2.out _).mono (fun _ _ h => ⟨h.1, _, h.2.symm⟩)))
         go_wp2
         go_ret
         exact ⟨ret_bool HR2.out.symm, by first | exact HFIN.out | exact below_drewN HFIN.out _⟩
      ·obtain rfl : q = m2 := by omega
       have hx0 : inN n x0 = true := by
        by_cases e : k = 0
        ·have e2 := HEQ0.out e
         rw [Prod.mk.injEq] at e2
         rw [← e2.2]; exact HINX.out
        ·rcases HFST.out with h3 | h3
         ·exact absurd h3 e
         ·exact (okD_parts h3).2.1
       have hx2 : 0 ≤ x ∧ x < n := by simpa [inN] using HINX.out
       have hx02 : 0 ≤ x0 ∧ x0 < n := by simpa [inN] using hx0
       have HOKD : Hid (okD n (l, x) = true) := Lib.hid (okD_good (by have := HM2.out; omega) HINX.out (fun j hj => (HPT.out j (by have := HM2.out; omega)).1))
       have HKK : Hid (κ x = κ x0 → kD κ (l, x) = kD κ (L0, x0)) := Lib.hid (fun e => kD_point.2 ⟨by have := HM2.out; have := HM.out; omega, fun j hj => (HPT.out j (by have := HM2.out; omega)).2, e⟩)
       have HKB : Hid (¬ κ x = κ x0 → r = false) := Lib.hid (fun hb => HBAD.out (.inr (fun e => hb (kD_point.1 e).2.2)))
       obtain ⟨xn, rfl⟩ : ∃ xn : Nat, x = (xn : Int) := ⟨x.toNat, by omega⟩
       obtain ⟨xn0, rfl⟩ : ∃ xn0 : Nat, x0 = (xn0 : Int) := ⟨x0.toNat, by omega⟩
       obtain ⟨gk, ok, rfl, hgk, hky⟩ := HK8.out.cellAt (j := xn) (by omega)
       obtain ⟨gk2, ok2, hge, _, hkz⟩ := HK8.out.cellAt (j := xn0) (by omega)
       simp only [Option.some.injEq, Addr.mk.injEq, and_true] at hge
       obtain ⟨rfl, rfl⟩ := hge
       rw [ivs_get _ xn (by rw [nats_len]; omega), nats_get, ← hbq.cell (p := ⟨gk, ok + xn, none⟩) hgk] at hky
       rw [ivs_get _ xn0 (by rw [nats_len]; omega), nats_get, ← hbq.cell (p := ⟨gk, ok + xn0, none⟩) hgk] at hkz
       have HKY : Hid (κ (xn : Int) = K.getD xn 0) := Lib.hid (by rw [HKAP.out]; rfl)
       have HKZ : Hid (κ (xn0 : Int) = K.getD xn0 0) := Lib.hid (by rw [HKAP.out]; rfl)
       obtain ⟨ky, hky'⟩ : ∃ ky, ky = K.getD xn 0 := ⟨_, rfl⟩
       obtain ⟨kz, hkz'⟩ : ∃ kz, kz = K.getD xn0 0 := ⟨_, rfl⟩
       rw [← hky'] at hky HKY
       rw [← hkz'] at hkz HKZ
       have hyl : xn < n := by omega
       have hzl : xn0 < n := by omega
       clear hx0 hx2 hx02 hky' hkz'
       by_cases he : ky = kz
       ·subst he
        have HG := Lib.hid (HGOOD.out HOKD.out (HKK.out (by rw [HKY.out, HKZ.out])))
        go_wp2
        go_quiet (fail)
        go_wp2
        go_roundw
        case rel => exact ⟨k + 1, by omega, by go_num, (by rw [HHD.out]; exact HG), by first | exact HB38.out.trans (hbq.mono h8z) | exact below_drewN (HB38.out.trans (hbq.mono h8z)) _⟩
        case measure => simp [intOf]; omega
       ·have hne : ((ky : Int) != (kz : Int)) = true := by simp; omega
        have HR2 := Lib.hid (HKB.out (by rw [HKY.out, HKZ.out]; exact he))
        clear he
        go_wp2
        go_quiet (fail)
        go_wp2
        go_ret
        exact ⟨ret_bool HR2.out.symm, by first | exact HFIN.out | exact below_drewN HFIN.out _⟩
   ·have HR2 := Lib.hid (HBAD.out (.inr (fun e => hlen (by have := (kD_point.1 e).1; have := HM.out; have := HM2.out; omega))))
    have hne : ((m2 : Int) != (m : Int)) = true := by simp; omega
    clear hlen
    go_wp2
    go_ret
    exact ⟨ret_bool HR2.out.symm, (HBW3.out.trans (hbel.mono HBW3.out.size)).alloc (by have := HBW3.out.size; omega) _⟩
  ·obtain rfl : k = dn := by omega
   have HR2 : Hid (r = true) := Lib.hid (by rw [← HR.out]; exact declsOk_good (by have := HN.out; omega) (by have := HN.out; omega) (fun j hj => HALL.out j (by have := HN.out; omega)))
   go_wp2
   go_ret
   exact ⟨ret_bool HR2.out.symm, HBW3.out.trans (hbel.mono HBW3.out.size)⟩
end Go.Proofs.YtkkmjaggebjcbaaGreat.sigl
/-
 ROWS OF ONE's OWN OF A SIGNATURE, AND THE MARKS THAT THE LAWS WRITE INTO THEM.
-/
namespace Go.Proofs.YtkkmjaggebjcbaaGreat.tmk
open Go.ChangeShapes Go.WideShapes Go.ChangeAt Go.RowKit
open mem dec split strl join subs setm sortp sorti rowl sigm sigs sigt sigu tmq

/-- a row of one's own, in a block from lo on and below hi -/
def Rw (lo hi : Nat) (w : World) (e : TypeId) (sz : Nat) (v : Value) (n : Nat) : Prop := ∃ xs, w.ownsRow lo e sz v n xs ∧ ∀ g, v.ownBlock = some g → g < hi
def DecR (lo hi : Nat) (w : World) (v : Value) (ms : List Nat) : Prop := ∃ xs, w.ownsRow lo 123 2 v ms.length xs ∧ (∀ g, v.ownBlock = some g → g < hi) ∧ ∀ j, j < ms.length → ∃ va, xs[j * 2]? = some va ∧ Rw lo hi w 3 1 va (ms.getD j 0)
def OpR (lo hi : Nat) (w : World) (v : Value) (ms : List (List Nat)) : Prop := ∃ xs, w.ownsRow lo 113 5 v ms.length xs ∧ (∀ g, v.ownBlock = some g → g < hi) ∧ ∀ j, j < ms.length → ∃ va, xs[j * 5 + 1]? = some va ∧ DecR lo hi w va (ms.getD j [])
/-- a change of contents alone, which leaves the cells that hold slices -/
structure TyC (lo hi : Nat) (w w' : World) : Prop where
 os : w'.os = w.os
 tape : w'.tape = w.tape
 output : w'.output = w.output
 size : w.heap.size ≤ w'.heap.size
 block : ∀ k, k < w.heap.size → w'.heap[k]? = w.heap[k]? ∨ (lo ≤ k ∧ k < hi ∧ ∃ e cur cur', w.heap[k]? = some (.cells cur e (0, 0)) ∧ w'.heap[k]? = some (.cells cur' e (0, 0)) ∧ cur'.size = cur.size ∧ (e = 123 → ∀ i, cur'[i * 2]? = cur[i * 2]?) ∧ (e = 113 → ∀ i, cur'[i * 5 + 1]? = cur[i * 5 + 1]?))
theorem TyC.refl (lo hi : Nat) (w : World) : TyC lo hi w w := ⟨rfl, rfl, rfl, Nat.le_refl _, fun _ _ => .inl rfl⟩
theorem TyC.of_below {lo hi : Nat} {w w' : World} (h : Below w.heap.size w w') : TyC lo hi w w' := ⟨h.os, h.tape, h.output, h.size, fun k hk => .inl (h.block k hk)⟩
theorem TyC.trans {lo hi : Nat} {a b c : World} (h : TyC lo hi a b) (k : TyC lo hi b c) : TyC lo hi a c := by
 refine ⟨k.os.trans h.os, k.tape.trans h.tape, k.output.trans h.output, Nat.le_trans h.size k.size, fun i hi => ?_⟩
 rcases h.block i hi with h1 | ⟨h1, h2, e, cur, cur', h3, h4, h5, h6, h7⟩
 ·rcases k.block i (Nat.lt_of_lt_of_le hi h.size) with k1 | ⟨k1, k2, e, cur, cur', k3, k4, k5, k6, k7⟩
  ·exact .inl (k1.trans h1)
  ·exact .inr ⟨k1, k2, e, cur, cur', h1.symm.trans k3, k4, k5, k6, k7⟩
 ·rcases k.block i (Nat.lt_of_lt_of_le hi h.size) with k1 | ⟨k1, k2, e2, cur2, cur2', k3, k4, k5, k6, k7⟩
  ·exact .inr ⟨h1, h2, e, cur, cur', h3, k1.trans h4, h5, h6, h7⟩
  ·rw [h4] at k3
   simp only [Option.some.injEq, Obj.cells.injEq, and_true] at k3
   obtain ⟨rfl, rfl⟩ := k3
   exact .inr ⟨h1, h2, e, cur, cur2', h3, k4, k5.trans h5, fun he i => (k6 he i).trans (h6 he i), fun he i => (k7 he i).trans (h7 he i)⟩
theorem TyC.below {lo hi : Nat} {w w' : World} (h : TyC lo hi w w') (hl : lo ≤ w.heap.size) : Below lo w w' :=
 ⟨h.os, h.tape, h.output, h.size, fun k hk => by
  rcases h.block k (by omega) with h1 | ⟨h1, _⟩
  ·exact h1
  ·omega⟩
theorem TyC.chg {lo hi : Nat} {w w' : World} (h : TyC lo hi w w') : terml.Chg (List.range' lo (hi - lo)) w w' :=
 ⟨h.os, h.tape, h.output, h.size, fun k hk hn => by
  rcases h.block k hk with h1 | ⟨h1, h2, _⟩
  ·exact h1
  ·exact absurd (List.mem_range'.2 ⟨k - lo, by omega, by omega⟩) hn⟩
theorem take_at {cur : Array Value} {n i : Nat} (h : i < n) : (cur.toList.take n)[i]? = cur[i]? := by
 rw [List.getElem?_take_of_lt h, Array.getElem?_toList]
theorem own_tyc {lo lo' hi' n sz : Nat} {w w' : World} {e : TypeId} {v : Value} {xs : List Value} (h : w.ownsRow lo e sz v n xs) (hc : TyC lo' hi' w w') : ∃ ys, w'.ownsRow lo e sz v n ys ∧ (e = 123 → sz = 2 → ∀ i, i < n → ys[i * 2]? = xs[i * 2]?) ∧ (e = 113 → sz = 5 → ∀ i, i < n → ys[i * 5 + 1]? = xs[i * 5 + 1]?) := by
 rcases h.2 with ⟨h1, h2⟩ | ⟨g, cap, cur, rfl, hb, hg, hnc, hcm, hcs, htk⟩
 ·exact ⟨xs, ⟨h.1, .inl ⟨h1, h2⟩⟩, fun _ _ _ _ => rfl, fun _ _ _ _ => rfl⟩
 ·rcases hc.block g (Array.getElem?_eq_some_iff.1 hg).1 with k1 | ⟨_, _, e2, cur2, cur', k3, k4, k5, k6, k7⟩
  ·exact ⟨xs, ⟨h.1, .inr ⟨g, cap, cur, rfl, hb, k1.trans hg, hnc, hcm, hcs, htk⟩⟩, fun _ _ _ _ => rfl, fun _ _ _ _ => rfl⟩
  ·rw [hg] at k3
   simp only [Option.some.injEq, Obj.cells.injEq, and_true] at k3
   obtain ⟨rfl, rfl⟩ := k3
   have hle : n * sz ≤ cap * sz := Nat.mul_le_mul_right _ hnc
   refine ⟨cur'.toList.take (n * sz), ⟨by rw [List.length_take, Array.length_toList]; omega, .inr ⟨g, cap, cur', rfl, hb, k4, hnc, hcm, by omega, rfl⟩⟩, fun he hs i hi => ?_, fun he hs i hi => ?_⟩
   ·subst hs
    rw [take_at (by omega), ← htk, take_at (by omega)]
    exact k6 he i
   ·subst hs
    rw [take_at (by omega), ← htk, take_at (by omega)]
    exact k7 he i
theorem Rw.tyc {lo hi lo' hi' n sz : Nat} {w w' : World} {e : TypeId} {v : Value} (h : Rw lo hi w e sz v n) (hc : TyC lo' hi' w w') : Rw lo hi w' e sz v n := by
 obtain ⟨xs, h1, h2⟩ := h
 obtain ⟨ys, h3, _⟩ := own_tyc h1 hc
 exact ⟨ys, h3, h2⟩
theorem DecR.tyc {lo hi lo' hi' : Nat} {w w' : World} {v : Value} {ms : List Nat} (h : DecR lo hi w v ms) (hc : TyC lo' hi' w w') : DecR lo hi w' v ms := by
 obtain ⟨xs, h1, h2, h3⟩ := h
 obtain ⟨ys, k1, k2, _⟩ := own_tyc h1 hc
 refine ⟨ys, k1, h2, fun j hj => ?_⟩
 obtain ⟨va, e1, e2⟩ := h3 j hj
 exact ⟨va, (k2 rfl rfl j hj).trans e1, e2.tyc hc⟩
theorem OpR.tyc {lo hi lo' hi' : Nat} {w w' : World} {v : Value} {ms : List (List Nat)} (h : OpR lo hi w v ms) (hc : TyC lo' hi' w w') : OpR lo hi w' v ms := by
 obtain ⟨xs, h1, h2, h3⟩ := h
 obtain ⟨ys, k1, _, k2⟩ := own_tyc h1 hc
 refine ⟨ys, k1, h2, fun j hj => ?_⟩
 obtain ⟨va, e1, e2⟩ := h3 j hj
 exact ⟨va, (k2 rfl rfl j hj).trans e1, e2.tyc hc⟩
/-- one cell is written -/
theorem tyc_set {lo hi n sz g c : Nat} {w : World} {e : TypeId} {xs : List Value} (h : w.ownsRow lo e sz (.slice (some ⟨g, 0, none⟩) n c) n xs) (hlt : g < hi) (j : Nat) (u : Value) (hd : e = 123 → j % 2 = 1) (ho : e = 113 → j % 5 ≠ 1) : TyC lo hi w (w.setCell ⟨g, j, none⟩ u) := by
 rcases h.2 with ⟨h1, _⟩ | ⟨g', cap, cur, h1, hb, hg, hnc, hcm, hcs, htk⟩
 ·cases h1
 ·simp only [Value.slice.injEq, Option.some.injEq, Addr.mk.injEq, and_true, true_and] at h1
  obtain ⟨rfl, rfl⟩ := h1
  refine ⟨rfl, rfl, rfl, by simp [World.setCell], fun k hk => ?_⟩
  by_cases hkg : k = g
  ·subst hkg
   refine .inr ⟨hb, hlt, e, cur, cur.setIfInBounds j u, hg, ?_, by simp, fun he i => ?_, fun he i => ?_⟩
   ·simp [World.setCell, Array.getElem?_modify, hg]
   ·have := hd he
    exact Array.getElem?_setIfInBounds_ne (by omega)
   ·have := ho he
    exact Array.getElem?_setIfInBounds_ne (by omega)
  ·exact .inl (Below.heap_setCell w ⟨g, j, none⟩ u k hkg)
theorem tyc_grown {lo hi n sz g c : Nat} {w w' : World} {e : TypeId} {xs ys : List Value} (h : w.ownsRow lo e sz (.slice (some ⟨g, 0, none⟩) n c) n xs) (h' : w'.ownsRow lo e sz (.slice (some ⟨g, 0, none⟩) n c) n ys) (hg : w.grownBy w' (some g)) (hlt : g < hi) (hd : e ≠ 123) (ho : e ≠ 113) : TyC lo hi w w' := by
 refine ⟨hg.os, hg.tape, hg.output, hg.size, fun k hk => ?_⟩
 by_cases hkg : k = g
 ·subst hkg
  rcases h.2 with ⟨h1, _⟩ | ⟨g', cap, cur, h1, hb, hgc, hnc, hcm, hcs, htk⟩
  ·cases h1
  ·rcases h'.2 with ⟨h2, _⟩ | ⟨g2, cap2, cur2, h2, hb2, hgc2, hnc2, hcm2, hcs2, htk2⟩
   ·cases h2
   ·simp only [Value.slice.injEq, Option.some.injEq, Addr.mk.injEq, and_true, true_and] at h1 h2
    obtain ⟨rfl, rfl⟩ := h1
    obtain ⟨rfl, rfl⟩ := h2
    exact .inr ⟨hb, hlt, e, cur, cur2, hgc, hgc2, by omega, fun he => absurd he hd, fun he => absurd he ho⟩
 ·exact .inl (hg.block k hk (fun e => hkg (by injection e)))
theorem Rw.cases {lo hi n sz : Nat} {w : World} {e : TypeId} {v : Value} (h : Rw lo hi w e sz v n) : (v = .slice none 0 0 ∧ n = 0) ∨ ∃ g c xs, v = .slice (some ⟨g, 0, none⟩) n c ∧ w.ownsRow lo e sz (.slice (some ⟨g, 0, none⟩) n c) n xs ∧ g < hi := by
 obtain ⟨xs, h1, h2⟩ := h
 rcases h1.2 with ⟨k1, k2⟩ | ⟨g, cap, cur, rfl, r⟩
 ·exact .inl ⟨k1, k2⟩
 ·exact .inr ⟨g, cap, xs, rfl, h1, h2 g rfl⟩
theorem mInt_any {lo hi : Nat} (k n : Nat) (hn : n ≤ 2097152) (hk : k ≤ 1073741824) (v : Value) (w : World) (h : Rw lo hi w 3 1 v n) :
  Calls Tryz.prog 139 #[v, .int .i64 k] w fun e w' => e = .returned (.int .i64 ((k + n : Nat) : Int)) ∧ TyC lo hi w w' := by
 rcases h.cases with ⟨rfl, rfl⟩ | ⟨g, c, xs, rfl, ho, hlt⟩
 ·refine (intl.marks_none k 0 none w).mono ?_
  rintro e w' ⟨rfl, rfl⟩
  exact ⟨rfl, TyC.refl _ _ _⟩
 ·refine (intl.marks_any n k c g hn hk xs w lo ho).mono ?_
  rintro e w' ⟨rfl, ho', hg⟩
  exact ⟨rfl, tyc_grown ho ho' hg hlt (by decide) (by decide)⟩
theorem mStr_any {lo hi : Nat} (k n : Nat) (hn : n ≤ 2097152) (hk : k ≤ 1073741824) (v : Value) (w : World) (h : Rw lo hi w 9 1 v n) :
  Calls Tryz.prog 93 #[v, .int .i64 k] w fun e w' => e = .returned (.int .i64 ((k + n : Nat) : Int)) ∧ TyC lo hi w w' := by
 rcases h.cases with ⟨rfl, rfl⟩ | ⟨g, c, xs, rfl, ho, hlt⟩
 ·go_enter Tryz.func93, Tryz.ntmps93
  go_wp2
  go_loop [1, 5] (fun v i => v = .int .i64 (k : Int) ∧ i = .int .i64 0) (fun _ _ => 0)
  case atStart => exact ⟨rfl, rfl⟩
  case round =>
   obtain ⟨rfl, rfl⟩ := hrel
   go_wp2
   go_ret
   exact ⟨rfl, TyC.refl _ _ _⟩
 ·refine (strl.marks_any n k c g hn hk xs w lo ho).mono ?_
  rintro e w' ⟨rfl, ho', hg⟩
  exact ⟨rfl, tyc_grown ho ho' hg hlt (by decide) (by decide)⟩
theorem mSub_any {lo hi : Nat} (k n : Nat) (hn : n ≤ 2097152) (hk : k ≤ 1073741824) (v : Value) (w : World) (h : Rw lo hi w 163 2 v n) :
  Calls Tryz.prog 94 #[v, .int .i64 k] w fun e w' => e = .returned (.int .i64 ((k + 2 * n : Nat) : Int)) ∧ TyC lo hi w w' := by
 rcases h.cases with ⟨rfl, rfl⟩ | ⟨g, c, xs, rfl, ho, hlt⟩
 ·go_enter Tryz.func94, Tryz.ntmps94
  go_wp2
  go_loop [1, 5] (fun v i => v = .int .i64 (k : Int) ∧ i = .int .i64 0) (fun _ _ => 0)
  case atStart => exact ⟨rfl, rfl⟩
  case round =>
   obtain ⟨rfl, rfl⟩ := hrel
   go_wp2
   go_ret
   exact ⟨rfl, TyC.refl _ _ _⟩
 ·have HLT := Lib.hid hlt
  have hO0 := Lib.hid ho
  clear h ho
  go_enter Tryz.func94, Tryz.ntmps94
  go_wp2
  go_loopw [1, 5] (fun v i wr => ∃ (j : Nat) (ys : List Value), j ≤ n ∧ i = .int .i64 j ∧ v = .int .i64 ((k + 2 * j : Nat) : Int) ∧ Hid (wr.ownsRow lo 163 2 (.slice (some ⟨g, 0, none⟩) n c) n ys) ∧ Hid (TyC lo hi w wr)) (fun _ i _ => n - (intOf i).toNat)
  case atStart => exact ⟨0, xs, Nat.zero_le _, rfl, by go_num, hO0, Lib.hid (TyC.refl _ _ _)⟩
  case round =>
   obtain ⟨j, ys, hj, rfl, rfl, HO, HT⟩ := hrel
   by_cases hl : j < n
   ·obtain ⟨⟨v0, c0⟩, f0⟩ := own_get HO.out (i := j * 2) (by omega)
    obtain ⟨⟨v1, c1⟩, f1⟩ := own_get HO.out (i := j * 2 + 1) (by omega)
    go_wp2
    go_roundw
    case rel =>
     refine ⟨j + 1, _, by omega, by go_num, by go_num, Lib.hid (setCell_own2 HO.out (j * 2) _ _), Lib.hid ((HT.out.trans (tyc_set HO.out HLT.out (j * 2) _ (fun e => absurd e (by decide)) (fun e => absurd e (by decide)))).trans (tyc_set (setCell_own HO.out (j * 2) _) HLT.out (j * 2 + 1) _ (fun e => absurd e (by decide)) (fun e => absurd e (by decide))))⟩
    case measure => simp [intOf]; omega
   ·obtain rfl : j = n := by omega
    go_wp2
    go_ret
    exact ⟨ret_int (by omega), HT.out⟩
/-- how many marks declarations take -/
def mkD (ms : List Nat) : Nat := (ms.map (· + 1)).sum
theorem mkD_take {ms : List Nat} {j : Nat} (h : j < ms.length) : mkD (ms.take (j + 1)) = mkD (ms.take j) + (ms.getD j 0 + 1) := by
 unfold mkD
 rw [List.take_succ_eq_append_getElem h, List.map_append, List.sum_append]
 simp [List.getD, List.getElem?_eq_getElem h]
theorem mkD_le (ms : List Nat) (j : Nat) : mkD (ms.take j) ≤ mkD ms := by
 unfold mkD
 have e : (ms.map (· + 1)).sum = ((ms.take j).map (· + 1)).sum + ((ms.drop j).map (· + 1)).sum := by
  rw [← List.sum_append, ← List.map_append, List.take_append_drop]
 omega
theorem mDecl_any {lo hi : Nat} (k : Nat) (ms : List Nat) (hk : k + mkD ms ≤ 1073741824) (hm : ∀ m ∈ ms, m ≤ 2097152) (v : Value) (w : World) (h : DecR lo hi w v ms) :
  Calls Tryz.prog 95 #[v, .int .i64 k] w fun e w' => e = .returned (.int .i64 ((k + mkD ms : Nat) : Int)) ∧ TyC lo hi w w' := by
 have HD := Lib.hid h
 obtain ⟨n, hn⟩ : ∃ n, n = ms.length := ⟨_, rfl⟩
 have HN := Lib.hid hn
 have hnm : n ≤ mkD ms := by
  rw [hn]; unfold mkD
  have : ∀ l : List Nat, l.length ≤ (l.map (· + 1)).sum := fun l => by
   induction l with
   | nil => simp
   | cons a l ih => simp only [List.length_cons, List.map_cons, List.sum_cons]; omega
  exact this ms
 have HK := Lib.hid hk
 have HM := Lib.hid hm
 have hsh : ∃ A c, v = .slice A n c ∧ n ≤ 9223372036854775807 := by
  obtain ⟨xs, h1, _⟩ := h
  obtain ⟨A, c, e, hc⟩ := own_slice h1
  exact ⟨A, c, by rw [e, hn], by omega⟩
 obtain ⟨A, c, rfl, hnl⟩ := hsh
 clear h hn hk hm hnm
 go_enter Tryz.func95, Tryz.ntmps95
 go_wp2
 go_loopw [1, 5] (fun v i wr => ∃ (j : Nat), j ≤ n ∧ i = .int .i64 j ∧ v = .int .i64 ((k + mkD (ms.take j) : Nat) : Int) ∧ Hid (TyC lo hi w wr)) (fun _ i _ => n - (intOf i).toNat)
 case atStart => exact ⟨0, Nat.zero_le _, rfl, by simp [mkD], Lib.hid (TyC.refl _ _ _)⟩
 case round =>
  obtain ⟨j, hj, rfl, rfl, HT⟩ := hrel
  by_cases hl : j < n
  ·have hjm : j < ms.length := by have := HN.out; omega
   obtain ⟨xs, h1, h2, h3⟩ := HD.out.tyc HT.out
   obtain ⟨va, e1, e2⟩ := h3 j hjm
   have hne : xs ≠ [] := fun e => by rw [e] at e1; simp at e1
   obtain ⟨g, cap, hv, hgl, hgw⟩ := own_shape h1 hne
   simp only [Value.slice.injEq] at hv
   obtain ⟨rfl, hx9, rfl⟩ := hv
   clear hx9
   have hgh := h2 g rfl
   rw [← HN.out] at h1
   have c0 := (h1.cellAt (j * 2) (by omega)).trans e1
   have hkj := mkD_take hjm
   have hkl := mkD_le ms (j + 1)
   have hbd := HK.out
   have hma := HM.out _ (show ms.getD j 0 ∈ ms by rw [List.getD_eq_getElem?_getD, List.getElem?_eq_getElem hjm]; exact List.getElem_mem _)
   obtain ⟨q, hq⟩ : ∃ q, q = ms.getD j 0 := ⟨_, rfl⟩
   rw [← hq] at e2 hkj hma
   obtain ⟨kj, hkjd⟩ : ∃ kj, kj = k + mkD (ms.take j) := ⟨_, rfl⟩
   rw [← hkjd]
   have HC := Lib.hid (mInt_any (lo := lo) (hi := hi) kj q hma (by omega) va wr e2)
   have HO := Lib.hid h1
   have HGH := Lib.hid hgh
   have HKJ : Hid (kj + q + 1 = k + mkD (ms.take (j + 1)) ∧ kj + q + 1 ≤ 1073741824) := Lib.hid ⟨by omega, by omega⟩
   have hva : ∃ A2 c2, va = .slice A2 q c2 := by
    obtain ⟨ys, h9, _⟩ := e2
    obtain ⟨A2, c2, e, _⟩ := own_slice h9
    exact ⟨A2, c2, e⟩
   obtain ⟨A2, c2, rfl⟩ := hva
   have hkq : kj + q + 1 ≤ 1073741824 := HKJ.out.2
   clear h1 h2 h3 e1 e2 hne hgl hgw hgh hkj hkl hbd hma hq hkjd hjm
   go_wp2_with fail
   refine HC.out.mono ?_
   rintro e w2 ⟨rfl, ht2⟩
   obtain ⟨ys, ho2, _, _⟩ := own_tyc HO.out ht2
   have HO2 := Lib.hid ho2
   have HT2 := Lib.hid (HT.out.trans ht2)
   obtain ⟨⟨v1, c1⟩, f1⟩ := own_get ho2 (i := j * 2 + 1) (by omega)
   clear ht2 ho2 c0 HC
   go_wp2
   go_roundw
   case rel => exact ⟨j + 1, by omega, by go_num, by rw [← HKJ.out.1]; go_num, Lib.hid (HT2.out.trans (tyc_set HO2.out HGH.out (j * 2 + 1) _ (fun _ => by omega) (fun e => absurd e (by decide))))⟩
   case measure => simp [intOf]; omega
  ·obtain rfl : j = n := by omega
   have HE : Hid (mkD (ms.take j) = mkD ms) := Lib.hid (by rw [HN.out, List.take_length])
   go_wp2
   go_ret
   exact ⟨ret_int (by rw [HE.out]), HT.out⟩
/-- how many marks operators take -/
def mkO (ms : List (List Nat)) : Nat := (ms.map fun d => mkD d + 4).sum
theorem mkO_take {ms : List (List Nat)} {j : Nat} (h : j < ms.length) : mkO (ms.take (j + 1)) = mkO (ms.take j) + (mkD (ms.getD j []) + 4) := by
 unfold mkO
 rw [List.take_succ_eq_append_getElem h, List.map_append, List.sum_append]
 simp [List.getD, List.getElem?_eq_getElem h]
theorem mkO_le (ms : List (List Nat)) (j : Nat) : mkO (ms.take j) ≤ mkO ms := by
 unfold mkO
 have e : (ms.map fun d => mkD d + 4).sum = ((ms.take j).map fun d => mkD d + 4).sum + ((ms.drop j).map fun d => mkD d + 4).sum := by
  rw [← List.sum_append, ← List.map_append, List.take_append_drop]
 omega
set_option maxHeartbeats 2000000 in
theorem mOp_any {lo hi : Nat} (k : Nat) (ms : List (List Nat)) (hk : k + mkO ms ≤ 1073741824) (hm : ∀ d ∈ ms, ∀ m ∈ d, m ≤ 2097152) (v : Value) (w : World) (h : OpR lo hi w v ms) :
  Calls Tryz.prog 45 #[v, .int .i64 k] w fun e w' => e = .returned (.int .i64 ((k + mkO ms : Nat) : Int)) ∧ TyC lo hi w w' := by
 have HD := Lib.hid h
 obtain ⟨n, hn⟩ : ∃ n, n = ms.length := ⟨_, rfl⟩
 have HN := Lib.hid hn
 have hnm : n ≤ mkO ms := by
  rw [hn]; unfold mkO
  have : ∀ l : List (List Nat), l.length ≤ (l.map fun d => mkD d + 4).sum := fun l => by
   induction l with
   | nil => simp
   | cons a l ih => simp only [List.length_cons, List.map_cons, List.sum_cons]; omega
  exact this ms
 have HK := Lib.hid hk
 have HM := Lib.hid hm
 have hsh : ∃ A c, v = .slice A n c ∧ n ≤ 9223372036854775807 := by
  obtain ⟨xs, h1, _⟩ := h
  obtain ⟨A, c, e, hc⟩ := own_slice h1
  exact ⟨A, c, by rw [e, hn], by omega⟩
 obtain ⟨A, c, rfl, hnl⟩ := hsh
 clear h hn hk hm hnm
 go_enter Tryz.func45, Tryz.ntmps45
 go_wp2
 go_loopw [1, 5] (fun v i wr => ∃ (j : Nat), j ≤ n ∧ i = .int .i64 j ∧ v = .int .i64 ((k + mkO (ms.take j) : Nat) : Int) ∧ Hid (TyC lo hi w wr)) (fun _ i _ => n - (intOf i).toNat)
 case atStart => exact ⟨0, Nat.zero_le _, rfl, by simp [mkO], Lib.hid (TyC.refl _ _ _)⟩
 case round =>
  obtain ⟨j, hj, rfl, rfl, HT⟩ := hrel
  by_cases hl : j < n
  ·have hjm : j < ms.length := by have := HN.out; omega
   obtain ⟨xs, h1, h2, h3⟩ := HD.out.tyc HT.out
   obtain ⟨va, e1, e2⟩ := h3 j hjm
   have hne : xs ≠ [] := fun e => by rw [e] at e1; simp at e1
   obtain ⟨g, cap, hv, hgl, hgw⟩ := own_shape h1 hne
   simp only [Value.slice.injEq] at hv
   obtain ⟨rfl, hx9, rfl⟩ := hv
   clear hx9
   have hgh := h2 g rfl
   rw [← HN.out] at h1
   have hkj := mkO_take hjm
   have hkl := mkO_le ms (j + 1)
   have hbd := HK.out
   have hma := HM.out _ (show ms.getD j [] ∈ ms by rw [List.getD_eq_getElem?_getD, List.getElem?_eq_getElem hjm]; exact List.getElem_mem _)
   obtain ⟨q, hq⟩ : ∃ q, q = ms.getD j [] := ⟨_, rfl⟩
   rw [← hq] at e2 hkj hma
   obtain ⟨kj, hkjd⟩ : ∃ kj, kj = k + mkO (ms.take j) := ⟨_, rfl⟩
   rw [← hkjd]
   have HC := Lib.hid (fun W hW => mDecl_any (lo := lo) (hi := hi) (kj + 1) q (by omega) hma va W hW)
   have HE2 := Lib.hid e2
   have HO := Lib.hid h1
   have HGH := Lib.hid hgh
   obtain ⟨mq, hmq⟩ : ∃ mq, mq = mkD q := ⟨_, rfl⟩
   rw [← hmq] at hkj HC
   have HKJ : Hid (kj + (mq + 4) = k + mkO (ms.take (j + 1)) ∧ kj + mq + 4 ≤ 1073741824) := Lib.hid ⟨by omega, by omega⟩
   have hkq : kj + mq + 4 ≤ 1073741824 := HKJ.out.2
   have HE1 := Lib.hid e1
   have hva : ∃ A2 n2 c2, va = .slice A2 n2 c2 := by
    obtain ⟨ys, h9, _⟩ := e2
    obtain ⟨A2, c2, e, _⟩ := own_slice h9
    exact ⟨A2, _, c2, e⟩
   obtain ⟨A2, n2, c2, rfl⟩ := hva
   obtain ⟨⟨v0, c0⟩, f0⟩ := own_get h1 (i := j * 5) (by omega)
   have c1 := (h1.cellAt (j * 5 + 1) (by omega)).trans e1
   have hgw' : g < wr.heap.size := hgw
   clear h1 h2 h3 e1 e2 hne hgl hgw hgh hkj hkl hbd hma hq hkjd hjm hmq
   go_wp2_with (go_at_call 46; refine (strl.mark_any kj (by omega) _).mono ?_; rintro e w1 ⟨rfl, hb1⟩; have c0' := (hb1.cell (p := ⟨g, j * 5, none⟩) hgw').trans c0; have f0' := (hb1.frozen (p := ⟨g, j * 5, none⟩) hgw').trans f0; have c1' := (hb1.cell (p := ⟨g, j * 5 + 1, none⟩) hgw').trans c1; clear c0 c1 f0)
   have HO1 := Lib.hid (own_below HO.out hb1)
   have HT1 : Hid (TyC lo hi wr (w1.setCell ⟨g, j * 5, none⟩ (.string (bstr (109 :: dig kj))))) := Lib.hid ((TyC.of_below hb1).trans (tyc_set HO1.out HGH.out (j * 5) _ (fun e => absurd e (by decide)) (fun _ => by omega)))
   have hkc : ((kj : Int) + 1) = ((kj + 1 : Nat) : Int) := by omega
   refine (show Calls Tryz.prog 95 #[.slice A2 n2 c2, .int .i64 ((kj : Int) + 1)] _ _ from hkc ▸ (HC.out _ (HE2.out.tyc HT1.out))).mono ?_
   rintro e w2 ⟨rfl, ht2⟩
   have HT2 := Lib.hid ((HT.out.trans HT1.out).trans ht2)
   obtain ⟨ys, ho2, _, _⟩ := own_tyc (setCell_own HO1.out (j * 5) (.string (bstr (109 :: dig kj)))) ht2
   have HO2 := Lib.hid ho2
   obtain ⟨⟨v2, c2'⟩, f2'⟩ := own_get ho2 (i := j * 5 + 2) (by omega)
   obtain ⟨⟨v3, c3'⟩, f3'⟩ := own_get ho2 (i := j * 5 + 3) (by omega)
   obtain ⟨⟨v4, c4'⟩, f4'⟩ := own_get ho2 (i := j * 5 + 4) (by omega)
   have HFT : Hid (∀ a b c : Value, TyC lo hi w (((w2.setCell ⟨g, j * 5 + 2, none⟩ a).setCell ⟨g, j * 5 + 3, none⟩ b).setCell ⟨g, j * 5 + 4, none⟩ c)) := Lib.hid (fun a b c =>
    ((HT2.out.trans (tyc_set HO2.out HGH.out (j * 5 + 2) a (fun e => absurd e (by decide)) (fun _ => by omega))).trans (tyc_set (setCell_own HO2.out (j * 5 + 2) a) HGH.out (j * 5 + 3) b (fun e => absurd e (by decide)) (fun _ => by omega))).trans (tyc_set (setCell_own (setCell_own HO2.out (j * 5 + 2) a) (j * 5 + 3) b) HGH.out (j * 5 + 4) c (fun e => absurd e (by decide)) (fun _ => by omega)))
   clear ht2 ho2 HC HO1 HT1 hkc c0' f0' c1' hb1
   go_wp2
   go_roundw
   case rel => exact ⟨j + 1, by omega, by go_num, by rw [← HKJ.out.1]; go_num, Lib.hid (HFT.out _ _ _)⟩
   case measure => simp [intOf]; omega
  ·obtain rfl : j = n := by omega
   have HE : Hid (mkO (ms.take j) = mkO ms) := Lib.hid (by rw [HN.out, List.take_length])
   go_wp2
   go_ret
   exact ⟨ret_int (by rw [HE.out]), HT.out⟩
theorem mSorts_any {lo hi : Nat} (k n m : Nat) (hn : n ≤ 1048576) (hm : m ≤ 1048576) (hk : k ≤ 1048576) (v1 v2 : Value) (w : World) (hhi : hi ≤ w.heap.size) (h1 : Rw lo hi w 9 1 v1 n) (h2 : Rw lo hi w 163 2 v2 m) :
  Calls Tryz.prog 44 #[.agg #[v1, v2], .int .i64 k] w fun e w' => e = .returned (.int .i64 ((k + n + 2 * m : Nat) : Int)) ∧ TyC lo hi w w' := by
 have hs1 : ∃ A c, v1 = .slice A n c := by obtain ⟨xs, h, _⟩ := h1; obtain ⟨A, c, e, _⟩ := own_slice h; exact ⟨A, c, e⟩
 have hs2 : ∃ A c, v2 = .slice A m c := by obtain ⟨xs, h, _⟩ := h2; obtain ⟨A, c, e, _⟩ := own_slice h; exact ⟨A, c, e⟩
 obtain ⟨A1, c1, rfl⟩ := hs1
 obtain ⟨A2, c2, rfl⟩ := hs2
 have H1 := Lib.hid (fun W (hW : TyC lo hi w W) => mStr_any k n (by omega) (by omega) (.slice A1 n c1) W (h1.tyc hW))
 have H2 := Lib.hid (fun W (hW : TyC lo hi w W) => mSub_any (k + n) m (by omega) (by omega) (.slice A2 m c2) W (h2.tyc hW))
 have HB0 : Hid (∀ ob, TyC lo hi w (w.alloc ob)) := Lib.hid (fun ob => TyC.of_below ((Below.refl _ _).alloc (Nat.le_refl _) ob))
 clear h1 h2
 go_enter Tryz.func44, Tryz.ntmps44
 go_wp2_with fail
 obtain ⟨W, hW⟩ : ∃ W, W = w.alloc (.cells #[.slice A1 n c1, .slice A2 m c2] 39) := ⟨_, rfl⟩
 have hx0 : W.heap[w.heap.size]? = some (.cells #[.slice A1 n c1, .slice A2 m c2] 39 (0, 0)) := by rw [hW]; exact heap_at _ _ _ rfl
 have hT0 : TyC lo hi w W := by rw [hW]; exact HB0.out _
 rw [← hW]
 clear hW
 refine (H1.out W hT0).mono ?_
 rintro e w1 ⟨rfl, ht1⟩
 have HT1 := Lib.hid (hT0.trans ht1)
 have hx1 : w1.cell? ⟨w.heap.size, 1, none⟩ = some (.slice A2 m c2) := by
  rcases ht1.block _ (Array.getElem?_eq_some_iff.1 hx0).1 with h9 | ⟨_, h9, _⟩
  ·exact cell_of_row w1 _ 1 _ _ _ (h9.trans hx0)
  ·omega
 clear ht1 hT0 hx0
 go_wp2_with fail
 refine (H2.out w1 HT1.out).mono ?_
 rintro e w2 ⟨rfl, ht2⟩
 have HT2 := Lib.hid (HT1.out.trans ht2)
 clear ht2 hx1
 go_wp2
 go_ret
 exact ⟨ret_int (by omega), HT2.out⟩
theorem mSig_any {lo hi : Nat} (n m : Nat) (hn : n ≤ 1048576) (hm : m ≤ 1048576) (ms : List (List Nat)) (hk : mkO ms ≤ 8388608) (hms : ∀ d ∈ ms, ∀ m ∈ d, m ≤ 2097152) (v1 v2 v3 : Value) (w : World) (hhi : hi ≤ w.heap.size) (h1 : Rw lo hi w 9 1 v1 n) (h2 : Rw lo hi w 163 2 v2 m) (h3 : OpR lo hi w v3 ms) :
  Calls Tryz.prog 15 #[.agg #[v1, v2, v3], .int .i64 1] w fun e w' => e = .returned (.int .i64 ((1 + n + 2 * m + mkO ms : Nat) : Int)) ∧ TyC lo hi w w' := by
 have hs1 : ∃ A c, v1 = .slice A n c := by obtain ⟨xs, h, _⟩ := h1; obtain ⟨A, c, e, _⟩ := own_slice h; exact ⟨A, c, e⟩
 have hs2 : ∃ A c, v2 = .slice A m c := by obtain ⟨xs, h, _⟩ := h2; obtain ⟨A, c, e, _⟩ := own_slice h; exact ⟨A, c, e⟩
 have hs3 : ∃ A c, v3 = .slice A ms.length c := by obtain ⟨xs, h, _⟩ := h3; obtain ⟨A, c, e, _⟩ := own_slice h; exact ⟨A, c, e⟩
 obtain ⟨A1, c1, rfl⟩ := hs1
 obtain ⟨A2, c2, rfl⟩ := hs2
 obtain ⟨A3, c3, rfl⟩ := hs3
 have H1 := Lib.hid (fun W (hW : TyC lo hi w W) => mSorts_any 1 n m hn hm (by omega) (.slice A1 n c1) (.slice A2 m c2) W (Nat.le_trans hhi hW.size) (h1.tyc hW) (h2.tyc hW))
 have H2 := Lib.hid (fun W (hW : TyC lo hi w W) => mOp_any (1 + n + 2 * m) ms (by omega) hms (.slice A3 ms.length c3) W (h3.tyc hW))
 have HB0 : Hid (∀ ob, TyC lo hi w (w.alloc ob)) := Lib.hid (fun ob => TyC.of_below ((Below.refl _ _).alloc (Nat.le_refl _) ob))
 obtain ⟨q, hq⟩ : ∃ q, q = ms.length := ⟨_, rfl⟩
 obtain ⟨mm, hmm⟩ : ∃ q, q = mkO ms := ⟨_, rfl⟩
 rw [← hmm] at H2 hk ⊢
 rw [← hq] at H2 ⊢
 clear h1 h2 h3 hq hmm
 go_enter Tryz.func15, Tryz.ntmps15
 go_wp2_with fail
 obtain ⟨W, hW⟩ : ∃ W, W = w.alloc (.cells #[.slice A1 n c1, .slice A2 m c2, .slice A3 q c3] 42) := ⟨_, rfl⟩
 have hx0 : W.heap[w.heap.size]? = some (.cells #[.slice A1 n c1, .slice A2 m c2, .slice A3 q c3] 42 (0, 0)) := by rw [hW]; exact heap_at _ _ _ rfl
 have hT0 : TyC lo hi w W := by rw [hW]; exact HB0.out _
 rw [← hW]
 clear hW
 refine (H1.out W hT0).mono ?_
 rintro e w1 ⟨rfl, ht1⟩
 have HT1 := Lib.hid (hT0.trans ht1)
 have hx1 : w1.cell? ⟨w.heap.size, 2, none⟩ = some (.slice A3 q c3) := by
  rcases ht1.block _ (Array.getElem?_eq_some_iff.1 hx0).1 with h9 | ⟨_, h9, _⟩
  ·exact cell_of_row w1 _ 2 _ _ _ (h9.trans hx0)
  ·omega
 clear ht1 hT0 hx0
 go_wp2_with fail
 refine (H2.out w1 HT1.out).mono ?_
 rintro e w2 ⟨rfl, ht2⟩
 have HT2 := Lib.hid (HT1.out.trans ht2)
 clear ht2 hx1
 go_wp2
 go_ret
 exact ⟨rfl, HT2.out⟩
end Go.Proofs.YtkkmjaggebjcbaaGreat.tmk
/-
 COPIES OF A SIGNATURE WITH ROWS OF THEIR OWN: laws.toSignature.
-/
namespace Go.Proofs.YtkkmjaggebjcbaaGreat.tmo
open Go.ChangeShapes Go.WideShapes Go.ChangeAt Go.RowKit
open mem dec split strl join subs setm sortp sorti rowl sigm sigs sigt sigu tmq tmk

theorem Rw.of_own {lo n sz : Nat} {w : World} {e : TypeId} {v : Value} {xs : List Value} (h : w.ownsRow lo e sz v n xs) : Rw lo w.heap.size w e sz v n :=
 ⟨xs, h, fun g hg => by
  rcases h.2 with ⟨rfl, _⟩ | ⟨g', cap, cur, rfl, hb, hgc, _⟩
  ·cases hg
  ·injection hg with hg
   subst hg
   exact (Array.getElem?_eq_some_iff.1 hgc).1⟩
theorem own_keep {lo n sz : Nat} {w w' : World} {e : TypeId} {v : Value} {xs : List Value} (h : w.ownsRow lo e sz v n xs) (hk : Kept lo w w') : w'.ownsRow lo e sz v n xs := by
 refine ⟨h.1, ?_⟩
 rcases h.2 with h2 | ⟨g, cap, cur, hv, hg, hh, r⟩
 ·exact .inl h2
 ·exact .inr ⟨g, cap, cur, hv, hg, by rw [hk.2 g hg (Array.getElem?_eq_some_iff.1 hh).1]; exact hh, r⟩
theorem Rw.kept {lo hi n sz : Nat} {w w' : World} {e : TypeId} {v : Value} (h : Rw lo hi w e sz v n) (hk : Kept lo w w') : Rw lo hi w' e sz v n := by
 obtain ⟨xs, h1, h2⟩ := h
 exact ⟨xs, own_keep h1 hk, h2⟩
theorem Rw.mono {lo hi lo' hi' n sz : Nat} {w : World} {e : TypeId} {v : Value} (h : Rw lo hi w e sz v n) (hl : lo' ≤ lo) (hh : hi ≤ hi') : Rw lo' hi' w e sz v n := by
 obtain ⟨xs, h1, h2⟩ := h
 exact ⟨xs, own_down h1 hl, fun g hg => Nat.lt_of_lt_of_le (h2 g hg) hh⟩
theorem DecR.kept {lo hi : Nat} {w w' : World} {v : Value} {ms : List Nat} (h : DecR lo hi w v ms) (hk : Kept lo w w') : DecR lo hi w' v ms := by
 obtain ⟨xs, h1, h2, h3⟩ := h
 refine ⟨xs, own_keep h1 hk, h2, fun j hj => ?_⟩
 obtain ⟨va, e1, e2⟩ := h3 j hj
 exact ⟨va, e1, Rw.kept e2 hk⟩
theorem DecR.mono {lo hi lo' hi' : Nat} {w : World} {v : Value} {ms : List Nat} (h : DecR lo hi w v ms) (hl : lo' ≤ lo) (hh : hi ≤ hi') : DecR lo' hi' w v ms := by
 obtain ⟨xs, h1, h2, h3⟩ := h
 refine ⟨xs, own_down h1 hl, fun g hg => Nat.lt_of_lt_of_le (h2 g hg) hh, fun j hj => ?_⟩
 obtain ⟨va, e1, e2⟩ := h3 j hj
 exact ⟨va, e1, Rw.mono e2 hl hh⟩
theorem OpR.kept {lo hi : Nat} {w w' : World} {v : Value} {ms : List (List Nat)} (h : OpR lo hi w v ms) (hk : Kept lo w w') : OpR lo hi w' v ms := by
 obtain ⟨xs, h1, h2, h3⟩ := h
 refine ⟨xs, own_keep h1 hk, h2, fun j hj => ?_⟩
 obtain ⟨va, e1, e2⟩ := h3 j hj
 exact ⟨va, e1, DecR.kept e2 hk⟩
theorem OpR.mono {lo hi lo' hi' : Nat} {w : World} {v : Value} {ms : List (List Nat)} (h : OpR lo hi w v ms) (hl : lo' ≤ lo) (hh : hi ≤ hi') : OpR lo' hi' w v ms := by
 obtain ⟨xs, h1, h2, h3⟩ := h
 refine ⟨xs, own_down h1 hl, fun g hg => Nat.lt_of_lt_of_le (h2 g hg) hh, fun j hj => ?_⟩
 obtain ⟨va, e1, e2⟩ := h3 j hj
 exact ⟨va, e1, DecR.mono e2 hl hh⟩
abbrev dls (D : List (List Int × Int)) : List Nat := D.map fun d => d.1.length
abbrev ols (O : List OpM) : List (List Nat) := O.map fun o => dls o.decls
theorem toDecl_own (L : List Int) (x : Int) (hL : L.length ≤ 1048576) (va : Value) (w : World) (h : Has w va (ivs L)) :
  Calls Tryz.prog 154 #[.agg #[va, .int .i64 x]] w fun e w' => ∃ v, e = .returned (.agg #[v, .int .i64 x]) ∧ HasL w.heap.size w' v (ivs L) ∧ Rw (w.heap.size + 1) w'.heap.size w' 3 1 v L.length ∧ Below w.heap.size w w' := by
 obtain ⟨A, ca, rfl, h'⟩ := h.shape (ivs_len L)
 have HSA := Lib.hid (fun W hW => intl.to_any L hL _ W (h'.below (Nat.le_refl _) hW))
 clear h h'
 go_enter Tryz.func154, Tryz.ntmps154
 go_wp2_with fail
 refine (HSA.out _ ?_).mono ?_
 ·repeat (first | exact Below.refl _ _ | refine Below.alloc ?_ (by first | (simp; done) | (simp; omega)) _)
 rintro e w1 ⟨v1, rfl, hown1, hb1⟩
 obtain ⟨A1, c1, rfl, hh1⟩ := HasL.shape (HasL.of_own hown1) (ivs_len L)
 have HO1 := Lib.hid hh1
 have HR1 : Hid (Rw (w.heap.size + 3) w1.heap.size w1 3 1 (.slice A1 L.length c1) L.length) := Lib.hid (Rw.mono (Rw.of_own hown1) (by simp) (Nat.le_refl _))
 have hk1 : w1.heap[w.heap.size + 1]? = some (.cells #[.slice none 0 0, .int .i64 0] 123 (0, 0)) := by rw [hb1.block _ (by simp)]; exact (Below.heap_alloc _ _ _ (by simp)).trans (heap_at _ _ _ (by simp))
 have d0 : w1.cell? ⟨w.heap.size + 1, 0, none⟩ = some (.slice none 0 0) := cell_of_row w1 _ 0 _ _ _ hk1
 have d1 : w1.cell? ⟨w.heap.size + 1, 1, none⟩ = some (.int .i64 0) := cell_of_row w1 _ 1 _ _ _ hk1
 have e0 := frozen_of_row w1 _ 0 _ _ hk1
 have e1 := frozen_of_row w1 _ 1 _ _ hk1
 have hbw : Below w.heap.size w w1 := ((((Below.refl _ _).alloc (Nat.le_refl _) _).alloc (by simp) _).alloc (by simp; omega) _).trans (hb1.mono (by simp; omega))
 obtain ⟨hc1, hf1⟩ := bcell hb1
 have hz : w.heap.size + 2 < w1.heap.size := by have := hb1.size; simp at this; omega
 clear hown1 hh1 hk1 hb1
 go_wp2
 refine bodyPost_ret (v := .agg #[.slice A1 L.length c1, .int .i64 x]) (by simp [results, Tryz.results154, go_sem, d0, d1]) rfl ⟨_, rfl, ?_, ?_, ?_⟩
 ·refine HasL.mono (lo := w.heap.size + 1 + 1 + 1) ?_ (by omega)
  have h0 := HasL.mono HO1.out (lo' := w.heap.size + 1 + 1 + 1) (by simp)
  repeat (first | exact h0 | refine HasL.kept ?_ (Kept.set (by simp; omega) _) | refine HasL.kept ?_ (Kept.set (by simp) _))
 ·refine Rw.mono (lo := w.heap.size + 3) (hi := w1.heap.size) ?_ (by omega) (by simp [World.setCell])
  repeat (refine Rw.kept ?_ (Kept.set (by first | (simp; done) | (simp; omega)) _))
  exact HR1.out
 ·repeat (first | exact hbw | refine Below.setCell ?_ (by first | (simp; done) | (simp; omega)) _)
theorem toDeclS_own (D : List (List Int × Int)) (hD : SmD D) (v : Value) (w : World) {lo : Nat} (h : HasD lo w v D) :
  Calls Tryz.prog 117 #[v] w fun e w' => ∃ v', e = .returned v' ∧ HasD w.heap.size w' v' D ∧ DecR w.heap.size w'.heap.size w' v' (D.map fun d => d.1.length) ∧ Below w.heap.size w w' := by
 obtain ⟨n, hn⟩ : ∃ n, n = D.length := ⟨_, rfl⟩
 obtain ⟨A, c, rfl, h⟩ := HasR.shape h hn.symm
 obtain ⟨i0, hi, hz0, hz1, hz2⟩ := info_parts info_decl
 have hn2 : n ≤ 1048576 := by have := hD.1; omega
 have HH := Lib.hid h
 have HN := Lib.hid hn
 have HD := Lib.hid hD.2
 clear h hn hD
 go_enter Tryz.func117, Tryz.ntmps117
 go_wp2_with (at_make; refine wpList_make_full _ rfl _ _ 111 rfl w.heap.size 123 i0 _ 2 Tryz.underlying111 hi hz0 hz1 _ _ _ _ n rfl rfl rfl rfl (by rw [hz2]; omega) (by unfold maxLen; omega) (Nat.le_refl _) ?_)
 intro w1 hown hgrow
 have hsz1 : w.heap.size < w1.heap.size := by
  rcases hown.2 with ⟨hv, _⟩ | ⟨g, cap, cur, hv, hb, hg, _⟩
  ·cases hv
  ·have := (Array.getElem?_eq_some_iff.1 hg).1; omega
 go_wp2
 go_loopw [4] (fun i wr => ∃ (j : Nat) (ys : List Value), j ≤ n ∧ i = .int .i64 j ∧ wr.ownsRow w.heap.size 123 2 (.slice (some ⟨w.heap.size, 0, none⟩) n n) n ys ∧
   Hid (∀ i, i < j → ∃ cs, (∀ q, q < 2 → ys[i * 2 + q]? = some (cs.getD q undef)) ∧ RD (w.heap.size + 1) wr cs (D.getD i default)) ∧ Hid (∀ i, i < j → ∃ va, ys[i * 2]? = some va ∧ Rw (w.heap.size + 1) wr.heap.size wr 3 1 va (D.getD i default).1.length) ∧ w.heap.size < wr.heap.size ∧ Below w.heap.size w wr) (fun i _ => n - (intOf i).toNat)
 case atStart => exact ⟨0, _, Nat.zero_le _, rfl, hown, Lib.hid (fun i hi => by omega), Lib.hid (fun i hi => by omega), hsz1, (Below.refl _ _).grown hgrow (Nat.le_refl _) (by intro k h; cases h)⟩
 case round =>
  obtain ⟨j, ys, hj, rfl, hown, HY, HYR, hsz, hbel⟩ := hrel
  by_cases hlt : j < n
  ·obtain ⟨g, o, A2, c2, rfl, _, hg, hc0, hc1, hh, hi1, hi2⟩ := decl_at HH.out hlt
   have hL := HD.out j (by have := HN.out; omega)
   rw [← hbel.cell (p := ⟨g, o + j * 2, none⟩) hg] at hc0
   rw [← hbel.cell (p := ⟨g, o + j * 2 + 1, none⟩) hg] at hc1
   have hh2 := hh.has.below (Nat.le_refl _) hbel
   obtain ⟨⟨l, x⟩, hd⟩ : ∃ d, d = D.getD j default := ⟨_, rfl⟩
   rw [← hd] at hc0 hc1 hh2 hL hi1 hi2
   have HL := Lib.hid hh2
   have HX := Lib.hid hd
   have HI := Lib.hid (And.intro hi1 hi2)
   have HOWN := Lib.hid hown
   clear hh hh2 hd hown hi1 hi2
   go_wp2_with fail
   refine (toDecl_own l x hL _ _ HL.out).mono ?_
   rintro e w2 ⟨v2, rfl, hv2, hr2, hb2⟩
   obtain ⟨A3, c3, rfl, hv3⟩ := HasL.shape hv2 (ivs_len l)
   have HO2 := Lib.hid (own_below HOWN.out hb2)
   have HV := Lib.hid hv3
   have HB2 := Lib.hid hb2
   have HR2 := Lib.hid hr2
   obtain ⟨⟨v0, hw0⟩, hf0⟩ := own_get HO2.out (i := j * 2) (by omega)
   obtain ⟨⟨v1, hw1⟩, hf1⟩ := own_get HO2.out (i := j * 2 + 1) (by omega)
   clear hv2 hv3 hr2
   go_wp2
   go_roundw
   case rel =>
    have hlen : ys.length = n * 2 := by have := HOWN.out.1; omega
    refine ⟨j + 1, _, by omega, by go_num, setCell_own2 HO2.out (j * 2) _ _, Lib.hid ?_, Lib.hid ?_, by simp [World.setCell]; have := hb2.size; omega, ((hbel.trans (hb2.mono hbel.size)).setCell (Nat.le_refl _) _).setCell (Nat.le_refl _) _⟩
    rotate_left
    ·intro i hi
     by_cases hij : i = j
     ·subst hij
      refine ⟨.slice A3 l.length c3, ?_, ?_⟩
      ·exact set2_new (ys := ys) (p := i * 2) (by omega) 0 (by omega)
      rw [← HX.out]
      refine Rw.mono (lo := w.heap.size + 1) (hi := w2.heap.size) ?_ (Nat.le_refl _) (by simp [World.setCell])
      repeat (refine Rw.kept ?_ (Kept.set (by simp) _))
      exact Rw.mono HR2.out (by omega) (Nat.le_refl _)
     ·obtain ⟨va, h1, h2⟩ := HYR.out i (by omega)
      refine ⟨va, by rw [set2_old (by omega)]; exact h1, ?_⟩
      refine Rw.mono (lo := w.heap.size + 1) (hi := wr.heap.size) ?_ (Nat.le_refl _) (by have := HB2.out.size; simp [World.setCell]; omega)
      repeat (refine Rw.kept ?_ (Kept.set (by simp) _))
      exact Rw.kept h2 (Kept.below HB2.out (Nat.le_refl _))
    intro i hi
    by_cases hij : i = j
    ·subst hij
     refine ⟨[.slice A3 l.length c3, .int .i64 x], set2_new (by omega), _, by rw [← HX.out], ?_, ?_⟩
     ·rw [← HX.out]
      exact ((HV.out.mono (by omega)).kept (Kept.set (by simp) _)).kept (Kept.set (by simp) _)
     ·rw [← HX.out]; exact HI.out
    ·obtain ⟨cs, h1, h2⟩ := HY.out i (by omega)
     refine ⟨cs, fun q hq => ?_, ?_⟩
     ·rw [set2_old (by omega)]; exact h1 q hq
     ·exact RD_steady.kept (RD_steady.kept (RD_steady.kept h2 (Kept.below HB2.out (Nat.le_refl _))) (Kept.set (by simp) _)) (Kept.set (by simp) _)
   case measure => simp [intOf]; omega
  ·obtain rfl : j = n := by omega
   have HW : Hid (HasD w.heap.size wr (.slice (some ⟨w.heap.size, 0, none⟩) j j) D) := Lib.hid (HasR.of_own hown HN.out.symm (fun i hi => by
    obtain ⟨cs, h1, h2⟩ := HY.out i hi
    exact ⟨cs, h1, RD_steady.mono h2 (by omega)⟩))
   have HR : Hid (DecR w.heap.size wr.heap.size wr (.slice (some ⟨w.heap.size, 0, none⟩) j j) (D.map fun d => d.1.length)) := Lib.hid (by
    have hlen : (D.map fun d => d.1.length).length = j := by rw [List.length_map]; exact HN.out.symm
    refine ⟨ys, by rw [hlen]; exact hown, fun g hg => by have e : w.heap.size = g := Option.some.inj hg; omega, fun i hi => ?_⟩
    obtain ⟨va, h1, h2⟩ := HYR.out i (by omega)
    refine ⟨va, h1, ?_⟩
    have he : (D.map fun d => d.1.length).getD i 0 = (D.getD i default).1.length := by
     rw [List.getD_eq_getElem?_getD, List.getD_eq_getElem?_getD, List.getElem?_map, List.getElem?_eq_getElem (by have := HN.out; omega)]; rfl
    rw [he]
    exact Rw.mono h2 (by omega) (Nat.le_refl _))
   clear hown
   go_wp2
   go_ret
   exact ⟨_, rfl, HW.out, HR.out, hbel⟩
theorem toOp_own (l : List UInt8) (D : List (List Int × Int)) (hD : SmD D) (va : Value) (a b : Bool) (u : Int) (w : World) {lo : Nat} (h : HasD lo w va D) :
  Calls Tryz.prog 81 #[.agg #[.string (bstr l), va, .bool a, .bool b, .int .i64 u]] w fun e w' => ∃ v, e = .returned (.agg #[.string (bstr l), v, .bool a, .bool b, .int .i64 u]) ∧ HasD w.heap.size w' v D ∧ DecR (w.heap.size + 1) w'.heap.size w' v (dls D) ∧ Below w.heap.size w w' := by
 obtain ⟨A, ca, rfl, h'⟩ := HasR.shape h rfl
 have HSA := Lib.hid (fun W (hW : Below w.heap.size w W) => toDeclS_own D hD _ W (h'.below RD_steady (Nat.le_refl _) hW))
 obtain ⟨n, hn⟩ : ∃ n, n = D.length := ⟨_, rfl⟩
 have HN := Lib.hid hn
 rw [← hn] at HSA ⊢
 clear h h' hn
 go_enter Tryz.func81, Tryz.ntmps81
 go_wp2_with fail
 refine (HSA.out _ ?_).mono ?_
 ·repeat (first | exact Below.refl _ _ | refine Below.setCell ?_ (by first | (simp; done) | (simp; omega)) _ | refine Below.alloc ?_ (by first | (simp; done) | (simp; omega)) _)
 rintro e w1 ⟨v1, rfl, hh1, hr1, hb1⟩
 obtain ⟨A1, c1, rfl, hh2⟩ := HasR.shape hh1 HN.out.symm
 have HR1 := Lib.hid (DecR.mono hr1 (lo' := w.heap.size + 1 + 1 + 1) (by simp) (Nat.le_refl _))
 have HO1 := Lib.hid (hh2.mono RD_steady (lo' := w.heap.size + 1 + 1 + 1) (by simp))
 have hk1 : w1.heap[w.heap.size + 1]? = some (.cells #[.string { data := #[] }, .slice none 0 0, .bool false, .bool false, .int .i64 0] 113 (0, 0)) := by
  rw [hb1.block _ (by simp)]; exact (Below.heap_alloc _ _ _ (by simp)).trans (heap_at _ _ _ (by simp))
 have d0 : w1.cell? ⟨w.heap.size + 1, 0, none⟩ = some (.string { data := #[] }) := cell_of_row w1 _ 0 _ _ _ hk1
 have d1 : w1.cell? ⟨w.heap.size + 1, 1, none⟩ = some (.slice none 0 0) := cell_of_row w1 _ 1 _ _ _ hk1
 have d2 : w1.cell? ⟨w.heap.size + 1, 2, none⟩ = some (.bool false) := cell_of_row w1 _ 2 _ _ _ hk1
 have d3 : w1.cell? ⟨w.heap.size + 1, 3, none⟩ = some (.bool false) := cell_of_row w1 _ 3 _ _ _ hk1
 have d4 : w1.cell? ⟨w.heap.size + 1, 4, none⟩ = some (.int .i64 0) := cell_of_row w1 _ 4 _ _ _ hk1
 have e0 := frozen_of_row w1 _ 0 _ _ hk1
 have e1 := frozen_of_row w1 _ 1 _ _ hk1
 have e2 := frozen_of_row w1 _ 2 _ _ hk1
 have e3 := frozen_of_row w1 _ 3 _ _ hk1
 have e4 := frozen_of_row w1 _ 4 _ _ hk1
 have hbw : Below w.heap.size w w1 := by
  refine Below.trans ?_ (hb1.mono ?_)
  ·repeat (first | exact Below.refl _ _ | refine Below.setCell ?_ (by first | (simp; done) | (simp; omega)) _ | refine Below.alloc ?_ (by first | (simp; done) | (simp; omega)) _)
  ·simp; omega
 obtain ⟨hc1, hf1⟩ := bcell hb1
 have hz : w.heap.size + 2 < w1.heap.size := by have := hb1.size; simp at this; omega
 clear hh1 hr1 hh2 hk1 hb1
 go_wp2
 refine bodyPost_ret (v := .agg #[.string (bstr l), .slice A1 n c1, .bool a, .bool b, .int .i64 u]) (by simp [results, Tryz.results81, go_sem, d0, d1, d2, d3, d4]) rfl ⟨_, rfl, ?_, ?_, ?_⟩
 ·refine HasR.mono RD_steady (lo := w.heap.size + 1 + 1 + 1) ?_ (by omega)
  repeat (refine HasR.kept RD_steady ?_ (Kept.set (by first | (simp; done) | (simp; omega)) _))
  exact HO1.out
 ·refine DecR.mono (lo := w.heap.size + 1 + 1 + 1) (hi := w1.heap.size) ?_ (by omega) (by simp [World.setCell])
  repeat (refine DecR.kept ?_ (Kept.set (by first | (simp; done) | (simp; omega)) _))
  exact HR1.out
 ·repeat (refine Below.setCell ?_ (by first | (simp; done) | (simp; omega)) _)
  exact hbw
set_option maxHeartbeats 1000000 in
/-- laws.toOpS -/
theorem toOpS_own (O : List OpM) (hO : SmO O) (v : Value) (w : World) {lo : Nat} (h : HasO lo w v O) :
  Calls Tryz.prog 37 #[v] w fun e w' => ∃ v', e = .returned v' ∧ HasO w.heap.size w' v' O ∧ OpR w.heap.size w'.heap.size w' v' (ols O) ∧ Below w.heap.size w w' := by
 obtain ⟨n, hn⟩ : ∃ n, n = O.length := ⟨_, rfl⟩
 obtain ⟨A, c, rfl, h⟩ := HasR.shape h hn.symm
 obtain ⟨i0, hi, hz0, hz1, hz2⟩ := info_parts info_op
 have hn2 : n ≤ 1048576 := by have := hO.1; omega
 have HH := Lib.hid h
 have HN := Lib.hid hn
 have HD := Lib.hid hO.2
 clear h hn hO
 go_enter Tryz.func37, Tryz.ntmps37
 go_wp2_with (at_make; refine wpList_make_full _ rfl _ _ 40 rfl w.heap.size 113 i0 _ 5 Tryz.underlying40 hi hz0 hz1 _ _ _ _ n rfl rfl rfl rfl (by rw [hz2]; omega) (by unfold maxLen; omega) (Nat.le_refl _) ?_)
 intro w1 hown hgrow
 have hsz1 : w.heap.size < w1.heap.size := by
  rcases hown.2 with ⟨hv, _⟩ | ⟨g, cap, cur, hv, hb, hg, _⟩
  ·cases hv
  ·have := (Array.getElem?_eq_some_iff.1 hg).1; omega
 go_wp2
 go_loopw [4] (fun i wr => ∃ (j : Nat) (ys : List Value), j ≤ n ∧ i = .int .i64 j ∧ wr.ownsRow w.heap.size 113 5 (.slice (some ⟨w.heap.size, 0, none⟩) n n) n ys ∧
   Hid (∀ i, i < j → ∃ cs, (∀ q, q < 5 → ys[i * 5 + q]? = some (cs.getD q undef)) ∧ RO (w.heap.size + 1) wr cs (O.getD i default)) ∧ Hid (∀ i, i < j → ∃ va, ys[i * 5 + 1]? = some va ∧ DecR (w.heap.size + 1) wr.heap.size wr va (dls (O.getD i default).decls)) ∧ w.heap.size < wr.heap.size ∧ Below w.heap.size w wr) (fun i _ => n - (intOf i).toNat)
 case atStart => exact ⟨0, _, Nat.zero_le _, rfl, hown, Lib.hid (fun i hi => by omega), Lib.hid (fun i hi => by omega), hsz1, (Below.refl _ _).grown hgrow (Nat.le_refl _) (by intro k h; cases h)⟩
 case round =>
  obtain ⟨j, ys, hj, rfl, hown, HY, HYR, hsz, hbel⟩ := hrel
  by_cases hlt : j < n
  ·obtain ⟨g, o, A2, c2, rfl, _, hg, hc0, hc1, hc2, hc3, hc4, hh, hnl, hi2⟩ := op_at HH.out hlt
   have hL := HD.out j (by have := HN.out; omega)
   rw [← hbel.cell (p := ⟨g, o + j * 5, none⟩) hg] at hc0
   rw [← hbel.cell (p := ⟨g, o + j * 5 + 1, none⟩) hg] at hc1
   rw [← hbel.cell (p := ⟨g, o + j * 5 + 2, none⟩) hg] at hc2
   rw [← hbel.cell (p := ⟨g, o + j * 5 + 3, none⟩) hg] at hc3
   rw [← hbel.cell (p := ⟨g, o + j * 5 + 4, none⟩) hg] at hc4
   have hh2 := hh.below RD_steady (Nat.le_refl _) hbel
   obtain ⟨⟨nm, D, a, b, u⟩, hd⟩ : ∃ d, d = O.getD j default := ⟨_, rfl⟩
   rw [← hd] at hc0 hc1 hc2 hc3 hc4 hh2 hL hnl hi2
   have HL := Lib.hid hh2
   have HX := Lib.hid hd
   have HI := Lib.hid (And.intro hnl hi2)
   have HOWN := Lib.hid hown
   have HSM := Lib.hid hL
   clear hh hh2 hd hown hi2 hnl hL
   go_wp2_with fail
   refine (toOp_own nm D HSM.out _ a b u _ HL.out).mono ?_
   rintro e w2 ⟨v2, rfl, hv2, hr2, hb2⟩
   obtain ⟨A3, c3, rfl, hv3⟩ := HasR.shape hv2 rfl
   have HO2 := Lib.hid (own_below HOWN.out hb2)
   have HV := Lib.hid hv3
   have HB2 := Lib.hid hb2
   have HR2 := Lib.hid hr2
   obtain ⟨⟨v0, hw0⟩, hf0⟩ := own_get HO2.out (i := j * 5) (by omega)
   obtain ⟨⟨v1, hw1⟩, hf1⟩ := own_get HO2.out (i := j * 5 + 1) (by omega)
   obtain ⟨⟨v2, hw2⟩, hf2⟩ := own_get HO2.out (i := j * 5 + 2) (by omega)
   obtain ⟨⟨v3, hw3⟩, hf3⟩ := own_get HO2.out (i := j * 5 + 3) (by omega)
   obtain ⟨⟨v4, hw4⟩, hf4⟩ := own_get HO2.out (i := j * 5 + 4) (by omega)
   clear hv2 hv3 hr2
   go_wp2
   go_roundw
   case rel =>
    refine ⟨j + 1, _, by omega, by go_num, setCell_own5 HO2.out (j * 5) _ _ _ _ _, Lib.hid ?_, Lib.hid ?_, by simp [World.setCell]; have := hb2.size; omega, ?_⟩
    ·have hlen : ys.length = n * 5 := by have := HOWN.out.1; omega
     intro i hi
     by_cases hij : i = j
     ·subst hij
      refine ⟨[.string (bstr nm), .slice A3 D.length c3, .bool a, .bool b, .int .i64 u], set5_new (by omega), _, by rw [← HX.out], ?_, ?_⟩
      ·rw [← HX.out]
       repeat (refine HasR.kept RD_steady ?_ (Kept.set (by simp) _))
       exact HV.out.mono RD_steady (by omega)
      ·rw [← HX.out]; exact HI.out
     ·obtain ⟨cs, h1, h2⟩ := HY.out i (by omega)
      refine ⟨cs, fun q hq => ?_, ?_⟩
      ·rw [set5_old (by omega)]; exact h1 q hq
      ·repeat (refine RO_steady.kept ?_ (Kept.set (by simp) _))
       exact RO_steady.kept h2 (Kept.below HB2.out (Nat.le_refl _))
    ·have hlen : ys.length = n * 5 := by have := HOWN.out.1; omega
     intro i hi
     by_cases hij : i = j
     ·subst hij
      refine ⟨.slice A3 D.length c3, ?_, ?_⟩
      ·exact set5_new (ys := ys) (p := i * 5) (by omega) 1 (by omega)
      rw [← HX.out]
      refine DecR.mono (lo := w.heap.size + 1) (hi := w2.heap.size) ?_ (Nat.le_refl _) (by simp [World.setCell])
      repeat (refine DecR.kept ?_ (Kept.set (by simp) _))
      exact DecR.mono HR2.out (by omega) (Nat.le_refl _)
     ·obtain ⟨va, h1, h2⟩ := HYR.out i (by omega)
      refine ⟨va, by rw [set5_old (by omega)]; exact h1, ?_⟩
      refine DecR.mono (lo := w.heap.size + 1) (hi := wr.heap.size) ?_ (Nat.le_refl _) (by have := HB2.out.size; simp [World.setCell]; omega)
      repeat (refine DecR.kept ?_ (Kept.set (by simp) _))
      exact DecR.kept h2 (Kept.below HB2.out (Nat.le_refl _))
    ·repeat (refine Below.setCell ?_ (by simp) _)
     exact hbel.trans (HB2.out.mono hbel.size)
   case measure => simp [intOf]; omega
  ·obtain rfl : j = n := by omega
   have HW : Hid (HasO w.heap.size wr (.slice (some ⟨w.heap.size, 0, none⟩) j j) O) := Lib.hid (HasR.of_own hown HN.out.symm (fun i hi => by
    obtain ⟨cs, h1, h2⟩ := HY.out i hi
    exact ⟨cs, h1, RO_steady.mono h2 (by omega)⟩))
   have HR : Hid (OpR w.heap.size wr.heap.size wr (.slice (some ⟨w.heap.size, 0, none⟩) j j) (ols O)) := Lib.hid (by
    have hlen : (ols O).length = j := by rw [List.length_map]; exact HN.out.symm
    refine ⟨ys, by rw [hlen]; exact hown, fun g hg => by have e : w.heap.size = g := Option.some.inj hg; omega, fun i hi => ?_⟩
    obtain ⟨va, h1, h2⟩ := HYR.out i (by omega)
    refine ⟨va, h1, ?_⟩
    have he : (ols O).getD i [] = dls (O.getD i default).decls := by
     rw [List.getD_eq_getElem?_getD, List.getD_eq_getElem?_getD, List.getElem?_map, List.getElem?_eq_getElem (by have := HN.out; omega)]; rfl
    rw [he]
    exact DecR.mono h2 (by omega) (Nat.le_refl _))
   clear hown
   go_wp2
   go_ret
   exact ⟨_, rfl, HW.out, HR.out, hbel⟩
theorem toSignature_own (P : List (List UInt8)) (Q : List (Int × Int)) (O : List OpM) (hS : (Small P ∧ Q.length ≤ 1048576) ∧ SmO O) (va vb vc : Value) (w : World) (h : HasG w va vb vc P Q O) :
  Calls Tryz.prog 9 #[.agg #[va, vb, vc]] w fun e w' => ∃ v1 v2 v3, e = .returned (.agg #[v1, v2, v3]) ∧ HasG w' v1 v2 v3 P Q O ∧ Rw w.heap.size w'.heap.size w' 9 1 v1 P.length ∧ Rw w.heap.size w'.heap.size w' 163 2 v2 Q.length ∧ OpR w.heap.size w'.heap.size w' v3 (ols O) ∧ Below w.heap.size w w' := by
 obtain ⟨A, ca, B, cb, C, cc, rfl, rfl, rfl, hl1, hl2, hl3, h'⟩ := h.shape
 have HSA := Lib.hid (fun W (hW : Below w.heap.size w W) => toSorts_own P hS.1.1.1 Q hS.1.2 _ _ W (h'.below (Nat.le_refl _) hW).s.a (h'.below (Nat.le_refl _) hW).s.b)
 have HSB := Lib.hid (fun W (hW : Below w.heap.size w W) => toOpS_own O hS.2 _ W (h'.below (Nat.le_refl _) hW).o)
 have HSS := Lib.hid h'.s
 obtain ⟨n, hn⟩ : ∃ n, n = O.length := ⟨_, rfl⟩
 have HN := Lib.hid hn
 rw [← hn] at HSB hl3 ⊢
 clear h h' hn hS
 go_enter Tryz.func9, Tryz.ntmps9
 go_wp2_with fail
 refine (HSA.out _ ?_).mono ?_
 ·repeat (first | exact Below.refl _ _ | refine Below.alloc ?_ (by first | (simp; done) | (simp; omega)) _)
 rintro e w1 ⟨v1, v2, rfl, hw1, hw2, hb1⟩
 obtain ⟨A1, c1, rfl, _⟩ := own_slice hw1
 obtain ⟨A2, c2, rfl, _⟩ := own_slice hw2
 have HO1 := Lib.hid (own_down hw1 (base' := w.heap.size + 1 + 1 + 1) (by simp))
 have HO2 := Lib.hid (own_down hw2 (base' := w.heap.size + 1 + 1 + 1) (by simp))
 have hk1 : w1.heap[w.heap.size + 1]? = some (.cells #[.slice none 0 0, .slice none 0 0, .slice none 0 0] 42 (0, 0)) := by rw [hb1.block _ (by simp)]; exact (Below.heap_alloc _ _ _ (by simp)).trans (heap_at _ _ _ (by simp))
 have HK1 := Lib.hid hk1
 have hbw : Below w.heap.size w w1 := ((((Below.refl _ _).alloc (Nat.le_refl _) _).alloc (by simp) _).alloc (by simp; omega) _).trans (hb1.mono (by simp; omega))
 obtain ⟨hc1, hf1⟩ := bcell hb1
 have hz : w.heap.size + 2 < w1.heap.size := by have := hb1.size; simp at this; omega
 clear hw1 hw2 hk1 hb1
 go_wp2_with fail
 refine (HSB.out _ ?_).mono ?_
 ·exact (hbw.setCell (by simp; omega) _).setCell (by simp; omega) _
 rintro e w2 ⟨v3, rfl, hw3, hr3, hb2⟩
 obtain ⟨A3, c3, rfl, hh3⟩ := HasR.shape hw3 HN.out.symm
 have HR3 := Lib.hid (OpR.mono hr3 (lo' := w.heap.size + 1 + 1 + 1) (by simp [World.setCell]; omega) (Nat.le_refl _))
 have HV3 := Lib.hid (hh3.mono RO_steady (lo' := w.heap.size + 1 + 1 + 1) (by simp [World.setCell]; omega))
 have hk2 : w2.heap[w.heap.size + 1]? = some (.cells #[.slice none 0 0, .slice none 0 0, .slice none 0 0] 42 (0, 0)) := by
  rw [hb2.block _ (by simp [World.setCell]; omega), Below.heap_setCell _ _ _ _ (by simp), Below.heap_setCell _ _ _ _ (by simp)]; exact HK1.out
 have d0 : w2.cell? ⟨w.heap.size + 1, 0, none⟩ = some (.slice none 0 0) := cell_of_row w2 _ 0 _ _ _ hk2
 have d1 : w2.cell? ⟨w.heap.size + 1, 1, none⟩ = some (.slice none 0 0) := cell_of_row w2 _ 1 _ _ _ hk2
 have d2 : w2.cell? ⟨w.heap.size + 1, 2, none⟩ = some (.slice none 0 0) := cell_of_row w2 _ 2 _ _ _ hk2
 have e0 := frozen_of_row w2 _ 0 _ _ hk2
 have e1 := frozen_of_row w2 _ 1 _ _ hk2
 have e2 := frozen_of_row w2 _ 2 _ _ hk2
 have HO1' := Lib.hid (own_below (own_grown (own_grown HO1.out (grown_set (g := w.heap.size + 1 + 1) (World.grownBy.refl _ _) 0 (.slice A1 P.length c1)) (by simp)) (grown_set (g := w.heap.size + 1 + 1) (World.grownBy.refl _ _) 1 (.slice A2 Q.length c2)) (by simp)) hb2)
 have HO2' := Lib.hid (own_below (own_grown (own_grown HO2.out (grown_set (g := w.heap.size + 1 + 1) (World.grownBy.refl _ _) 0 (.slice A1 P.length c1)) (by simp)) (grown_set (g := w.heap.size + 1 + 1) (World.grownBy.refl _ _) 1 (.slice A2 Q.length c2)) (by simp)) hb2)
 have hbw2 : Below w.heap.size w w2 := by
  refine Below.trans ?_ (hb2.mono ?_)
  ·exact (hbw.setCell (by simp; omega) _).setCell (by simp; omega) _
  ·simp [World.setCell]; omega
 obtain ⟨hc2, hf2⟩ := bcell hb2
 have hz2 : w.heap.size + 2 < w2.heap.size := by have := hb2.size; simp [World.setCell] at this; omega
 clear hw3 hh3 hr3 hk2 hb2
 go_wp2
 refine bodyPost_ret (v := .agg #[.slice A1 P.length c1, .slice A2 Q.length c2, .slice A3 n c3]) (by simp [results, Tryz.results9, go_sem, d0, d1, d2]) rfl ⟨_, _, _, rfl, ⟨⟨?_, ?_, HSS.out.short, HSS.out.in64⟩, ?_⟩, ?_, ?_, ?_, ?_⟩
 ·refine Has.of_own (base := w.heap.size + 1 + 1 + 1) (n := P.length) (e := 9) ?_
  repeat (refine own_grown ?_ (grown_set (World.grownBy.refl _ _) _ _) (by simp))
  exact HO1'.out
 ·refine HasP.of_own (base := w.heap.size + 1 + 1 + 1) (n := Q.length) (e := 163) ?_
  repeat (refine own_grown ?_ (grown_set (World.grownBy.refl _ _) _ _) (by simp))
  exact HO2'.out
 ·refine HasR.mono RO_steady (lo := w.heap.size + 1 + 1 + 1) ?_ (Nat.zero_le _)
  repeat (refine HasR.kept RO_steady ?_ (Kept.set (by simp) _))
  exact HV3.out
 ·refine Rw.mono (lo := w.heap.size + 1 + 1 + 1) (hi := w2.heap.size) ?_ (by omega) (by simp [World.setCell])
  repeat (refine Rw.kept ?_ (Kept.set (by simp) _))
  exact Rw.of_own HO1'.out
 ·refine Rw.mono (lo := w.heap.size + 1 + 1 + 1) (hi := w2.heap.size) ?_ (by omega) (by simp [World.setCell])
  repeat (refine Rw.kept ?_ (Kept.set (by simp) _))
  exact Rw.of_own HO2'.out
 ·refine OpR.mono (lo := w.heap.size + 1 + 1 + 1) (hi := w2.heap.size) ?_ (by omega) (by simp [World.setCell])
  repeat (refine OpR.kept ?_ (Kept.set (by simp) _))
  exact HR3.out
 ·repeat (refine Below.setCell ?_ (by first | (simp; done) | (simp; omega)) _)
  exact hbw2
end Go.Proofs.YtkkmjaggebjcbaaGreat.tmo
