/-
  THE MODEL's CLOSURES: l3Up, l3Kinds, l1Min.
-/
import Derived.Test.YtjejdcehlckfhaaGreatSortf
import Derived.BigRegion
namespace Go.Proofs.YtjejdcehlckfhaaGreat.sortu
open Go.ChangeShapes Go.WideShapes Go.ChangeAt Go.RowKit
open mem split strl subs sortn setm sets sortm sortp sorti sortf

theorem ivs_set (L : List Int) (k : Nat) (x : Int) : (ivs L).set k (.int .i64 x) = ivs (L.set k x) := by simp [ivs, List.map_set]
theorem nats_set (L : List Nat) (k x : Nat) : (nats L).set k (x : Int) = nats (L.set k x) := by
  simp [nats, List.map_set]
theorem nats_len (L : List Nat) : (nats L).length = L.length := by simp [nats]
theorem nats_snoc (L : List Nat) (x : Nat) : nats (L ++ [x]) = nats L ++ [(x : Int)] := by simp [nats]
theorem in_cell {w : World} {base g n cap : Nat} {U : List Nat} (h : w.ownsRow base 3 1 (.slice (some ⟨g, 0, none⟩) n cap) n (ivs (nats U))) {j : Nat} (hj : j < n) :
    w.cell? ⟨g, j, none⟩ = some (.int .i64 ((U.getD j 0 : Nat) : Int)) ∧ w.frozen? ⟨g, j, none⟩ = false := by
  refine ⟨?_, h.frozenAt j⟩
  have hl := h.1
  rw [h.cellAt j (by omega)]
  have hl2 : (ivs (nats U)).length = U.length := by rw [ivs_len, nats_len]
  have : (ivs (nats U))[j]? = some ((ivs (nats U)).getD j undef) := by
    rw [List.getElem?_eq_getElem (by omega)]; simp [List.getD, List.getElem?_eq_getElem (show j < (ivs (nats U)).length by omega)]
  rw [this, ivs_get _ _ (by rw [nats_len]; omega), nats_get]
theorem own_base {w : World} {base base' n : Nat} {e : TypeId} {size : Nat} {v : Value} {xs : List Value} (h : w.ownsRow base e size v n xs) (hb : base' ≤ base) : w.ownsRow base' e size v n xs := by
  refine ⟨h.1, ?_⟩
  rcases h.2 with h2 | ⟨g, cap, cur, hv, hg, r⟩
  · exact .inl h2
  · exact .inr ⟨g, cap, cur, hv, by omega, r⟩
set_option maxHeartbeats 4000000 in
/-- spec.l3Up -/
theorem l3Up_any (P : List (List UInt8)) (Q : List (Int × Int)) (hP1 : 1 ≤ P.length) (hP : P.length ≤ 8) (hQ : Q.length ≤ 32) (hin : PIn P.length Q) (va vb : Value) (w : World) (h : HasS w va vb P Q) :
    Calls Tryz.prog 77 #[.agg #[va, vb]] w fun e w' => ∃ v, e = .returned v ∧ w'.ownsRow w.heap.size 3 1 v P.length (ivs (nats (clo P.length (prs Q)))) ∧ Below w.heap.size w w' := by
  obtain ⟨i0, hi, hz0, hz1, hz2⟩ := info_parts info_int
  obtain ⟨A, ca, B, cb, rfl, rfl, hla, hlb, h'⟩ := h.shape
  obtain ⟨n, hn⟩ : ∃ n, n = P.length := ⟨_, rfl⟩
  obtain ⟨m, hm⟩ : ∃ m, m = Q.length := ⟨_, rfl⟩
  rw [← hn] at hP1 hP hin hla ⊢
  rw [← hm] at hQ hlb
  have hHP := h'.b
  rw [← hm] at hHP
  have HB := Lib.hid hHP
  have HN := Lib.hid hn
  have HM := Lib.hid hm
  have HIN := Lib.hid hin
  rw [← hm]
  clear h h' hn hm hin hHP
  go_enter Tryz.func77, Tryz.ntmps77
  go_wp2
  have hini : (((w.alloc (.cells #[.slice A n ca, .slice B m cb] 37)).alloc (.cells #[] 3)).ownsRow (w.heap.size + 1) 3 1 (.slice (some ⟨w.heap.size + 1, 0, none⟩) 0 0) 0 (ivs (nats (ident 0)))) := by
    have := World.ownsRow_lit (e := 3) (size := 1) (w.alloc (.cells #[.slice A n ca, .slice B m cb] 37)) #[] 0 (Nat.le_refl _) (by unfold maxLen; omega) rfl
    simpa [ident, ivs, nats] using this
  have HINI := Lib.hid hini
  clear hini
  go_loopw [3, 4] (fun v i wr => ∃ k : Nat, k ≤ n ∧ i = .int .i64 k ∧ wr.ownsRow (w.heap.size + 1) 3 1 v k (ivs (nats (ident k))) ∧ Below (w.heap.size + 1) (w.alloc (.cells #[.slice A n ca, .slice B m cb] 37)) wr) (fun _ i _ => n - (intOf i).toNat)
  case atStart =>
    exact ⟨0, Nat.zero_le _, rfl, HINI.out, (Below.refl _ _).alloc (by simp) _⟩
  case round =>
    obtain ⟨k, hk, rfl, hown, hbel⟩ := hrel
    have HO := Lib.hid (own_block hown)
    have c0 : wr.cell? ⟨w.heap.size, 0, none⟩ = some (.slice A n ca) := by rw [hbel.cell (p := ⟨w.heap.size, 0, none⟩) (by simp)]; simp
    have hsz : w.heap.size + 1 ≤ wr.heap.size := by have := hbel.size; simpa using this
    by_cases hlt : k < n
    · have HBIT := Lib.hid (fun W => l2Bit_any k (by omega) W)
      obtain ⟨z, hz⟩ : ∃ z, z = 2 ^ k := ⟨_, rfl⟩
      have HZ : Hid (ident (k + 1) = ident k ++ [z]) := Lib.hid (by rw [hz]; exact ident_succ k)
      rw [← hz] at HBIT
      clear hz
      go_wp2_with (first
        | (go_at_call 94; refine (HBIT.out _).mono ?_; rintro e w1 ⟨rfl, rfl⟩)
        | (at_builtin; refine wpList_append_own _ rfl _ _ 88 rfl (w.heap.size + 1) 3 i0 (.int .i64 0) 1 8 Tryz.underlying88 hi hz0 hz1 hz2 rfl (by decide) _ _ _ rfl (hown.alloc _) ⟨wr.heap.size, 0, none⟩ 1 1 [.int .i64 (z : Int)] rfl rfl (one_cell _ _ _) (one_one _ rfl) (by unfold maxLen; omega) (by omega) (by simp; omega) ?_))
      intro v2 w2 hown2 hgrow2 _
      have HB2 := (hbel.alloc hsz (.cells #[.int .i64 (z : Int)] 3)).grown hgrow2 (by simp; omega) HO.out
      have HOWN : w2.ownsRow (w.heap.size + 1) 3 1 v2 (k + 1) (ivs (nats (ident (k + 1)))) := by rw [HZ.out]; simpa [ivs, nats] using hown2
      clear hown2 hgrow2 hown hbel
      go_wp2
      go_roundw
      case rel => exact ⟨k + 1, by omega, by go_num, HOWN, HB2⟩
      case measure => simp [intOf]; omega
    · obtain rfl : k = n := by omega
      clear hlt
      obtain ⟨g, cap, rfl, hgb, hgs⟩ := own_shape hown (by intro e; have := hown.1; rw [e] at this; simp at this; omega)
      have HOWN := Lib.hid hown
      have HBEL := Lib.hid hbel
      clear hown hbel hsz
      go_wp2
      clear c0
      go_loopw [5] (fun i wr => ∃ t : Nat, t ≤ k ∧ i = .int .i64 t ∧ wr.ownsRow (w.heap.size + 1) 3 1 (.slice (some ⟨g, 0, none⟩) k cap) k (ivs (nats (iterU (prs Q) (ident k) t))) ∧ Below (w.heap.size + 1) (w.alloc (.cells #[.slice A k ca, .slice B m cb] 37)) wr) (fun i _ => k - (intOf i).toNat)
      case atStart => exact ⟨0, Nat.zero_le _, rfl, HOWN.out, HBEL.out⟩
      case round =>
        obtain ⟨t, ht, rfl, hown, hbel⟩ := hrel
        have c0 : wr.cell? ⟨w.heap.size, 0, none⟩ = some (.slice A k ca) := by rw [hbel.cell (p := ⟨w.heap.size, 0, none⟩) (by simp)]; simp
        by_cases hlt : t < k
        · have HOWN2 := Lib.hid hown
          have HBEL2 := Lib.hid hbel
          clear hown hbel
          go_wp2
          clear c0
          go_loopw [6] (fun i wr => ∃ j : Nat, j ≤ m ∧ i = .int .i64 j ∧ wr.ownsRow (w.heap.size + 1) 3 1 (.slice (some ⟨g, 0, none⟩) k cap) k (ivs (nats (midU k (prs Q) t j))) ∧ Below (w.heap.size + 1) (w.alloc (.cells #[.slice A k ca, .slice B m cb] 37)) wr) (fun i _ => m - (intOf i).toNat)
          case atStart => exact ⟨0, Nat.zero_le _, rfl, by rw [midU_zero]; exact HOWN2.out, HBEL2.out⟩
          case round =>
            obtain ⟨j, hj, rfl, hown, hbel⟩ := hrel
            have c1 : wr.cell? ⟨w.heap.size, 1, none⟩ = some (.slice B m cb) := by rw [hbel.cell (p := ⟨w.heap.size, 1, none⟩) (by simp)]; simp
            by_cases hlt3 : j < m
            · obtain ⟨gq, o, rfl, hg, hcell, hcell2⟩ := HB.out.cellAt hlt3
              have hbw : Below w.heap.size w wr := ((Below.refl _ _).alloc (Nat.le_refl _) _).trans (hbel.mono (by omega))
              rw [← hbw.cell (p := ⟨gq, o + j * 2, none⟩) hg] at hcell
              rw [← hbw.cell (p := ⟨gq, o + j * 2 + 1, none⟩) hg] at hcell2
              have hin := HIN.out.get (k := j) (by have := HM.out; omega)
              have hs := midU_succ k (prs Q) t j (by rw [prs_len]; have := HM.out; omega)
              rw [prs_get] at hs
              have hl1 := midU_lt HIN.out.inR t j (Q.getD j (0, 0)).1.toNat
              have hl2 := midU_lt HIN.out.inR t j (Q.getD j (0, 0)).2.toNat
              have hpk := pow8 hP
              have HLEN := Lib.hid (midU_len k (prs Q) t j)
              obtain ⟨x, hx⟩ : ∃ x, x = (Q.getD j (0, 0)).1 := ⟨_, rfl⟩
              obtain ⟨y, hy⟩ : ∃ y, y = (Q.getD j (0, 0)).2 := ⟨_, rfl⟩
              rw [← hx, ← hy] at hin hs
              rw [← hx] at hcell hl1
              rw [← hy] at hcell2 hl2
              obtain ⟨x', rfl⟩ : ∃ x' : Nat, x = (x' : Int) := ⟨x.toNat, by omega⟩
              obtain ⟨y', rfl⟩ : ∃ y' : Nat, y = (y' : Int) := ⟨y.toNat, by omega⟩
              simp only [Int.toNat_natCast] at hs hl1 hl2
              obtain ⟨U, hU⟩ : ∃ U, U = midU k (prs Q) t j := ⟨_, rfl⟩
              rw [← hU] at hs hl1 hl2 hown HLEN
              have HS : Hid (midU k (prs Q) t (j + 1) = U.set x' (U.getD x' 0 ||| U.getD y' 0)) := Lib.hid (by rw [hs, stepU])
              have hor := or_i64 (U.getD x' 0) (U.getD y' 0) (by omega) (by omega)
              have hxk : x' < k := by omega
              have hyk : y' < k := by omega
              obtain ⟨d0, f0⟩ := in_cell hown hxk
              obtain ⟨d1, _⟩ := in_cell hown hyk
              have HOWN3 := Lib.hid hown
              obtain ⟨a, ha⟩ : ∃ a, a = U.getD x' 0 := ⟨_, rfl⟩
              obtain ⟨b, hb⟩ : ∃ b, b = U.getD y' 0 := ⟨_, rfl⟩
              rw [← ha, ← hb] at hor HS
              rw [← ha] at hl1 d0
              rw [← hb] at hl2 d1
              clear hx hy hs hU ha hb hown hl1 hl2
              have HBEL3 := Lib.hid hbel
              have HBW3 := Lib.hid hbw
              clear hbel hbw
              go_wp2
              go_region
              go_wp2
              go_roundw
              case rel =>
                refine ⟨j + 1, by omega, by go_num, ?_, ?_⟩
                · have := setCell_own HOWN3.out x' (.int .i64 ((a ||| b : Nat) : Int))
                  rw [ivs_set, nats_set] at this
                  rw [HS.out]
                  first | exact this | exact own_below this ((Below.refl _ _).drew)
                · first | exact HBEL3.out.setCell hgb _ | exact (HBEL3.out.setCell hgb _).drew
              case measure => simp [intOf]; omega
            · obtain rfl : j = m := by omega
              have HOWN4 : Hid (wr.ownsRow (w.heap.size + 1) 3 1 (.slice (some ⟨g, 0, none⟩) k cap) k (ivs (nats (iterU (prs Q) (ident k) (t + 1))))) := Lib.hid (by rw [← midU_last, prs_len, ← HM.out]; exact hown)
              clear hown
              go_wp2
              go_roundw
              case rel => exact ⟨t + 1, by omega, by go_num, HOWN4.out, hbel⟩
              case measure => simp [intOf]; omega
        · obtain rfl : t = k := by omega
          go_wp2
          go_ret
          exact ⟨_, rfl, own_base hown (by omega), ((Below.refl _ _).alloc (Nat.le_refl _) _).trans (hbel.mono (by omega))⟩
/-- spec.l1Min, at small numbers -/
theorem l1Min_any (a b : Nat) (ha : a < 65536) (hb : b < 65536) (w : World) :
    Calls Tryz.prog 177 #[.int .i64 (a : Int), .int .i64 (b : Int)] w fun e w' => e = .returned (.int .i64 ((min a b : Nat) : Int)) ∧ w = w' := by
  obtain ⟨c, hc⟩ : ∃ c, c = min a b := ⟨_, rfl⟩
  rw [← hc]
  by_cases h : a < b
  · have hca : c = a := by omega
    subst hca
    clear hc
    go_enter Tryz.func177, Tryz.ntmps177
    go_wp2
    go_ret
    exact ⟨rfl, rfl⟩
  · have hcb : c = b := by omega
    subst hcb
    clear hc
    have hd : decide ((a : Int) < (c : Int)) = false := by simp; omega
    go_enter Tryz.func177, Tryz.ntmps177
    go_wp2
    go_ret
    exact ⟨rfl, rfl⟩
set_option maxHeartbeats 4000000 in
/-- spec.l3Kinds -/
theorem l3Kinds_any (P : List (List UInt8)) (Q : List (Int × Int)) (hP1 : 1 ≤ P.length) (hP : P.length ≤ 8) (hQ : Q.length ≤ 32) (hin : PIn P.length Q) (hne : ∀ p ∈ Q, p.1 ≠ p.2) (va vb : Value) (w : World) (h : HasS w va vb P Q) :
    Calls Tryz.prog 142 #[.agg #[va, vb]] w fun e w' => ∃ v, e = .returned v ∧ w'.ownsRow w.heap.size 3 1 v P.length (ivs (nats (kin P.length (prs Q)))) ∧ Below w.heap.size w w' := by
  obtain ⟨i0, hi, hz0, hz1, hz2⟩ := info_parts info_int
  obtain ⟨A, ca, B, cb, rfl, rfl, hla, hlb, h'⟩ := h.shape
  obtain ⟨n, hn⟩ : ∃ n, n = P.length := ⟨_, rfl⟩
  obtain ⟨m, hm⟩ : ∃ m, m = Q.length := ⟨_, rfl⟩
  rw [← hn] at hP1 hP hin hla ⊢
  rw [← hm] at hQ hlb
  have hHP := h'.b
  rw [← hm] at hHP
  have HB := Lib.hid hHP
  have HN := Lib.hid hn
  have HM := Lib.hid hm
  have HIN := Lib.hid hin
  have HNE : Hid (∀ j, j < Q.length → (Q.getD j (0, 0)).1 ≠ (Q.getD j (0, 0)).2) := Lib.hid (fun j hj => by
    have := hne _ (List.getElem_mem hj)
    simpa [List.getD, List.getElem?_eq_getElem hj] using this)
  clear hne
  rw [← hm]
  clear h h' hn hm hin hHP
  go_enter Tryz.func142, Tryz.ntmps142
  go_wp2
  have hini : (((w.alloc (.cells #[.slice A n ca, .slice B m cb] 37)).alloc (.cells #[] 3)).ownsRow (w.heap.size + 1) 3 1 (.slice (some ⟨w.heap.size + 1, 0, none⟩) 0 0) 0 (ivs (nats (List.range 0)))) := by
    have := World.ownsRow_lit (e := 3) (size := 1) (w.alloc (.cells #[.slice A n ca, .slice B m cb] 37)) #[] 0 (Nat.le_refl _) (by unfold maxLen; omega) rfl
    simpa [ivs, nats] using this
  have HINI := Lib.hid hini
  clear hini
  go_loopw [3, 4] (fun v i wr => ∃ k : Nat, k ≤ n ∧ i = .int .i64 k ∧ wr.ownsRow (w.heap.size + 1) 3 1 v k (ivs (nats (List.range k))) ∧ Below (w.heap.size + 1) (w.alloc (.cells #[.slice A n ca, .slice B m cb] 37)) wr) (fun _ i _ => n - (intOf i).toNat)
  case atStart =>
    exact ⟨0, Nat.zero_le _, rfl, HINI.out, (Below.refl _ _).alloc (by simp) _⟩
  case round =>
    obtain ⟨k, hk, rfl, hown, hbel⟩ := hrel
    have HO := Lib.hid (own_block hown)
    have c0 : wr.cell? ⟨w.heap.size, 0, none⟩ = some (.slice A n ca) := by rw [hbel.cell (p := ⟨w.heap.size, 0, none⟩) (by simp)]; simp
    have hsz : w.heap.size + 1 ≤ wr.heap.size := by have := hbel.size; simpa using this
    by_cases hlt : k < n
    · go_wp2_with (at_builtin; refine wpList_append_own _ rfl _ _ 88 rfl (w.heap.size + 1) 3 i0 (.int .i64 0) 1 8 Tryz.underlying88 hi hz0 hz1 hz2 rfl (by decide) _ _ _ rfl (hown.alloc _) ⟨wr.heap.size, 0, none⟩ 1 1 [.int .i64 (k : Int)] rfl rfl (one_cell _ _ _) (one_one _ rfl) (by unfold maxLen; omega) (by omega) (by simp; omega) ?_)
      intro v2 w2 hown2 hgrow2 _
      have HB2 := (hbel.alloc hsz (.cells #[.int .i64 (k : Int)] 3)).grown hgrow2 (by simp; omega) HO.out
      have HOWN : w2.ownsRow (w.heap.size + 1) 3 1 v2 (k + 1) (ivs (nats (List.range (k + 1)))) := by rw [List.range_succ]; simpa [ivs, nats] using hown2
      clear hown2 hgrow2 hown hbel
      go_wp2
      go_roundw
      case rel => exact ⟨k + 1, by omega, by go_num, HOWN, HB2⟩
      case measure => simp [intOf]; omega
    · obtain rfl : k = n := by omega
      clear hlt
      obtain ⟨g, cap, rfl, hgb, hgs⟩ := own_shape hown (by intro e; have := hown.1; rw [e] at this; simp at this; omega)
      have HOWN := Lib.hid hown
      have HBEL := Lib.hid hbel
      clear hown hbel hsz
      go_wp2
      clear c0
      go_loopw [5] (fun i wr => ∃ t : Nat, t ≤ k ∧ i = .int .i64 t ∧ wr.ownsRow (w.heap.size + 1) 3 1 (.slice (some ⟨g, 0, none⟩) k cap) k (ivs (nats (iterK (prs Q) (List.range k) t))) ∧ Below (w.heap.size + 1) (w.alloc (.cells #[.slice A k ca, .slice B m cb] 37)) wr) (fun i _ => k - (intOf i).toNat)
      case atStart => exact ⟨0, Nat.zero_le _, rfl, HOWN.out, HBEL.out⟩
      case round =>
        obtain ⟨t, ht, rfl, hown, hbel⟩ := hrel
        have c0 : wr.cell? ⟨w.heap.size, 0, none⟩ = some (.slice A k ca) := by rw [hbel.cell (p := ⟨w.heap.size, 0, none⟩) (by simp)]; simp
        by_cases hlt : t < k
        · have HOWN2 := Lib.hid hown
          have HBEL2 := Lib.hid hbel
          clear hown hbel
          go_wp2
          clear c0
          go_loopw [6] (fun i wr => ∃ j : Nat, j ≤ m ∧ i = .int .i64 j ∧ wr.ownsRow (w.heap.size + 1) 3 1 (.slice (some ⟨g, 0, none⟩) k cap) k (ivs (nats (midK k (prs Q) t j))) ∧ Below (w.heap.size + 1) (w.alloc (.cells #[.slice A k ca, .slice B m cb] 37)) wr) (fun i _ => m - (intOf i).toNat)
          case atStart => exact ⟨0, Nat.zero_le _, rfl, by rw [midK_zero]; exact HOWN2.out, HBEL2.out⟩
          case round =>
            obtain ⟨j, hj, rfl, hown, hbel⟩ := hrel
            have c1 : wr.cell? ⟨w.heap.size, 1, none⟩ = some (.slice B m cb) := by rw [hbel.cell (p := ⟨w.heap.size, 1, none⟩) (by simp)]; simp
            by_cases hlt3 : j < m
            · obtain ⟨gq, o, rfl, hg, hcell, hcell2⟩ := HB.out.cellAt hlt3
              have hbw : Below w.heap.size w wr := ((Below.refl _ _).alloc (Nat.le_refl _) _).trans (hbel.mono (by omega))
              rw [← hbw.cell (p := ⟨gq, o + j * 2, none⟩) hg] at hcell
              rw [← hbw.cell (p := ⟨gq, o + j * 2 + 1, none⟩) hg] at hcell2
              have hin := HIN.out.get (k := j) (by have := HM.out; omega)
              have hs := midK_succ k (prs Q) t j (by rw [prs_len]; have := HM.out; omega)
              rw [prs_get] at hs
              have hxy := HNE.out j (by have := HM.out; omega)
              have hb1 := midK_lt HIN.out.inR t j (Q.getD j (0, 0)).1.toNat (by omega)
              have hb2 := midK_lt HIN.out.inR t j (Q.getD j (0, 0)).2.toNat (by omega)
              have HLEN := Lib.hid (midK_len k (prs Q) t j)
              obtain ⟨x, hx⟩ : ∃ x, x = (Q.getD j (0, 0)).1 := ⟨_, rfl⟩
              obtain ⟨y, hy⟩ : ∃ y, y = (Q.getD j (0, 0)).2 := ⟨_, rfl⟩
              rw [← hx, ← hy] at hin hs hxy
              rw [← hx] at hb1
              rw [← hy] at hb2
              rw [← hx] at hcell
              rw [← hy] at hcell2
              obtain ⟨x', rfl⟩ : ∃ x' : Nat, x = (x' : Int) := ⟨x.toNat, by omega⟩
              obtain ⟨y', rfl⟩ : ∃ y' : Nat, y = (y' : Int) := ⟨y.toNat, by omega⟩
              simp only [Int.toNat_natCast] at hs hb1 hb2
              have hxy1 : x' ≠ y' := by omega
              have hxy2 : y' ≠ x' := by omega
              clear hxy
              obtain ⟨U, hU⟩ : ∃ U, U = midK k (prs Q) t j := ⟨_, rfl⟩
              rw [← hU] at hs hb1 hb2 hown HLEN
              have HS : Hid (midK k (prs Q) t (j + 1) = (U.set x' (min (U.getD x' 0) (U.getD y' 0))).set y' (min (U.getD x' 0) (U.getD y' 0))) := Lib.hid (by rw [hs, stepK])
              have hxk : x' < k := by omega
              have hyk : y' < k := by omega
              obtain ⟨d0, f0⟩ := in_cell hown hxk
              obtain ⟨d1, f1⟩ := in_cell hown hyk
              have HOWN3 := Lib.hid hown
              obtain ⟨a, ha⟩ : ∃ a, a = U.getD x' 0 := ⟨_, rfl⟩
              obtain ⟨b, hb⟩ : ∃ b, b = U.getD y' 0 := ⟨_, rfl⟩
              rw [← ha, ← hb] at HS
              rw [← ha] at d0 hb1
              rw [← hb] at d1 hb2
              have HMN := Lib.hid (fun W => l1Min_any a b (by omega) (by omega) W)
              obtain ⟨c, hc⟩ : ∃ c, c = min a b := ⟨_, rfl⟩
              rw [← hc] at HMN HS
              clear hx hy hs hU ha hb hown hc hb1 hb2
              have HBEL3 := Lib.hid hbel
              have HBW3 := Lib.hid hbw
              clear hbel hbw
              go_wp2
              go_quiet (fail)
              go_wp2
              go_quiet ((go_at_call 177; exact (HMN.out _).mono (fun _ _ h => ⟨h.1, _, h.2.symm⟩)))
              go_wp2
              go_roundw
              case rel =>
                refine ⟨j + 1, by omega, by go_num, ?_, ?_⟩
                · have := setCell_own (setCell_own HOWN3.out x' (.int .i64 ((c : Nat) : Int))) y' (.int .i64 ((c : Nat) : Int))
                  rw [ivs_set, nats_set, ivs_set, nats_set] at this
                  rw [HS.out]
                  first | exact this | exact own_below this ((Below.refl _ _).drew)
                · repeat (first | exact HBEL3.out | refine Below.setCell ?_ hgb _ | refine Below.drew ?_ | refine below_drewN ?_ _)
              case measure => simp [intOf]; omega
            · obtain rfl : j = m := by omega
              have HOWN4 : Hid (wr.ownsRow (w.heap.size + 1) 3 1 (.slice (some ⟨g, 0, none⟩) k cap) k (ivs (nats (iterK (prs Q) (List.range k) (t + 1))))) := Lib.hid (by rw [← midK_last, prs_len, ← HM.out]; exact hown)
              clear hown
              go_wp2
              go_roundw
              case rel => exact ⟨t + 1, by omega, by go_num, HOWN4.out, hbel⟩
              case measure => simp [intOf]; omega
        · obtain rfl : t = k := by omega
          go_wp2
          go_ret
          exact ⟨_, rfl, own_base hown (by omega), ((Below.refl _ _).alloc (Nat.le_refl _) _).trans (hbel.mono (by omega))⟩
end Go.Proofs.YtjejdcehlckfhaaGreat.sortu
