/-
  CONTRACTS OF THE MODEL'S l5Var, l5Insert, l5Collect, VariablesOf, IsGround.
-/
import Derived.Test.YtejkkdnjdfehjaaTermvx
import Derived.Test.YtejkkdnjdfehjaaTermvo
import Derived.Deep.RegionLaw
namespace Go.Proofs.Ytejkkdnjdfehjaa.termin
open Go.ChangeShapes Go.WideShapes Go.ChangeAt Go.RowKit
open mem dec rowl trm trmv terml termb termt termu termv termvo termx termz termro termsd termvr termcf termso termvx

theorem var_any (l : List UInt8) (s : Int) (w : World) : Calls Try.prog 79 #[.string (bstr l), .int .i64 s] w fun e w' => e = .returned (.agg #[.int .i64 (-1), .string (bstr l), .int .i64 s, .slice none 0 0]) ∧ Below w.heap.size w w' := by
  go_enter Try.func79, Try.ntmps79
  go_wp2
  refine bodyPost_ret (v := .agg #[.int .i64 (-1), .string (bstr l), .int .i64 s, .slice none 0 0]) (by simp [results, Try.results79, go_sem]) rfl ⟨rfl, ?_⟩
  repeat (first | (refine Below.setCell ?_ (by first | (simp; done) | (simp; omega)) _) | (refine Below.alloc ?_ (by first | (simp; done) | (simp; omega)) _))
  exact Below.refl _ _
/-- a row of these terms without arguments, in a block of its own at or above b -/
def RowPost (b : Nat) (L : List TermM) (w : World) (e : Ending) (w' : World) : Prop := ∃ g cap m, m = L.length ∧ e = .returned (.slice (some ⟨g, 0, none⟩) m cap) ∧ w'.ownsRow b 51 4 (.slice (some ⟨g, 0, none⟩) m cap) m (flatV L) ∧ Below w.heap.size w w'
abbrev S4 (W : World) (x : Nat) (a : Int) (l : List UInt8) (s : Int) (w' : World) : Prop := (w'.cell? ⟨x, 0, none⟩ = some (.int .i64 a) ∧ w'.cell? ⟨x, 1, none⟩ = some (.string (bstr l)) ∧ w'.cell? ⟨x, 2, none⟩ = some (.int .i64 s) ∧ w'.cell? ⟨x, 3, none⟩ = some (.slice none 0 0)) ∧ Below W.heap.size W w'
theorem S4.next {W w0 w1 : World} {x : Nat} {a : Int} {l : List UInt8} {s : Int} (h : S4 W x a l s w0) (hx : x < W.heap.size) (hb : Below W.heap.size w0 w1) : S4 W x a l s w1 := by
  have k : ∀ y, w1.cell? ⟨x, y, none⟩ = w0.cell? ⟨x, y, none⟩ := fun y => hb.cell (p := ⟨x, y, none⟩) hx
  unfold S4
  rw [k, k, k, k]
  exact ⟨h.1, h.2.trans hb⟩
theorem S4.al {W w0 : World} {x : Nat} {a : Int} {l : List UInt8} {s : Int} (h : S4 W x a l s w0) (hx : x < W.heap.size) {o : Obj} : S4 W x a l s (w0.alloc o) := h.next hx ((Below.refl _ _).alloc h.2.size _)
theorem S4.ald {W w0 : World} {x : Nat} {a : Int} {l : List UInt8} {s : Int} (h : S4 W x a l s w0.drew) (hx : x < W.heap.size) {o : Obj} : S4 W x a l s (w0.alloc o).drew := h.next hx ((Below.refl _ w0.drew).alloc h.2.size o)
theorem fresh_a (w : World) : (w.alloc (.cells #[] 51)).drew.ownsRow w.heap.size 51 4 (.slice (some ⟨w.heap.size, 0, none⟩) 0 0) 0 [] := World.ownsRow_lit (e := 51) (size := 4) w.drew #[] 0 (Nat.le_refl _) (by unfold maxLen; omega) rfl
theorem fresh_b (w : World) (o : Obj) : ((w.alloc (.cells #[] 51)).alloc o).drew.ownsRow w.heap.size 51 4 (.slice (some ⟨w.heap.size, 0, none⟩) 0 0) 0 [] := own_below (fresh_a w) ((Below.refl _ (w.alloc (.cells #[] 51)).drew).alloc (Nat.le_refl _) o)
theorem fresh_c (w : World) (o : Obj) : ((w.alloc o).alloc (.cells #[] 51)).drew.ownsRow w.heap.size 51 4 (.slice (some ⟨w.heap.size + 1, 0, none⟩) 0 0) 0 [] := by
  have h := fresh_a (w.alloc o)
  rw [show (w.alloc o).heap.size = w.heap.size + 1 by simp] at h
  exact own_mono h (by omega)
/-- the first k of a row, as a source -/
theorem src_take {w w' : World} {b n g cap k : Nat} {L : List TermM} (h : w.ownsRow b 51 4 (.slice (some ⟨g, 0, none⟩) n cap) n (flatV L)) (hk : k ≤ n) (hb : Below w.heap.size w w') : ∀ (j : Nat) (x : Value), (flatV (L.take k))[j]? = some x → w'.cell? ((⟨g, 0, none⟩ : Addr).add j) = some x := by
  intro j x hx
  rw [← flatV_take] at hx
  have hlt : j < k * 4 := by have := (List.getElem?_eq_some_iff.1 hx).1; rw [List.length_take] at this; omega
  rw [List.getElem?_take_of_lt hlt] at hx
  have := (own_below h hb).cellAt j (by omega)
  rw [hx] at this
  rw [Addr.add_lit, Nat.zero_add]
  exact this
theorem flatV_drop : ∀ (L : List TermM) (k : Nat), flatV (L.drop k) = (flatV L).drop (k * 4)
  | [], k => by simp [flatV]
  | a :: l, 0 => by simp
  | a :: l, k + 1 => by rw [List.drop_succ_cons, flatV_drop l k, flatV, show (k + 1) * 4 = k * 4 + 4 by omega]; rfl
/-- from the k-th on, as a source -/
theorem src_drop {w w' : World} {b n g cap k : Nat} {L : List TermM} (h : w.ownsRow b 51 4 (.slice (some ⟨g, 0, none⟩) n cap) n (flatV L)) (hn : n = L.length) (hb : Below w.heap.size w w') : ∀ (j : Nat) (x : Value), (flatV (L.drop k))[j]? = some x → w'.cell? ((⟨g, k * 4, none⟩ : Addr).add j) = some x := by
  intro j x hx
  rw [flatV_drop, List.getElem?_drop] at hx
  have hlt : k * 4 + j < n * 4 := by have := (List.getElem?_eq_some_iff.1 hx).1; rw [flatV_len] at this; omega
  have := (own_below h hb).cellAt (k * 4 + j) hlt
  rw [hx] at this
  rw [Addr.add_lit]
  exact this
theorem flat_one (l : List TermM) : ∀ x ∈ flatV l, x.oneCell' = true := by
  induction l with
  | nil => intro x hx; simp [flatV] at hx
  | cons a l ih =>
    intro x hx
    simp only [flatV, List.mem_cons] at hx
    rcases hx with rfl | rfl | rfl | rfl | hx
    · rfl
    · rfl
    · rfl
    · rfl
    · exact ih x hx
theorem src_b {W w4 : World} {a b c d : Value} (h : ((W.alloc (.cells #[] 51)).alloc (.cells #[a, b, c, d] 51)).drew.grownBy w4 (some W.heap.size)) : ∀ (j : Nat) (x : Value), [a, b, c, d][j]? = some x → w4.cell? ((⟨W.heap.size + 1, 0, none⟩ : Addr).add j) = some x := by
  intro j x hj
  have h1 := at4 (W.alloc (.cells #[] 51)) a b c d 51 (W.heap.size + 1) (by simp) j x hj
  rw [Addr.add_lit, Nat.zero_add] at h1 ⊢
  exact (h.cell_far ⟨W.heap.size + 1, j, none⟩ (by simp) (by show some (W.heap.size + 1) ≠ some W.heap.size; intro e; injection e; omega)).trans h1
theorem src_c {W w4 : World} {a b c d : Value} (h : ((W.alloc (.cells #[a, b, c, d] 51)).alloc (.cells #[] 51)).drew.grownBy w4 (some (W.heap.size + 1))) : ∀ (j : Nat) (x : Value), [a, b, c, d][j]? = some x → w4.cell? ((⟨W.heap.size, 0, none⟩ : Addr).add j) = some x := by
  intro j x hj
  have h1 := one4 W a b c d 51 j x hj
  rw [Addr.add_lit, Nat.zero_add] at h1 ⊢
  have h2 := ((Below.refl (W.alloc (.cells #[a, b, c, d] 51)).heap.size (W.alloc (.cells #[a, b, c, d] 51))).alloc (Nat.le_refl _) (.cells #[] 51)).cell (p := ⟨W.heap.size, j, none⟩) (by simp)
  exact (h.cell_far ⟨W.heap.size, j, none⟩ (by simp; omega) (by show some W.heap.size ≠ some (W.heap.size + 1); intro e; injection e; omega)).trans (h2.trans h1)
theorem S4.grown {W w0 w1 : World} {x g : Nat} {a : Int} {l : List UInt8} {s : Int} (h : S4 W x a l s w0) (hx : x < W.heap.size) (hg : w0.grownBy w1 (some g)) (hgW : W.heap.size ≤ g) : S4 W x a l s w1 :=
  h.next hx ((Below.refl _ _).grown hg h.2.size (by intro k hk; cases hk; exact hgW))
set_option maxRecDepth 50000 in
set_option maxHeartbeats 8000000 in
/-- spec.l5Insert -/
theorem insert_any (L : List TermM) (t : TermM) (n g cap b : Nat) (w : World) (hn : n = L.length) (hn30 : n ≤ 1073741824) (hL : ∀ x ∈ L, Flat x) (ht : Flat t) (hb : b ≤ w.heap.size) (ho : w.ownsRow b 51 4 (.slice (some ⟨g, 0, none⟩) n cap) n (flatV L)) :
    Calls Try.prog 78 #[.slice (some ⟨g, 0, none⟩) n cap, .agg #[.int .i64 t.op, .string (bstr t.name), .int .i64 t.sort, .slice none 0 0]] w (RowPost b (insT L t) w) := by
  obtain ⟨hbg, hgw, hnc⟩ := own_lt ho
  obtain ⟨j0, hij, hy0, hy1, hy2⟩ := info_parts info_term
  have hta : t.args = [] := ht.1
  have HC := Lib.hid (fun x (hx : x.args = []) W => scmp_any (n := 1) (m := 1) (lo := 0) (lo' := 0) x t (.slice none 0 0) (.slice none 0 0) W (by rw [hx]; exact HasR.nil _ _ _ (by unfold maxLen; omega) _) (by rw [hta]; exact HasR.nil _ _ _ (by unfold maxLen; omega) _))
  have HSM := Lib.hid (fun x (hx : x.args = []) W r hr => same_any (n := 1) (m := 1) (lo := 0) (lo' := 0) x t (.slice none 0 0) (.slice none 0 0) W (by rw [hx]; exact HasR.nil _ _ _ (by unfold maxLen; omega) _) (by rw [hta]; exact HasR.nil _ _ _ (by unfold maxLen; omega) _) r hr)
  have HA : Hid (∀ j, j < n → (L.getD j default).args = []) := Lib.hid (fun j hj => by rw [getD_at (by omega)]; exact (hL _ (List.getElem_mem _)).1)
  have HN := Lib.hid hn
  have HO := Lib.hid ho
  have HFV : Hid ([.int .i64 t.op, .string (bstr t.name), .int .i64 t.sort, .slice none 0 0] = flatV [t]) := Lib.hid rfl
  obtain ⟨to, hto⟩ : ∃ q, q = t.op := ⟨_, rfl⟩
  obtain ⟨tn, htn⟩ : ∃ q, q = t.name := ⟨_, rfl⟩
  obtain ⟨ts, hts⟩ : ∃ q, q = t.sort := ⟨_, rfl⟩
  rw [← hto, ← htn, ← hts] at HC HFV ⊢
  unfold aggT at HSM
  rw [← hto, ← htn, ← hts] at HSM
  clear hn hL ho ht hta hto htn hts
  go_enter Try.func78, Try.ntmps78
  go_wp2
  go_loopw [5] (fun v5 wr => ∃ k : Nat, v5 = .int .i64 k ∧ k ≤ n ∧ Hid (∀ j, j < k → cmp (L.getD j default) t < 0) ∧ Below (w.heap.size + 1) (w.alloc (.cells #[.int .i64 to, .string (bstr tn), .int .i64 ts, .slice none 0 0] 51)) wr) (fun i _ => n - (intOf i).toNat)
  case atStart => exact ⟨0, rfl, Nat.zero_le _, Lib.hid (fun j h => by omega), Below.refl _ _⟩
  case round =>
    obtain ⟨k, rfl, hkn, HJ, hbel⟩ := hrel
    have hsz : w.heap.size + 1 ≤ wr.heap.size := by have := hbel.size; simp at this; omega
    have hbw : Below w.heap.size w wr := ((Below.refl _ _).alloc (Nat.le_refl _) _).trans (hbel.mono (by omega))
    have hx0 : w.heap.size < wr.heap.size := by omega
    have hgr : g < wr.heap.size := by omega
    have q0 : wr.cell? ⟨w.heap.size, 0, none⟩ = some (.int .i64 to) := (hbel.cell (p := ⟨w.heap.size, 0, none⟩) (Nat.lt_succ_self _)).trans (by simp)
    have q1 : wr.cell? ⟨w.heap.size, 1, none⟩ = some (.string (bstr tn)) := (hbel.cell (p := ⟨w.heap.size, 1, none⟩) (Nat.lt_succ_self _)).trans (by simp)
    have q2 : wr.cell? ⟨w.heap.size, 2, none⟩ = some (.int .i64 ts) := (hbel.cell (p := ⟨w.heap.size, 2, none⟩) (Nat.lt_succ_self _)).trans (by simp)
    have q3 : wr.cell? ⟨w.heap.size, 3, none⟩ = some (.slice none 0 0) := (hbel.cell (p := ⟨w.heap.size, 3, none⟩) (Nat.lt_succ_self _)).trans (by simp)
    have s0 : ∀ t : BoxC (Below wr.heap.size wr), t.W.cell? ⟨w.heap.size, 0, none⟩ = some (.int .i64 to) := fun t => t.cell q0 hx0
    have s1 : ∀ t : BoxC (Below wr.heap.size wr), t.W.cell? ⟨w.heap.size, 1, none⟩ = some (.string (bstr tn)) := fun t => t.cell q1 hx0
    have s2 : ∀ t : BoxC (Below wr.heap.size wr), t.W.cell? ⟨w.heap.size, 2, none⟩ = some (.int .i64 ts) := fun t => t.cell q2 hx0
    have s3 : ∀ t : BoxC (Below wr.heap.size wr), t.W.cell? ⟨w.heap.size, 3, none⟩ = some (.slice none 0 0) := fun t => t.cell q3 hx0
    have HQ : Hid (S4 wr w.heap.size to tn ts wr) := Lib.hid ⟨⟨q0, q1, q2, q3⟩, Below.refl _ _⟩
    have HO1 := Lib.hid (own_below HO.out hbw)
    clear q0 q1 q2 q3
    have nb : Nonempty (BoxC (Below wr.heap.size wr)) := ⟨⟨_, Below.refl _ _⟩⟩
    by_cases hlt : k < n
    · have hln : n = L.length := HN.out
      obtain ⟨c0, c1, c2, c3⟩ := cells_at HO1.out hlt (flatV_at (by omega))
      obtain ⟨x, hx⟩ : ∃ t, t = L.getD k default := ⟨_, rfl⟩
      rw [← hx] at c0 c1 c2
      have hxa : x.args = [] := by rw [hx]; exact HA.out _ hlt
      have HX := Lib.hid hx
      have HC1 := Lib.hid (HC.out x hxa)
      have HS1 := Lib.hid (HSM.out x hxa)
      obtain ⟨r, hr⟩ : ∃ r, r = cmp x t := ⟨_, rfl⟩
      rw [← hr] at HC1 HS1
      have HR := Lib.hid hr
      have r0 : ∀ t : BoxC (Below wr.heap.size wr), t.W.cell? ⟨g, k * 4, none⟩ = some (.int .i64 x.op) := fun t => t.cell c0 hgr
      have r1 : ∀ t : BoxC (Below wr.heap.size wr), t.W.cell? ⟨g, k * 4 + 1, none⟩ = some (.string (bstr x.name)) := fun t => t.cell c1 hgr
      have r2 : ∀ t : BoxC (Below wr.heap.size wr), t.W.cell? ⟨g, k * 4 + 2, none⟩ = some (.int .i64 x.sort) := fun t => t.cell c2 hgr
      have r3 : ∀ t : BoxC (Below wr.heap.size wr), t.W.cell? ⟨g, k * 4 + 3, none⟩ = some (.slice none 0 0) := fun t => t.cell c3 hgr
      clear hln hxa hr hx c0 c1 c2 c3
      have i1 : (0 : Int) ≤ (k : Int) := by omega
      have i2 : (k : Int) < (n : Int) := by omega
      by_cases hr0 : r < 0
      · go_wp2_with fail
        refine region_boxC (C := Below wr.heap.size wr) (by kernel_rfl) (by kernel_rfl) (Below.refl _ _).drew ?_
        repeat (go_big_quiet_step ((go_at_call 97; exact (HC1.out _).mono (fun _ _ h => ⟨h.1, BoxC.step _ h.2⟩))))
        refine wpQuiet_nil ?_
        rintro w5 ⟨t5, rfl⟩
        have hh := t5.h
        clear r0 r1 r2 r3 s0 s1 s2 s3
        go_wp2
        go_roundw
        case measure => simp [intOf]; omega
        case rel => exact ⟨k + 1, by go_num, by omega, Lib.hid (fun j hj => by
          by_cases e : j = k
          · subst e; rw [← HX.out, ← HR.out]; exact hr0
          · exact HJ.out j (by omega)), hbel.trans (hh.mono (by have := hbel.size; simp at this; omega))⟩
      · have hge : 0 ≤ r := by omega
        have hnl : ¬ r < 0 := hr0
        clear hr0
        by_cases hre : r = 0
        · have HB1 : Hid (decide (r = 0) = true) := Lib.hid (decide_eq_true hre)
          have HI : Hid (insT L t = L) := Lib.hid (by
            rw [insT_at k L t (by have := HN.out; omega) HJ.out (fun _ => by rw [← HX.out, ← HR.out]; exact hnl), if_pos ⟨by have := HN.out; omega, by rw [← HX.out, ← HR.out]; exact hre⟩])
          clear hre
          go_wp2_with fail
          refine region_boxC (C := Below wr.heap.size wr) (by kernel_rfl) (by kernel_rfl) (Below.refl _ _).drew ?_
          repeat (go_big_quiet_step ((go_at_call 97; exact (HC1.out _).mono (fun _ _ h => ⟨h.1, BoxC.step _ h.2⟩))))
          refine wpQuiet_nil ?_
          rintro w5 ⟨t5, rfl⟩
          have hh := t5.h
          go_wp2_with fail
          refine region_boxC (C := Below wr.heap.size wr) (by kernel_rfl) (by kernel_rfl) hh.drew ?_
          repeat (go_big_quiet_step ((go_at_call 98; exact (HS1.out _ _ HB1.out).mono (fun _ _ h => ⟨h.1, BoxC.step _ h.2⟩))))
          refine wpQuiet_nil ?_
          rintro w6 ⟨t6, rfl⟩
          have hh6 := t6.h
          clear hh
          clear s0 s1 s2 s3
          clear r0 r1 r2 r3
          go_wp2
          go_ret
          exact ⟨g, cap, n, by rw [HI.out]; exact HN.out, rfl, by rw [HI.out]; exact own_below HO.out (hbw.trans (hh6.mono (by omega))), hbw.trans (hh6.mono (by omega))⟩
        · have HB1 : Hid (decide (r = 0) = false) := Lib.hid (decide_eq_false hre)
          have HI : Hid (insT L t = L.take k ++ t :: L.drop k) := Lib.hid (by
            rw [insT_at k L t (by have := HN.out; omega) HJ.out (fun _ => by rw [← HX.out, ← HR.out]; exact hnl), if_neg (fun h => hre (by rw [HR.out, HX.out]; exact h.2))])
          clear hre
          go_wp2_with fail
          refine region_boxC (C := Below wr.heap.size wr) (by kernel_rfl) (by kernel_rfl) (Below.refl _ _).drew ?_
          repeat (go_big_quiet_step ((go_at_call 97; exact (HC1.out _).mono (fun _ _ h => ⟨h.1, BoxC.step _ h.2⟩))))
          refine wpQuiet_nil ?_
          rintro w5 ⟨t5, rfl⟩
          have hh := t5.h
          go_wp2_with fail
          refine region_boxC (C := Below wr.heap.size wr) (by kernel_rfl) (by kernel_rfl) hh.drew ?_
          repeat (go_big_quiet_step ((go_at_call 98; exact (HS1.out _ _ HB1.out).mono (fun _ _ h => ⟨h.1, BoxC.step _ h.2⟩))))
          refine wpQuiet_nil ?_
          rintro w6 ⟨t6, rfl⟩
          have hh6 := t6.h
          clear hh
          clear s0 s1 s2 s3
          clear r0 r1 r2 r3
          have hkc : ¬ k = cap := by omega
          have HO6 := Lib.hid (own_below HO1.out hh6)
          have HB6 : Hid (Below w.heap.size w t6.W) := Lib.hid (hbw.trans (hh6.mono (by omega)))
          have HQ6 : Hid (S4 t6.W w.heap.size to tn ts t6.W) := Lib.hid (by
            have h := HQ.out.next hx0 hh6
            exact ⟨h.1, Below.refl _ _⟩)
          have hx6 : w.heap.size < t6.W.heap.size := by have := hh6.size; omega
          clear hh6 hx0 HQ HO1 nb
          generalize t6.W = W6 at HO6 HB6 HQ6 hx6 ⊢
          have HLT : Hid ((flatV (L.take k)).length = k * 4) := Lib.hid (by rw [flatV_len, List.length_take]; have := HN.out; omega)
          have HLD : Hid ((flatV (L.drop k)).length = (n - k) * 4) := Lib.hid (by rw [flatV_len, List.length_drop, ← HN.out])
          have hik : (0 : Int) ≤ (k : Int) := by omega
          have hikn : (k : Int) ≤ (n : Int) := by omega
          have hikc : (k : Int) ≤ (cap : Int) := by omega
          obtain ⟨⟨b0, b1, b2, b3⟩, _⟩ := HQ6.out
          go_wp2_with fail
          go_region_held3 (fun w' => (w'.cell? ⟨w.heap.size, 0, none⟩ = some (.int .i64 to) ∧ w'.cell? ⟨w.heap.size, 1, none⟩ = some (.string (bstr tn)) ∧ w'.cell? ⟨w.heap.size, 2, none⟩ = some (.int .i64 ts) ∧ w'.cell? ⟨w.heap.size, 3, none⟩ = some (.slice none 0 0)) ∧ Below W6.heap.size W6 w')
            (first | (with_reducible assumption) | ((with_reducible refine S4.ald ?_ hx6); with_reducible assumption) | ((with_reducible refine S4.al ?_ hx6); with_reducible assumption) | (exact HQ6.out.next hx6 (Below.refl _ _).drew))
            (first | ((refine step_append_d (by rfl) _ _ _ (by rfl) W6.heap.size 51 j0 _ 4 56 Try.underlying49 hij hy0 hy1 hy2 rfl (by omega) W6.heap.size 0 0 [] (by rfl) (fresh_a W6) ⟨g, 0, none⟩ k cap (flatV (L.take k)) (by rfl) HLT.out (src_take HO6.out hkn (by with_reducible assumption : S4 W6 w.heap.size to tn ts _).2) (flat_one _) (by unfold maxLen; omega) (by omega) (by first | (simp; done) | (simp; omega)) ?_); intro g4 cap4 w4 hown4 hgr4 hg4 hlt4 hdr4; have hS4 := S4.grown (by with_reducible assumption) hx6 hgr4 (by omega); rw [Nat.zero_add, List.nil_append] at hown4; simp only [Nat.zero_add]; have hg5 : W6.heap.size ≤ g4 := (by rcases hg4 with h | h <;> (rw [h]; first | (simp; done) | (simp; omega)))) | ((refine step_append_d (by rfl) _ _ _ (by rfl) W6.heap.size 51 j0 _ 4 56 Try.underlying49 hij hy0 hy1 hy2 rfl (by omega) W6.heap.size 0 0 [] (by rfl) (fresh_b W6 _) ⟨g, 0, none⟩ k cap (flatV (L.take k)) (by rfl) HLT.out (src_take HO6.out hkn (by with_reducible assumption : S4 W6 w.heap.size to tn ts _).2) (flat_one _) (by unfold maxLen; omega) (by omega) (by first | (simp; done) | (simp; omega)) ?_); intro g4 cap4 w4 hown4 hgr4 hg4 hlt4 hdr4; have hS4 := S4.grown (by with_reducible assumption) hx6 hgr4 (by omega); rw [Nat.zero_add, List.nil_append] at hown4; simp only [Nat.zero_add]; have hg5 : W6.heap.size ≤ g4 := (by rcases hg4 with h | h <;> (rw [h]; first | (simp; done) | (simp; omega)))) | ((refine step_append_d (by rfl) _ _ _ (by rfl) W6.heap.size 51 j0 _ 4 56 Try.underlying49 hij hy0 hy1 hy2 rfl (by omega) (W6.heap.size + 1) 0 0 [] (by rfl) (fresh_c W6 _) ⟨g, 0, none⟩ k cap (flatV (L.take k)) (by rfl) HLT.out (src_take HO6.out hkn (by with_reducible assumption : S4 W6 w.heap.size to tn ts _).2) (flat_one _) (by unfold maxLen; omega) (by omega) (by first | (simp; done) | (simp; omega)) ?_); intro g4 cap4 w4 hown4 hgr4 hg4 hlt4 hdr4; have hS4 := S4.grown (by with_reducible assumption) hx6 hgr4 (by omega); rw [Nat.zero_add, List.nil_append] at hown4; simp only [Nat.zero_add]; have hg5 : W6.heap.size ≤ g4 := (by rcases hg4 with h | h <;> (rw [h]; first | (simp; done) | (simp; omega)))) | ((refine step_append_d (by rfl) _ _ _ (by rfl) W6.heap.size 51 j0 _ 4 56 Try.underlying49 hij hy0 hy1 hy2 rfl (by omega) g4 k cap4 (flatV (L.take k)) (by rfl) (own_below hown4 ((Below.refl _ _).alloc (Nat.le_refl _) _)) ⟨w4.heap.size, 0, none⟩ 1 1 [.int .i64 to, .string (bstr tn), .int .i64 ts, .slice none 0 0] (by rfl) (by rfl) (fun q x hq => one4 w4 _ _ _ _ _ q x hq) (four_one rfl rfl rfl rfl) (by unfold maxLen; omega) (by omega) (by have := hS4.2.size; first | (simp; done) | (simp; omega)) ?_); intro g5 cap5 w7 hown5 hgr5 hg6 hlt5 hdr5; have hS5 := S4.grown (by with_reducible assumption) hx6 hgr5 hg5) | ((refine step_append_d (by rfl) _ _ _ (by rfl) W6.heap.size 51 j0 _ 4 56 Try.underlying49 hij hy0 hy1 hy2 rfl (by omega) g4 k cap4 (flatV (L.take k)) (by rfl) (hown4) ⟨W6.heap.size + 1, 0, none⟩ 1 1 [.int .i64 to, .string (bstr tn), .int .i64 ts, .slice none 0 0] (by rfl) (by rfl) (src_b hgr4) (four_one rfl rfl rfl rfl) (by unfold maxLen; omega) (by omega) (by have := hS4.2.size; first | (simp; done) | (simp; omega)) ?_); intro g5 cap5 w7 hown5 hgr5 hg6 hlt5 hdr5; have hS5 := S4.grown (by with_reducible assumption) hx6 hgr5 hg5) | ((refine step_append_d (by rfl) _ _ _ (by rfl) W6.heap.size 51 j0 _ 4 56 Try.underlying49 hij hy0 hy1 hy2 rfl (by omega) g4 k cap4 (flatV (L.take k)) (by rfl) (hown4) ⟨W6.heap.size, 0, none⟩ 1 1 [.int .i64 to, .string (bstr tn), .int .i64 ts, .slice none 0 0] (by rfl) (by rfl) (src_c hgr4) (four_one rfl rfl rfl rfl) (by unfold maxLen; omega) (by omega) (by have := hS4.2.size; first | (simp; done) | (simp; omega)) ?_); intro g5 cap5 w7 hown5 hgr5 hg6 hlt5 hdr5; have hS5 := S4.grown (by with_reducible assumption) hx6 hgr5 hg5))
          all_goals
            have HO5 := Lib.hid hown5
            have HB5 : Hid (Below W6.heap.size W6 w7) := Lib.hid hS5.2
            have hsz7 := HB5.out.size
            have hq7 : W6.heap.size ≤ g5 := (by
              rcases hg6 with h | h
              · omega
              · rw [h]; first | (have := hS4.2.size; simp; omega) | (have := hS4.2.size; simp; done))
            clear hown5 hgr5 hg6 hdr5 hS5 hown4 hgr4 hg4 hdr4 hS4 b0 b1 b2 b3
            go_wp2_with (at_builtin; refine wpList_append_d rfl _ _ _ rfl W6.heap.size 51 j0 _ 4 56 Try.underlying49 hij hy0 hy1 hy2 rfl (by omega) g5 (k + 1) cap5 _ rfl HO5.out ⟨g, k * 4, none⟩ (n - k) (cap - k) (flatV (L.drop k)) rfl HLD.out (src_drop HO6.out HN.out HB5.out) (flat_one _) (by unfold maxLen; omega) (by omega) hsz7 ?_; intro g8 cap8 w8 hown8 hgr8 hg8 hlt8 hdr8)
            have HR : Hid (RowPost b (insT L t) w (.returned (.slice (some ⟨g8, 0, none⟩) (k + 1 + (n - k)) cap8)) w8) := Lib.hid (by
              rw [HI.out]
              rw [HFV.out, ← flatV_append, ← flatV_append] at hown8
              refine ⟨g8, cap8, _, ?_, rfl, ?_, HB6.out.trans ((HB5.out.grown hgr8 hsz7 (by intro k hk; cases hk; exact hq7)).mono HB6.out.size)⟩
              · have := HN.out
                simp
                omega
              · have h := own_mono hown8 (show b ≤ W6.heap.size by have := HB6.out.size; omega)
                simpa using h)
            clear hown8 hgr8 hg8 hdr8
            go_wp2
            go_ret
            exact HR.out
    · have HI : Hid (insT L t = L.take k ++ t :: L.drop k) := Lib.hid (by
        rw [insT_at k L t (by have := HN.out; omega) HJ.out (fun h => absurd h (by have := HN.out; omega)), if_neg (fun h => absurd h.1 (by have := HN.out; omega))])
      obtain rfl : k = n := by omega
      go_wp2_with fail
      refine region_boxC (C := Below wr.heap.size wr) (by kernel_rfl) (by kernel_rfl) (Below.refl _ _).drew ?_
      repeat (go_big_quiet_step (fail))
      refine wpQuiet_nil ?_
      rintro w5 ⟨t5, rfl⟩
      have hh := t5.h
      go_wp2_with fail
      refine region_boxC (C := Below wr.heap.size wr) (by kernel_rfl) (by kernel_rfl) hh.drew ?_
      repeat (go_big_quiet_step (fail))
      refine wpQuiet_nil ?_
      rintro w6 ⟨t6, rfl⟩
      have hh6 := t6.h
      clear hh
      clear s0 s1 s2 s3
      by_cases hkc : k = cap
      · subst hkc
        have HO6 := Lib.hid (own_below HO1.out hh6)
        have HB6 : Hid (Below w.heap.size w t6.W) := Lib.hid (hbw.trans (hh6.mono (by omega)))
        have HQ6 : Hid (S4 t6.W w.heap.size to tn ts t6.W) := Lib.hid (by
          have h := HQ.out.next hx0 hh6
          exact ⟨h.1, Below.refl _ _⟩)
        have hx6 : w.heap.size < t6.W.heap.size := by have := hh6.size; omega
        clear hh6 hx0 HQ HO1 nb
        generalize t6.W = W6 at HO6 HB6 HQ6 hx6 ⊢
        have HLT : Hid ((flatV (L.take k)).length = k * 4) := Lib.hid (by rw [flatV_len, List.length_take]; have := HN.out; omega)
        have HLD : Hid ((flatV (L.drop k)).length = (k - k) * 4) := Lib.hid (by rw [flatV_len, List.length_drop, ← HN.out])
        have hik : (0 : Int) ≤ (k : Int) := by omega
        have hikn : (k : Int) ≤ (k : Int) := by omega
        have hikc : (k : Int) ≤ (k : Int) := by omega
        obtain ⟨⟨b0, b1, b2, b3⟩, _⟩ := HQ6.out
        go_wp2_with fail
        go_region_held3 (fun w' => (w'.cell? ⟨w.heap.size, 0, none⟩ = some (.int .i64 to) ∧ w'.cell? ⟨w.heap.size, 1, none⟩ = some (.string (bstr tn)) ∧ w'.cell? ⟨w.heap.size, 2, none⟩ = some (.int .i64 ts) ∧ w'.cell? ⟨w.heap.size, 3, none⟩ = some (.slice none 0 0)) ∧ Below W6.heap.size W6 w')
          (first | (with_reducible assumption) | ((with_reducible refine S4.ald ?_ hx6); with_reducible assumption) | ((with_reducible refine S4.al ?_ hx6); with_reducible assumption) | (exact HQ6.out.next hx6 (Below.refl _ _).drew))
          (first | ((refine step_append_d (by rfl) _ _ _ (by rfl) W6.heap.size 51 j0 _ 4 56 Try.underlying49 hij hy0 hy1 hy2 rfl (by omega) W6.heap.size 0 0 [] (by rfl) (fresh_a W6) ⟨g, 0, none⟩ k k (flatV (L.take k)) (by rfl) HLT.out (src_take HO6.out hkn (by with_reducible assumption : S4 W6 w.heap.size to tn ts _).2) (flat_one _) (by unfold maxLen; omega) (by omega) (by first | (simp; done) | (simp; omega)) ?_); intro g4 cap4 w4 hown4 hgr4 hg4 hlt4 hdr4; have hS4 := S4.grown (by with_reducible assumption) hx6 hgr4 (by omega); rw [Nat.zero_add, List.nil_append] at hown4; simp only [Nat.zero_add]; have hg5 : W6.heap.size ≤ g4 := (by rcases hg4 with h | h <;> (rw [h]; first | (simp; done) | (simp; omega)))) | ((refine step_append_d (by rfl) _ _ _ (by rfl) W6.heap.size 51 j0 _ 4 56 Try.underlying49 hij hy0 hy1 hy2 rfl (by omega) W6.heap.size 0 0 [] (by rfl) (fresh_b W6 _) ⟨g, 0, none⟩ k k (flatV (L.take k)) (by rfl) HLT.out (src_take HO6.out hkn (by with_reducible assumption : S4 W6 w.heap.size to tn ts _).2) (flat_one _) (by unfold maxLen; omega) (by omega) (by first | (simp; done) | (simp; omega)) ?_); intro g4 cap4 w4 hown4 hgr4 hg4 hlt4 hdr4; have hS4 := S4.grown (by with_reducible assumption) hx6 hgr4 (by omega); rw [Nat.zero_add, List.nil_append] at hown4; simp only [Nat.zero_add]; have hg5 : W6.heap.size ≤ g4 := (by rcases hg4 with h | h <;> (rw [h]; first | (simp; done) | (simp; omega)))) | ((refine step_append_d (by rfl) _ _ _ (by rfl) W6.heap.size 51 j0 _ 4 56 Try.underlying49 hij hy0 hy1 hy2 rfl (by omega) (W6.heap.size + 1) 0 0 [] (by rfl) (fresh_c W6 _) ⟨g, 0, none⟩ k k (flatV (L.take k)) (by rfl) HLT.out (src_take HO6.out hkn (by with_reducible assumption : S4 W6 w.heap.size to tn ts _).2) (flat_one _) (by unfold maxLen; omega) (by omega) (by first | (simp; done) | (simp; omega)) ?_); intro g4 cap4 w4 hown4 hgr4 hg4 hlt4 hdr4; have hS4 := S4.grown (by with_reducible assumption) hx6 hgr4 (by omega); rw [Nat.zero_add, List.nil_append] at hown4; simp only [Nat.zero_add]; have hg5 : W6.heap.size ≤ g4 := (by rcases hg4 with h | h <;> (rw [h]; first | (simp; done) | (simp; omega)))) | ((refine step_append_d (by rfl) _ _ _ (by rfl) W6.heap.size 51 j0 _ 4 56 Try.underlying49 hij hy0 hy1 hy2 rfl (by omega) g4 k cap4 (flatV (L.take k)) (by rfl) (own_below hown4 ((Below.refl _ _).alloc (Nat.le_refl _) _)) ⟨w4.heap.size, 0, none⟩ 1 1 [.int .i64 to, .string (bstr tn), .int .i64 ts, .slice none 0 0] (by rfl) (by rfl) (fun q x hq => one4 w4 _ _ _ _ _ q x hq) (four_one rfl rfl rfl rfl) (by unfold maxLen; omega) (by omega) (by have := hS4.2.size; first | (simp; done) | (simp; omega)) ?_); intro g5 cap5 w7 hown5 hgr5 hg6 hlt5 hdr5; have hS5 := S4.grown (by with_reducible assumption) hx6 hgr5 hg5) | ((refine step_append_d (by rfl) _ _ _ (by rfl) W6.heap.size 51 j0 _ 4 56 Try.underlying49 hij hy0 hy1 hy2 rfl (by omega) g4 k cap4 (flatV (L.take k)) (by rfl) (hown4) ⟨W6.heap.size + 1, 0, none⟩ 1 1 [.int .i64 to, .string (bstr tn), .int .i64 ts, .slice none 0 0] (by rfl) (by rfl) (src_b hgr4) (four_one rfl rfl rfl rfl) (by unfold maxLen; omega) (by omega) (by have := hS4.2.size; first | (simp; done) | (simp; omega)) ?_); intro g5 cap5 w7 hown5 hgr5 hg6 hlt5 hdr5; have hS5 := S4.grown (by with_reducible assumption) hx6 hgr5 hg5) | ((refine step_append_d (by rfl) _ _ _ (by rfl) W6.heap.size 51 j0 _ 4 56 Try.underlying49 hij hy0 hy1 hy2 rfl (by omega) g4 k cap4 (flatV (L.take k)) (by rfl) (hown4) ⟨W6.heap.size, 0, none⟩ 1 1 [.int .i64 to, .string (bstr tn), .int .i64 ts, .slice none 0 0] (by rfl) (by rfl) (src_c hgr4) (four_one rfl rfl rfl rfl) (by unfold maxLen; omega) (by omega) (by have := hS4.2.size; first | (simp; done) | (simp; omega)) ?_); intro g5 cap5 w7 hown5 hgr5 hg6 hlt5 hdr5; have hS5 := S4.grown (by with_reducible assumption) hx6 hgr5 hg5))
        all_goals
          have HO5 := Lib.hid hown5
          have HB5 : Hid (Below W6.heap.size W6 w7) := Lib.hid hS5.2
          have hsz7 := HB5.out.size
          have hq7 : W6.heap.size ≤ g5 := (by
            rcases hg6 with h | h
            · omega
            · rw [h]; first | (have := hS4.2.size; simp; omega) | (have := hS4.2.size; simp; done))
          clear hown5 hgr5 hg6 hdr5 hS5 hown4 hgr4 hg4 hdr4 hS4 b0 b1 b2 b3
          go_wp2_with (at_builtin; (first | (refine wpList_append_d rfl _ _ _ rfl W6.heap.size 51 j0 _ 4 56 Try.underlying49 hij hy0 hy1 hy2 rfl (by omega) g5 (k + 1) cap5 _ rfl HO5.out ⟨g, k * 4, none⟩ 0 (k - k) [] rfl (by simp) (fun q x hq => by simp at hq) (fun x hx => by simp at hx) (by unfold maxLen; omega) (by omega) hsz7 ?_) | (refine wpList_append_d rfl _ _ _ rfl W6.heap.size 51 j0 _ 4 56 Try.underlying49 hij hy0 hy1 hy2 rfl (by omega) g5 (k + 1) cap5 _ rfl HO5.out ⟨g, 0, none⟩ 0 0 [] rfl (by simp) (fun q x hq => by simp at hq) (fun x hx => by simp at hx) (by unfold maxLen; omega) (by omega) hsz7 ?_) | (refine wpList_append_d rfl _ _ _ rfl W6.heap.size 51 j0 _ 4 56 Try.underlying49 hij hy0 hy1 hy2 rfl (by omega) g5 (k + 1) cap5 _ rfl HO5.out ⟨g, k * 4, none⟩ 0 0 [] rfl (by simp) (fun q x hq => by simp at hq) (fun x hx => by simp at hx) (by unfold maxLen; omega) (by omega) hsz7 ?_)); intro g8 cap8 w8 hown8 hgr8 hg8 hlt8 hdr8)
          have HR : Hid (RowPost b (insT L t) w (.returned (.slice (some ⟨g8, 0, none⟩) (k + 1) cap8)) w8) := Lib.hid (by
            rw [HI.out]
            have hdn : L.drop k = [] := List.drop_of_length_le (by have := HN.out; omega)
            rw [HFV.out, ← flatV_append, List.append_nil] at hown8
            rw [hdn]
            refine ⟨g8, cap8, _, ?_, rfl, ?_, HB6.out.trans ((HB5.out.grown hgr8 hsz7 (by intro k hk; cases hk; exact hq7)).mono HB6.out.size)⟩
            · have := HN.out
              simp
              omega
            · have h := own_mono hown8 (show b ≤ W6.heap.size by have := HB6.out.size; omega)
              simpa using h)
          clear hown8 hgr8 hg8 hdr8
          go_wp2
          go_ret
          exact HR.out
      · skip
        have HO6 := Lib.hid (own_below HO1.out hh6)
        have HB6 : Hid (Below w.heap.size w t6.W) := Lib.hid (hbw.trans (hh6.mono (by omega)))
        have HQ6 : Hid (S4 t6.W w.heap.size to tn ts t6.W) := Lib.hid (by
          have h := HQ.out.next hx0 hh6
          exact ⟨h.1, Below.refl _ _⟩)
        have hx6 : w.heap.size < t6.W.heap.size := by have := hh6.size; omega
        clear hh6 hx0 HQ HO1 nb
        generalize t6.W = W6 at HO6 HB6 HQ6 hx6 ⊢
        have HLT : Hid ((flatV (L.take k)).length = k * 4) := Lib.hid (by rw [flatV_len, List.length_take]; have := HN.out; omega)
        have HLD : Hid ((flatV (L.drop k)).length = (k - k) * 4) := Lib.hid (by rw [flatV_len, List.length_drop, ← HN.out])
        have hik : (0 : Int) ≤ (k : Int) := by omega
        have hikn : (k : Int) ≤ (k : Int) := by omega
        have hikc : (k : Int) ≤ (cap : Int) := by omega
        obtain ⟨⟨b0, b1, b2, b3⟩, _⟩ := HQ6.out
        go_wp2_with fail
        go_region_held3 (fun w' => (w'.cell? ⟨w.heap.size, 0, none⟩ = some (.int .i64 to) ∧ w'.cell? ⟨w.heap.size, 1, none⟩ = some (.string (bstr tn)) ∧ w'.cell? ⟨w.heap.size, 2, none⟩ = some (.int .i64 ts) ∧ w'.cell? ⟨w.heap.size, 3, none⟩ = some (.slice none 0 0)) ∧ Below W6.heap.size W6 w')
          (first | (with_reducible assumption) | ((with_reducible refine S4.ald ?_ hx6); with_reducible assumption) | ((with_reducible refine S4.al ?_ hx6); with_reducible assumption) | (exact HQ6.out.next hx6 (Below.refl _ _).drew))
          (first | ((refine step_append_d (by rfl) _ _ _ (by rfl) W6.heap.size 51 j0 _ 4 56 Try.underlying49 hij hy0 hy1 hy2 rfl (by omega) W6.heap.size 0 0 [] (by rfl) (fresh_a W6) ⟨g, 0, none⟩ k cap (flatV (L.take k)) (by rfl) HLT.out (src_take HO6.out hkn (by with_reducible assumption : S4 W6 w.heap.size to tn ts _).2) (flat_one _) (by unfold maxLen; omega) (by omega) (by first | (simp; done) | (simp; omega)) ?_); intro g4 cap4 w4 hown4 hgr4 hg4 hlt4 hdr4; have hS4 := S4.grown (by with_reducible assumption) hx6 hgr4 (by omega); rw [Nat.zero_add, List.nil_append] at hown4; simp only [Nat.zero_add]; have hg5 : W6.heap.size ≤ g4 := (by rcases hg4 with h | h <;> (rw [h]; first | (simp; done) | (simp; omega)))) | ((refine step_append_d (by rfl) _ _ _ (by rfl) W6.heap.size 51 j0 _ 4 56 Try.underlying49 hij hy0 hy1 hy2 rfl (by omega) W6.heap.size 0 0 [] (by rfl) (fresh_b W6 _) ⟨g, 0, none⟩ k cap (flatV (L.take k)) (by rfl) HLT.out (src_take HO6.out hkn (by with_reducible assumption : S4 W6 w.heap.size to tn ts _).2) (flat_one _) (by unfold maxLen; omega) (by omega) (by first | (simp; done) | (simp; omega)) ?_); intro g4 cap4 w4 hown4 hgr4 hg4 hlt4 hdr4; have hS4 := S4.grown (by with_reducible assumption) hx6 hgr4 (by omega); rw [Nat.zero_add, List.nil_append] at hown4; simp only [Nat.zero_add]; have hg5 : W6.heap.size ≤ g4 := (by rcases hg4 with h | h <;> (rw [h]; first | (simp; done) | (simp; omega)))) | ((refine step_append_d (by rfl) _ _ _ (by rfl) W6.heap.size 51 j0 _ 4 56 Try.underlying49 hij hy0 hy1 hy2 rfl (by omega) (W6.heap.size + 1) 0 0 [] (by rfl) (fresh_c W6 _) ⟨g, 0, none⟩ k cap (flatV (L.take k)) (by rfl) HLT.out (src_take HO6.out hkn (by with_reducible assumption : S4 W6 w.heap.size to tn ts _).2) (flat_one _) (by unfold maxLen; omega) (by omega) (by first | (simp; done) | (simp; omega)) ?_); intro g4 cap4 w4 hown4 hgr4 hg4 hlt4 hdr4; have hS4 := S4.grown (by with_reducible assumption) hx6 hgr4 (by omega); rw [Nat.zero_add, List.nil_append] at hown4; simp only [Nat.zero_add]; have hg5 : W6.heap.size ≤ g4 := (by rcases hg4 with h | h <;> (rw [h]; first | (simp; done) | (simp; omega)))) | ((refine step_append_d (by rfl) _ _ _ (by rfl) W6.heap.size 51 j0 _ 4 56 Try.underlying49 hij hy0 hy1 hy2 rfl (by omega) g4 k cap4 (flatV (L.take k)) (by rfl) (own_below hown4 ((Below.refl _ _).alloc (Nat.le_refl _) _)) ⟨w4.heap.size, 0, none⟩ 1 1 [.int .i64 to, .string (bstr tn), .int .i64 ts, .slice none 0 0] (by rfl) (by rfl) (fun q x hq => one4 w4 _ _ _ _ _ q x hq) (four_one rfl rfl rfl rfl) (by unfold maxLen; omega) (by omega) (by have := hS4.2.size; first | (simp; done) | (simp; omega)) ?_); intro g5 cap5 w7 hown5 hgr5 hg6 hlt5 hdr5; have hS5 := S4.grown (by with_reducible assumption) hx6 hgr5 hg5) | ((refine step_append_d (by rfl) _ _ _ (by rfl) W6.heap.size 51 j0 _ 4 56 Try.underlying49 hij hy0 hy1 hy2 rfl (by omega) g4 k cap4 (flatV (L.take k)) (by rfl) (hown4) ⟨W6.heap.size + 1, 0, none⟩ 1 1 [.int .i64 to, .string (bstr tn), .int .i64 ts, .slice none 0 0] (by rfl) (by rfl) (src_b hgr4) (four_one rfl rfl rfl rfl) (by unfold maxLen; omega) (by omega) (by have := hS4.2.size; first | (simp; done) | (simp; omega)) ?_); intro g5 cap5 w7 hown5 hgr5 hg6 hlt5 hdr5; have hS5 := S4.grown (by with_reducible assumption) hx6 hgr5 hg5) | ((refine step_append_d (by rfl) _ _ _ (by rfl) W6.heap.size 51 j0 _ 4 56 Try.underlying49 hij hy0 hy1 hy2 rfl (by omega) g4 k cap4 (flatV (L.take k)) (by rfl) (hown4) ⟨W6.heap.size, 0, none⟩ 1 1 [.int .i64 to, .string (bstr tn), .int .i64 ts, .slice none 0 0] (by rfl) (by rfl) (src_c hgr4) (four_one rfl rfl rfl rfl) (by unfold maxLen; omega) (by omega) (by have := hS4.2.size; first | (simp; done) | (simp; omega)) ?_); intro g5 cap5 w7 hown5 hgr5 hg6 hlt5 hdr5; have hS5 := S4.grown (by with_reducible assumption) hx6 hgr5 hg5))
        all_goals
          have HO5 := Lib.hid hown5
          have HB5 : Hid (Below W6.heap.size W6 w7) := Lib.hid hS5.2
          have hsz7 := HB5.out.size
          have hq7 : W6.heap.size ≤ g5 := (by
            rcases hg6 with h | h
            · omega
            · rw [h]; first | (have := hS4.2.size; simp; omega) | (have := hS4.2.size; simp; done))
          clear hown5 hgr5 hg6 hdr5 hS5 hown4 hgr4 hg4 hdr4 hS4 b0 b1 b2 b3
          go_wp2_with (at_builtin; (first | (refine wpList_append_d rfl _ _ _ rfl W6.heap.size 51 j0 _ 4 56 Try.underlying49 hij hy0 hy1 hy2 rfl (by omega) g5 (k + 1) cap5 _ rfl HO5.out ⟨g, k * 4, none⟩ 0 (cap - k) [] rfl (by simp) (fun q x hq => by simp at hq) (fun x hx => by simp at hx) (by unfold maxLen; omega) (by omega) hsz7 ?_) | (refine wpList_append_d rfl _ _ _ rfl W6.heap.size 51 j0 _ 4 56 Try.underlying49 hij hy0 hy1 hy2 rfl (by omega) g5 (k + 1) cap5 _ rfl HO5.out ⟨g, 0, none⟩ 0 0 [] rfl (by simp) (fun q x hq => by simp at hq) (fun x hx => by simp at hx) (by unfold maxLen; omega) (by omega) hsz7 ?_) | (refine wpList_append_d rfl _ _ _ rfl W6.heap.size 51 j0 _ 4 56 Try.underlying49 hij hy0 hy1 hy2 rfl (by omega) g5 (k + 1) cap5 _ rfl HO5.out ⟨g, k * 4, none⟩ 0 0 [] rfl (by simp) (fun q x hq => by simp at hq) (fun x hx => by simp at hx) (by unfold maxLen; omega) (by omega) hsz7 ?_)); intro g8 cap8 w8 hown8 hgr8 hg8 hlt8 hdr8)
          have HR : Hid (RowPost b (insT L t) w (.returned (.slice (some ⟨g8, 0, none⟩) (k + 1) cap8)) w8) := Lib.hid (by
            rw [HI.out]
            have hdn : L.drop k = [] := List.drop_of_length_le (by have := HN.out; omega)
            rw [HFV.out, ← flatV_append, List.append_nil] at hown8
            rw [hdn]
            refine ⟨g8, cap8, _, ?_, rfl, ?_, HB6.out.trans ((HB5.out.grown hgr8 hsz7 (by intro k hk; cases hk; exact hq7)).mono HB6.out.size)⟩
            · have := HN.out
              simp
              omega
            · have h := own_mono hown8 (show b ≤ W6.heap.size by have := HB6.out.size; omega)
              simpa using h)
          clear hown8 hgr8 hg8 hdr8
          go_wp2
          go_ret
          exact HR.out
end Go.Proofs.Ytejkkdnjdfehjaa.termin
