/-
  THE MODEL'S l5Copy AND l5Copies.
-/
import Derived.Test.YtiilamngcoegiaaRowg
import Derived.Deep.RegionLaw
import Derived.Test.YtiilamngcoegiaaTermx
import Derived.Test.YtiilamngcoegiaaTermro
namespace Go.Proofs.Ytiilamngcoegiaa.termlc
open Go.ChangeShapes Go.WideShapes Go.ChangeAt Go.RowKit
open mem rowl trm trmv terml termb termt termu termx termro rowg

abbrev S5 (W : World) (x : Nat) (vx : Value) (g o : Nat) (a b c e : Value) (w' : World) : Prop := (w'.cell? ⟨x, 3, none⟩ = some vx ∧ w'.cell? ⟨g, o, none⟩ = some a ∧ w'.cell? ⟨g, o + 1, none⟩ = some b ∧ w'.cell? ⟨g, o + 2, none⟩ = some c ∧ w'.cell? ⟨g, o + 3, none⟩ = some e) ∧ Below (x + 1) W w'
theorem S5.next {W : World} {x : Nat} {vx : Value} {g o : Nat} {a b c e : Value} {w0 w1 : World} (h : S5 W x vx g o a b c e w0) (hg : g ≤ x) (hb : Below (x + 1) w0 w1) : S5 W x vx g o a b c e w1 := by
  have k : ∀ y z, y ≤ x → w1.cell? ⟨y, z, none⟩ = w0.cell? ⟨y, z, none⟩ := fun y z hy => hb.cell (p := ⟨y, z, none⟩) (by show y < x + 1; omega)
  unfold S5
  rw [k x 3 (Nat.le_refl _), k g _ hg, k g _ hg, k g _ hg, k g _ hg]
  exact ⟨h.1, h.2.trans hb⟩
theorem S5.al {W : World} {x : Nat} {vx : Value} {g o : Nat} {a b c e : Value} {w0 : World} (h : S5 W x vx g o a b c e w0) (hg : g ≤ x) (hx : x + 1 ≤ w0.heap.size) {ob : Obj} : S5 W x vx g o a b c e (w0.alloc ob) := h.next hg ((Below.refl _ _).alloc hx ob)
theorem S5.set {W : World} {x : Nat} {vx : Value} {g o : Nat} {a b c e : Value} {w0 : World} (h : S5 W x vx g o a b c e w0) (hg : g ≤ x) {y i : Nat} (hy : x + 1 ≤ y) {u : Value} : S5 W x vx g o a b c e (w0.setCell ⟨y, i, none⟩ u) := h.next hg ((Below.refl _ _).setCell hy u)
/-- what a copy leaves -/
def CopyP (d : Nat) (t : TermM) (w : World) (e : Ending) (w' : World) : Prop := ∃ va, e = .returned (.agg #[.int .i64 t.op, .string (bstr t.name), .int .i64 t.sort, va]) ∧ HasTs d w.heap.size w' va t.args ∧ Below w.heap.size w w'
def CopyT (d : Nat) : Prop := ∀ (t : TermM) (va : Value) (w : World) (lo : Nat), HasTs d lo w va t.args → Bnd t → sizes t.args ≤ 1048576 → Calls Try.prog 34 #[.agg #[.int .i64 t.op, .string (bstr t.name), .int .i64 t.sort, va]] w (CopyP d t w)
theorem set4_below (W : World) {w : World} (h : Below w.heap.size w W) (x : Nat) (hx : w.heap.size ≤ x) (u0 u1 u2 u3 : Value) : Below w.heap.size w ((((W.setCell ⟨x, 0, none⟩ u0).setCell ⟨x, 1, none⟩ u1).setCell ⟨x, 2, none⟩ u2).setCell ⟨x, 3, none⟩ u3) :=
  (((h.setCell hx u0).setCell hx u1).setCell hx u2).setCell hx u3
theorem copy_fin {w : World} {t : TermM} {A : Option Addr} {m c d : Nat} {Ar : Option Addr} {cr : Nat} {wr : World} (hm : m = t.args.length) (h : CS w t.op t.name t.sort A m c t.args d m Ar cr wr) (u0 u1 u2 u3 : Value) :
    CopyP (d + 1) t w (.returned (.agg #[.int .i64 t.op, .string (bstr t.name), .int .i64 t.sort, .slice Ar m cr])) ((((wr.setCell ⟨w.heap.size + 1, 0, none⟩ u0).setCell ⟨w.heap.size + 1, 1, none⟩ u1).setCell ⟨w.heap.size + 1, 2, none⟩ u2).setCell ⟨w.heap.size + 1, 3, none⟩ u3) := by
  have k1 : ∀ (W : World) (i : Nat) (u : Value), Kept (w.heap.size + 3) W (W.setCell ⟨w.heap.size + 1, i, none⟩ u) := fun W i u => Kept.set (by show w.heap.size + 1 < _; omega) u
  have kp := (((k1 wr 0 u0).trans (k1 _ 1 u1)).trans (k1 _ 2 u2)).trans (k1 _ 3 u3)
  have h1 := h.kids.has
  rw [hm, List.take_length] at h1
  refine ⟨_, rfl, ?_, set4_below wr h.below _ (by omega) _ _ _ _⟩
  rw [hm]
  exact HasR.mono (RT_steady _) (HasR.kept (RT_steady _) h1 kp) (by omega)
set_option maxRecDepth 50000 in
set_option maxHeartbeats 8000000 in
theorem copy_step {d : Nat} (hS : ∀ k, d = k + 1 → CopyT k) : CopyT d := by
  intro t va w lo h hB hsz
  obtain ⟨A, c, rfl, h⟩ := HasR.shape h rfl
  obtain ⟨j0, hij, hy0, hy1, hy2⟩ := info_parts info_term
  have hll := sizes_len t.args
  obtain ⟨m, hm⟩ : ∃ m, m = t.args.length := ⟨_, rfl⟩
  rw [← hm] at h ⊢
  have hm30 : m ≤ 1048576 := by omega
  have HM := Lib.hid hm
  have HEL : Hid (∀ j, j < m → ∃ (k g o : Nat) (A2 : Option Addr) (c2 : Nat), d = k + 1 ∧ A = some ⟨g, o, none⟩ ∧ g < w.heap.size ∧ w.cell? ⟨g, o + j * 4, none⟩ = some (.int .i64 (t.args.getD j default).op) ∧ w.cell? ⟨g, o + j * 4 + 1, none⟩ = some (.string (bstr (t.args.getD j default).name)) ∧
      w.cell? ⟨g, o + j * 4 + 2, none⟩ = some (.int .i64 (t.args.getD j default).sort) ∧ w.cell? ⟨g, o + j * 4 + 3, none⟩ = some (.slice A2 (t.args.getD j default).args.length c2) ∧ HasTs k lo w (.slice A2 (t.args.getD j default).args.length c2) (t.args.getD j default).args ∧ Bnd (t.args.getD j default) ∧ sizes (t.args.getD j default).args ≤ 1048576) := Lib.hid (by
    intro j hj
    obtain ⟨k, g, o, A2, c2, h0, h1, _, h2, h3, h4, h5, h6, h7, h8⟩ := term_at h hj
    refine ⟨k, g, o, A2, c2, h0, h1, h2, h3, h4, h5, h6, h7, h8, ?_⟩
    have h9 := size_le_sizes (l := t.args) (j := j) (by omega)
    have h10 := size_eq (t.args.getD j default)
    omega)
  have HFIN : Hid (∀ (k : Nat) (Ar : Option Addr) (cr : Nat) (wr : World) (u0 u1 u2 u3 : Value), (d = k + 1 ∨ (d = 0 ∧ k = 0)) → CS w t.op t.name t.sort A m c t.args k m Ar cr wr → CopyP d t w (.returned (.agg #[.int .i64 t.op, .string (bstr t.name), .int .i64 t.sort, .slice Ar m cr])) ((((wr.setCell ⟨w.heap.size + 1, 0, none⟩ u0).setCell ⟨w.heap.size + 1, 1, none⟩ u1).setCell ⟨w.heap.size + 1, 2, none⟩ u2).setCell ⟨w.heap.size + 1, 3, none⟩ u3)) := Lib.hid (by
    intro k Ar cr wr u0 u1 u2 u3 hk hcs
    rcases hk with rfl | ⟨rfl, rfl⟩
    · exact copy_fin hm hcs u0 u1 u2 u3
    · obtain ⟨va', h1, h2, h3⟩ := copy_fin hm hcs u0 u1 u2 u3
      refine ⟨va', h1, ?_, h3⟩
      have h0 : t.args = [] := by
        apply List.eq_nil_of_length_eq_zero
        rw [← hm]
        by_cases hz : m = 0
        · exact hz
        · obtain ⟨_, _, _, _, _, e, _⟩ := HEL.out 0 (by omega)
          omega
      injection h1 with h1
      simp only [Value.agg.injEq] at h1
      obtain ⟨a', c', e', h4⟩ := HasR.shape h2 rfl
      have hcl := (HasR.len h4).2.2
      rw [h0] at e' h4 ⊢
      subst e'
      obtain ⟨A5, cap5, ev, hc5, hm5, _⟩ := h4
      simp only [Value.slice.injEq] at ev
      obtain ⟨rfl, _, rfl⟩ := ev
      exact HasR.nil _ _ _ hm5 _)
  obtain ⟨dk, hdk⟩ : ∃ k, d = k + 1 ∨ (d = 0 ∧ k = 0) := by
    cases d with
    | zero => exact ⟨0, .inr ⟨rfl, rfl⟩⟩
    | succ k => exact ⟨k, .inl rfl⟩
  have HDK := Lib.hid hdk
  have HREC := Lib.hid hS
  obtain ⟨L, hL⟩ : ∃ L, L = t.args := ⟨_, rfl⟩
  obtain ⟨to, hto⟩ : ∃ q, q = t.op := ⟨_, rfl⟩
  obtain ⟨tn, htn⟩ : ∃ q, q = t.name := ⟨_, rfl⟩
  obtain ⟨ts, hts⟩ : ∃ q, q = t.sort := ⟨_, rfl⟩
  rw [← hL] at HM HEL HFIN
  rw [← hto, ← htn, ← hts] at HFIN ⊢
  clear h hS hm hB hsz hll hL hdk hto htn hts
  go_enter Try.func34, Try.ntmps34
  go_wp2_with fail
  have HC0 : Hid (CS w to tn ts A m c L dk 0 none 0 (((w.alloc (.cells #[.int .i64 to, .string (bstr tn), .int .i64 ts, .slice A m c] 40)).alloc (.cells #[.int .i64 0, .string { data := #[] }, .int .i64 0, .slice none 0 0] 40)).alloc (.cells #[.int .i64 to, .string (bstr tn), .int .i64 ts, .slice none 0 0] 40))) := Lib.hid (by
    refine ⟨?_, ?_, ?_, ?_, CKids.nil⟩
    · repeat (first | exact Below.refl _ _ | refine Below.alloc ?_ (by first | (simp; done) | (simp; omega)) _)
    · exact Bx.below (w := w.alloc (.cells #[.int .i64 to, .string (bstr tn), .int .i64 ts, .slice A m c] 40)) (heap_at _ _ _ rfl) (((Below.refl _ _).alloc (by simp) _).alloc (by simp) _)
    · exact Bx.below (w := (w.alloc (.cells #[.int .i64 to, .string (bstr tn), .int .i64 ts, .slice A m c] 40)).alloc (.cells #[.int .i64 0, .string { data := #[] }, .int .i64 0, .slice none 0 0] 40)) (heap_at _ _ _ (by simp)) ((Below.refl _ _).alloc (by simp) _)
    · exact heap_at _ _ _ (by simp))
  go_loopw [4] (fun v4 wr => ∃ (j : Nat) (Ar : Option Addr) (cr : Nat), v4 = .int .i64 j ∧ j ≤ m ∧ Hid (CS w to tn ts A m c L dk j Ar cr wr)) (fun i _ => m - (intOf i).toNat)
  case atStart => exact ⟨0, none, 0, rfl, Nat.zero_le _, HC0⟩
  case round =>
    obtain ⟨j, Ar, cr, rfl, hj, HC⟩ := hrel
    obtain ⟨⟨_, _, _, i3⟩, _⟩ := HC.out.ib.cells
    have hxw := HC.out.ib.lt
    by_cases hlt : j < m
    · obtain ⟨k, g, o, A2, c2, hdk, rfl, hgw, e0, e1, e2, e3, hha, hBa, hsa⟩ := HEL.out j hlt
      obtain rfl : dk = k := by have := HDK.out; omega
      obtain ⟨u, hu⟩ : ∃ u, u = L.getD j default := ⟨_, rfl⟩
      rw [← hu] at e0 e1 e2 e3 hha hBa hsa
      have hbw := HC.out.below
      have HU := Lib.hid hu
      have s0 := (hbw.cell (p := ⟨g, o + j * 4, none⟩) hgw).trans e0
      have s1 := (hbw.cell (p := ⟨g, o + j * 4 + 1, none⟩) hgw).trans e1
      have s2 := (hbw.cell (p := ⟨g, o + j * 4 + 2, none⟩) hgw).trans e2
      have s3 := (hbw.cell (p := ⟨g, o + j * 4 + 3, none⟩) hgw).trans e3
      have o3 := HC.out.ob.cells.1.2.2.2
      have hox := HC.out.ob.lt
      obtain ⟨xs, ho⟩ : ∃ xs, wr.ownsRow (w.heap.size + 3) 40 4 (.slice Ar j cr) j xs := by obtain ⟨_, _, xs, h, _⟩ := HC.out.kids; exact ⟨xs, h⟩
      have HO := Lib.hid ho
      have HCALL : Hid (∀ W, Below wr.heap.size wr W → Calls Try.prog 34 #[.agg #[.int .i64 u.op, .string (bstr u.name), .int .i64 u.sort, .slice A2 u.args.length c2]] W (CopyP dk u W)) := Lib.hid (fun W hW => HREC.out dk hdk _ _ W lo (hha.below (Nat.le_refl _) (hbw.trans (hW.mono hbw.size))) hBa hsa)
      have HBA := Lib.hid hBa
      have HBD : Hid (Below wr.heap.size wr wr.drew) := Lib.hid (Below.refl _ _).drew
      have hgx : g ≤ w.heap.size := Nat.le_of_lt hgw
      have hi1 : (0 : Int) ≤ (j : Int) := by omega
      have hi2 : (j : Int) < (m : Int) := by omega
      have hltL : j < L.length := by have := HM.out; omega
      have hjm : j + 1 ≤ 1048576 := by omega
      clear e0 e1 e2 e3 hha hBa hsa ho hbw hu hdk
      go_wp2_with fail
      refine wp_region_noPanic ?_
      refine wp_region_held_drew (S := (S5 wr w.heap.size (.slice (some ⟨g, o, none⟩) m c) g (o + j * 4) (.int .i64 u.op) (.string (bstr u.name)) (.int .i64 u.sort) (.slice A2 u.args.length c2))) (by kernel_rfl) ?_ (fun hHd0 => ?_)
      · refine ⟨⟨?_, ?_, ?_, ?_, ?_⟩, (Below.refl _ _).drew⟩ <;> assumption
      refine wpAnyH_take (i := 0) (v := ?_) rfl (by kernel_rfl) (by kernel_rfl) (by kernel_rfl) (fun _ _ _ h => h) (Or.inl ⟨by rfl, ?_⟩) (by with_reducible assumption) ?_
      rotate_left
      · intro w hSw; (try dsimp only at hSw); go_simp <;> with_reducible rfl
      (try simp only [Act.put]); (try simp only [List.setIfInBounds_toArray]); (try simp only [List.set_cons_succ, List.set_cons_zero])
      refine wpAnyH_take (i := 2) (v := ?_) rfl (by kernel_rfl) (by kernel_rfl) (by kernel_rfl) (fun _ _ _ h => h) (Or.inl ⟨by rfl, ?_⟩) (by with_reducible assumption) ?_
      rotate_left
      · intro w hSw; (try dsimp only at hSw); go_simp <;> with_reducible rfl
      (try simp only [Act.put]); (try simp only [List.setIfInBounds_toArray]); (try simp only [List.set_cons_succ, List.set_cons_zero])
      refine wpAnyH_take (i := 3) (v := ?_) rfl (by kernel_rfl) (by kernel_rfl) (by kernel_rfl) (fun _ _ _ h => h) (Or.inl ⟨by rfl, ?_⟩) (by with_reducible assumption) ?_
      rotate_left
      · intro w hSw; (try dsimp only at hSw); go_simp <;> with_reducible rfl
      (try simp only [Act.put]); (try simp only [List.setIfInBounds_toArray]); (try simp only [List.set_cons_succ, List.set_cons_zero])
      refine wpAnyH_take (i := 4) (v := ?_) rfl (by kernel_rfl) (by kernel_rfl) (by kernel_rfl) (fun _ _ _ h => h) (Or.inl ⟨by rfl, ?_⟩) (by with_reducible assumption) ?_
      rotate_left
      · intro w hSw; (try dsimp only at hSw); go_simp <;> with_reducible rfl
      (try simp only [Act.put]); (try simp only [List.setIfInBounds_toArray]); (try simp only [List.set_cons_succ, List.set_cons_zero])
      refine wpAnyH_take (i := 5) (v := ?_) rfl (by kernel_rfl) (by kernel_rfl) (by kernel_rfl) (fun _ _ _ h => h) (Or.inl ⟨by rfl, ?_⟩) (by with_reducible assumption) ?_
      rotate_left
      · intro w hSw; (try dsimp only at hSw); go_simp <;> with_reducible rfl
      (try simp only [Act.put]); (try simp only [List.setIfInBounds_toArray]); (try simp only [List.set_cons_succ, List.set_cons_zero])
      refine wpAnyH_take (i := 6) (v := ?_) rfl (by kernel_rfl) (by kernel_rfl) (by kernel_rfl) (fun _ _ _ h => h) (Or.inl ⟨by rfl, ?_⟩) (by with_reducible assumption) ?_
      rotate_left
      · intro w hSw; (try dsimp only at hSw); go_simp <;> with_reducible rfl
      (try simp only [Act.put]); (try simp only [List.setIfInBounds_toArray]); (try simp only [List.set_cons_succ, List.set_cons_zero])
      refine wpAnyH_ready (rs := [1, 7]) (by kernel_rfl) (by simp) ?_
      refine AllReadyH.cons (o := _) rfl (fun K hK => ?_) ?_
      · go_simp
        refine hK.out _ _ ?_ (fun hHd1 => ?_)
        · (try dsimp only); first | (with_reducible assumption) | ((with_reducible refine S5.set ?_ hgx (by omega)); with_reducible assumption) | ((with_reducible refine S5.al ?_ hgx (by omega)); with_reducible assumption) | (refine ⟨⟨?_, ?_, ?_, ?_, ?_⟩, (Below.refl _ _).drew⟩ <;> assumption)
        clear hK K hHd0
        (try simp only [Act.put]); (try simp only [List.setIfInBounds_toArray]); (try simp only [List.set_cons_succ, List.set_cons_zero])
        refine wpAnyH_ready (rs := [7]) (by kernel_rfl) (by simp) ?_
        refine AllReadyH.cons (o := _) rfl (fun K hK => ?_) ?_
        · (go_simp; refine (HCALL.out _ HBD.out).mono ?_; rintro e w3 ⟨va, rfl, hh, hb3⟩; obtain ⟨A9, c9, rfl, _⟩ := HasR.shape hh rfl; have HHH : Hid (HasTs dk wr.heap.size w3 (.slice A9 u.args.length c9) u.args) := Lib.hid hh; have HB3 : Hid (Below wr.heap.size wr w3) := Lib.hid (HBD.out.trans (hb3.mono (Nat.le_refl _))); have hz3 := HB3.out.size; have o3w := (HB3.out.cell (p := ⟨w.heap.size + 1 + 1, 3, none⟩) hox).trans o3; have hoxw : w.heap.size + 1 + 1 < w3.heap.size := (by omega); have hS1 := S5.next (by with_reducible assumption) hgx (hb3.mono (by show w.heap.size + 1 ≤ wr.heap.size; omega)); clear hh hb3; (try dsimp only))
          refine hK.out _ _ ?_ (fun hHd2 => ?_)
          · (try dsimp only); first | (with_reducible assumption) | ((with_reducible refine S5.set ?_ hgx (by omega)); with_reducible assumption) | ((with_reducible refine S5.al ?_ hgx (by omega)); with_reducible assumption) | (refine ⟨⟨?_, ?_, ?_, ?_, ?_⟩, (Below.refl _ _).drew⟩ <;> assumption)
          clear hK K hHd1
          (try simp only [Act.put]); (try simp only [List.setIfInBounds_toArray]); (try simp only [List.set_cons_succ, List.set_cons_zero])
          refine wpAnyH_ready (rs := [8]) (by kernel_rfl) (by simp) ?_
          refine AllReadyH.cons (o := _) rfl (fun K hK => ?_) ?_
          · go_simp
            refine hK.out _ _ ?_ (fun hHd3 => ?_)
            · (try dsimp only); first | (with_reducible assumption) | ((with_reducible refine S5.set ?_ hgx (by omega)); with_reducible assumption) | ((with_reducible refine S5.al ?_ hgx (by omega)); with_reducible assumption) | (refine ⟨⟨?_, ?_, ?_, ?_, ?_⟩, (Below.refl _ _).drew⟩ <;> assumption)
            clear hK K hHd2
            (try simp only [Act.put]); (try simp only [List.setIfInBounds_toArray]); (try simp only [List.set_cons_succ, List.set_cons_zero])
            refine wpAnyH_ready (rs := [9]) (by kernel_rfl) (by simp) ?_
            refine AllReadyH.cons (o := _) rfl (fun K hK => ?_) ?_
            · (refine step_append_any (by rfl) _ _ _ (by rfl) (w.heap.size + 3) 40 j0 _ 4 56 Try.underlying29 hij hy0 hy1 hy2 rfl (by omega) (.slice Ar j cr) j xs (by rfl) (own_below (own_below HO.out HB3.out) ((Below.refl _ _).alloc (Nat.le_refl _) _)) ⟨w3.heap.size, 0, none⟩ 1 1 [.int .i64 u.op, .string (bstr u.name), .int .i64 u.sort, .slice A9 u.args.length c9] (by rfl) (by omega) (by rfl) (fun q x hq => cells4_at w3 _ _ _ _ _ q x hq) (cells4_one rfl rfl rfl rfl) (by unfold maxLen; omega) (by omega) (by simp; omega) ?_; intro g4 cap4 w5 hown hgr hg4 hlt4; have HN := Lib.hid (CS.next HC.out HU.out hltL HB3.out HHH.out HBA.out HO.out hown hgr hg4); have hS2 := S5.next (by with_reducible assumption) hgx ((Below.refl (w.heap.size + 1) _).grown hgr (by simp; omega) (fun q hq => by have := (own_blk HO.out q hq).1; omega)); have obc := HN.out.2.cells.1.2.2.2; have obf := HN.out.2.cells.2.2.2.2; have hox5 := HN.out.2.lt; clear hown hgr hg4)
              refine hK.out _ _ ?_ (fun hHd4 => ?_)
              · (try dsimp only); first | (with_reducible assumption) | ((with_reducible refine S5.set ?_ hgx (by omega)); with_reducible assumption) | ((with_reducible refine S5.al ?_ hgx (by omega)); with_reducible assumption) | (refine ⟨⟨?_, ?_, ?_, ?_, ?_⟩, (Below.refl _ _).drew⟩ <;> assumption)
              clear hK K hHd3
              (try simp only [Act.put]); (try simp only [List.setIfInBounds_toArray]); (try simp only [List.set_cons_succ, List.set_cons_zero])
              refine wpAnyH_take (i := 10) (v := ?_) rfl (by kernel_rfl) (by kernel_rfl) (by kernel_rfl) (fun _ _ _ h => h) (Or.inl ⟨by rfl, ?_⟩) (by with_reducible assumption) ?_
              rotate_left
              · intro w hSw; (try dsimp only at hSw); go_simp <;> with_reducible rfl
              (try simp only [Act.put]); (try simp only [List.setIfInBounds_toArray]); (try simp only [List.set_cons_succ, List.set_cons_zero])
              refine wpAnyH_ready (rs := [11]) (by kernel_rfl) (by simp) ?_
              refine AllReadyH.cons (o := _) rfl (fun K hK => ?_) ?_
              · go_simp
                refine hK.out _ _ ?_ (fun hHd5 => ?_)
                · (try dsimp only); first | (with_reducible assumption) | ((with_reducible refine S5.set ?_ hgx (by omega)); with_reducible assumption) | ((with_reducible refine S5.al ?_ hgx (by omega)); with_reducible assumption) | (refine ⟨⟨?_, ?_, ?_, ?_, ?_⟩, (Below.refl _ _).drew⟩ <;> assumption)
                clear hK K hHd4
                (try simp only [Act.put]); (try simp only [List.setIfInBounds_toArray]); (try simp only [List.set_cons_succ, List.set_cons_zero])
                refine wpAnyH_done (by kernel_rfl) ?_ _
                refine NoPanic.normal ?_
                have HN2 := Lib.hid HN.out.1
                go_wp2
                go_roundw
                case rel => exact ⟨j + 1, _, cap4, by go_num, by omega, HN2⟩
                case measure => simp [intOf]; omega
              exact AllReadyH.nil
            exact AllReadyH.nil
          exact AllReadyH.nil
        exact AllReadyH.nil
      refine AllReadyH.cons (o := _) rfl (fun K hK => ?_) ?_
      · (go_simp; refine (HCALL.out _ HBD.out).mono ?_; rintro e w3 ⟨va, rfl, hh, hb3⟩; obtain ⟨A9, c9, rfl, _⟩ := HasR.shape hh rfl; have HHH : Hid (HasTs dk wr.heap.size w3 (.slice A9 u.args.length c9) u.args) := Lib.hid hh; have HB3 : Hid (Below wr.heap.size wr w3) := Lib.hid (HBD.out.trans (hb3.mono (Nat.le_refl _))); have hz3 := HB3.out.size; have o3w := (HB3.out.cell (p := ⟨w.heap.size + 1 + 1, 3, none⟩) hox).trans o3; have hoxw : w.heap.size + 1 + 1 < w3.heap.size := (by omega); have hS1 := S5.next (by with_reducible assumption) hgx (hb3.mono (by show w.heap.size + 1 ≤ wr.heap.size; omega)); clear hh hb3; (try dsimp only))
        refine hK.out _ _ ?_ (fun hHd6 => ?_)
        · (try dsimp only); first | (with_reducible assumption) | ((with_reducible refine S5.set ?_ hgx (by omega)); with_reducible assumption) | ((with_reducible refine S5.al ?_ hgx (by omega)); with_reducible assumption) | (refine ⟨⟨?_, ?_, ?_, ?_, ?_⟩, (Below.refl _ _).drew⟩ <;> assumption)
        clear hK K hHd0
        (try simp only [Act.put]); (try simp only [List.setIfInBounds_toArray]); (try simp only [List.set_cons_succ, List.set_cons_zero])
        refine wpAnyH_ready (rs := [1, 8]) (by kernel_rfl) (by simp) ?_
        refine AllReadyH.cons (o := _) rfl (fun K hK => ?_) ?_
        · go_simp
          refine hK.out _ _ ?_ (fun hHd7 => ?_)
          · (try dsimp only); first | (with_reducible assumption) | ((with_reducible refine S5.set ?_ hgx (by omega)); with_reducible assumption) | ((with_reducible refine S5.al ?_ hgx (by omega)); with_reducible assumption) | (refine ⟨⟨?_, ?_, ?_, ?_, ?_⟩, (Below.refl _ _).drew⟩ <;> assumption)
          clear hK K hHd6
          (try simp only [Act.put]); (try simp only [List.setIfInBounds_toArray]); (try simp only [List.set_cons_succ, List.set_cons_zero])
          refine wpAnyH_ready (rs := [8]) (by kernel_rfl) (by simp) ?_
          refine AllReadyH.cons (o := _) rfl (fun K hK => ?_) ?_
          · go_simp
            refine hK.out _ _ ?_ (fun hHd8 => ?_)
            · (try dsimp only); first | (with_reducible assumption) | ((with_reducible refine S5.set ?_ hgx (by omega)); with_reducible assumption) | ((with_reducible refine S5.al ?_ hgx (by omega)); with_reducible assumption) | (refine ⟨⟨?_, ?_, ?_, ?_, ?_⟩, (Below.refl _ _).drew⟩ <;> assumption)
            clear hK K hHd7
            (try simp only [Act.put]); (try simp only [List.setIfInBounds_toArray]); (try simp only [List.set_cons_succ, List.set_cons_zero])
            refine wpAnyH_ready (rs := [9]) (by kernel_rfl) (by simp) ?_
            refine AllReadyH.cons (o := _) rfl (fun K hK => ?_) ?_
            · (refine step_append_any (by rfl) _ _ _ (by rfl) (w.heap.size + 3) 40 j0 _ 4 56 Try.underlying29 hij hy0 hy1 hy2 rfl (by omega) (.slice Ar j cr) j xs (by rfl) (own_below (own_below HO.out HB3.out) ((Below.refl _ _).alloc (Nat.le_refl _) _)) ⟨w3.heap.size, 0, none⟩ 1 1 [.int .i64 u.op, .string (bstr u.name), .int .i64 u.sort, .slice A9 u.args.length c9] (by rfl) (by omega) (by rfl) (fun q x hq => cells4_at w3 _ _ _ _ _ q x hq) (cells4_one rfl rfl rfl rfl) (by unfold maxLen; omega) (by omega) (by simp; omega) ?_; intro g4 cap4 w5 hown hgr hg4 hlt4; have HN := Lib.hid (CS.next HC.out HU.out hltL HB3.out HHH.out HBA.out HO.out hown hgr hg4); have hS2 := S5.next (by with_reducible assumption) hgx ((Below.refl (w.heap.size + 1) _).grown hgr (by simp; omega) (fun q hq => by have := (own_blk HO.out q hq).1; omega)); have obc := HN.out.2.cells.1.2.2.2; have obf := HN.out.2.cells.2.2.2.2; have hox5 := HN.out.2.lt; clear hown hgr hg4)
              refine hK.out _ _ ?_ (fun hHd9 => ?_)
              · (try dsimp only); first | (with_reducible assumption) | ((with_reducible refine S5.set ?_ hgx (by omega)); with_reducible assumption) | ((with_reducible refine S5.al ?_ hgx (by omega)); with_reducible assumption) | (refine ⟨⟨?_, ?_, ?_, ?_, ?_⟩, (Below.refl _ _).drew⟩ <;> assumption)
              clear hK K hHd8
              (try simp only [Act.put]); (try simp only [List.setIfInBounds_toArray]); (try simp only [List.set_cons_succ, List.set_cons_zero])
              refine wpAnyH_take (i := 10) (v := ?_) rfl (by kernel_rfl) (by kernel_rfl) (by kernel_rfl) (fun _ _ _ h => h) (Or.inl ⟨by rfl, ?_⟩) (by with_reducible assumption) ?_
              rotate_left
              · intro w hSw; (try dsimp only at hSw); go_simp <;> with_reducible rfl
              (try simp only [Act.put]); (try simp only [List.setIfInBounds_toArray]); (try simp only [List.set_cons_succ, List.set_cons_zero])
              refine wpAnyH_ready (rs := [11]) (by kernel_rfl) (by simp) ?_
              refine AllReadyH.cons (o := _) rfl (fun K hK => ?_) ?_
              · go_simp
                refine hK.out _ _ ?_ (fun hHd10 => ?_)
                · (try dsimp only); first | (with_reducible assumption) | ((with_reducible refine S5.set ?_ hgx (by omega)); with_reducible assumption) | ((with_reducible refine S5.al ?_ hgx (by omega)); with_reducible assumption) | (refine ⟨⟨?_, ?_, ?_, ?_, ?_⟩, (Below.refl _ _).drew⟩ <;> assumption)
                clear hK K hHd9
                (try simp only [Act.put]); (try simp only [List.setIfInBounds_toArray]); (try simp only [List.set_cons_succ, List.set_cons_zero])
                refine wpAnyH_done (by kernel_rfl) ?_ _
                refine NoPanic.normal ?_
                have HN2 := Lib.hid HN.out.1
                go_wp2
                go_roundw
                case rel => exact ⟨j + 1, _, cap4, by go_num, by omega, HN2⟩
                case measure => simp [intOf]; omega
              exact AllReadyH.nil
            exact AllReadyH.nil
          exact AllReadyH.nil
        refine AllReadyH.cons (o := _) rfl (fun K hK => ?_) ?_
        · go_simp
          refine hK.out _ _ ?_ (fun hHd11 => ?_)
          · (try dsimp only); first | (with_reducible assumption) | ((with_reducible refine S5.set ?_ hgx (by omega)); with_reducible assumption) | ((with_reducible refine S5.al ?_ hgx (by omega)); with_reducible assumption) | (refine ⟨⟨?_, ?_, ?_, ?_, ?_⟩, (Below.refl _ _).drew⟩ <;> assumption)
          clear hK K hHd6
          (try simp only [Act.put]); (try simp only [List.setIfInBounds_toArray]); (try simp only [List.set_cons_succ, List.set_cons_zero])
          refine wpAnyH_ready (rs := [1]) (by kernel_rfl) (by simp) ?_
          refine AllReadyH.cons (o := _) rfl (fun K hK => ?_) ?_
          · go_simp
            refine hK.out _ _ ?_ (fun hHd12 => ?_)
            · (try dsimp only); first | (with_reducible assumption) | ((with_reducible refine S5.set ?_ hgx (by omega)); with_reducible assumption) | ((with_reducible refine S5.al ?_ hgx (by omega)); with_reducible assumption) | (refine ⟨⟨?_, ?_, ?_, ?_, ?_⟩, (Below.refl _ _).drew⟩ <;> assumption)
            clear hK K hHd11
            (try simp only [Act.put]); (try simp only [List.setIfInBounds_toArray]); (try simp only [List.set_cons_succ, List.set_cons_zero])
            refine wpAnyH_ready (rs := [9]) (by kernel_rfl) (by simp) ?_
            refine AllReadyH.cons (o := _) rfl (fun K hK => ?_) ?_
            · (refine step_append_any (by rfl) _ _ _ (by rfl) (w.heap.size + 3) 40 j0 _ 4 56 Try.underlying29 hij hy0 hy1 hy2 rfl (by omega) (.slice Ar j cr) j xs (by rfl) (own_below (own_below HO.out HB3.out) ((Below.refl _ _).alloc (Nat.le_refl _) _)) ⟨w3.heap.size, 0, none⟩ 1 1 [.int .i64 u.op, .string (bstr u.name), .int .i64 u.sort, .slice A9 u.args.length c9] (by rfl) (by omega) (by rfl) (fun q x hq => cells4_at w3 _ _ _ _ _ q x hq) (cells4_one rfl rfl rfl rfl) (by unfold maxLen; omega) (by omega) (by simp; omega) ?_; intro g4 cap4 w5 hown hgr hg4 hlt4; have HN := Lib.hid (CS.next HC.out HU.out hltL HB3.out HHH.out HBA.out HO.out hown hgr hg4); have hS2 := S5.next (by with_reducible assumption) hgx ((Below.refl (w.heap.size + 1) _).grown hgr (by simp; omega) (fun q hq => by have := (own_blk HO.out q hq).1; omega)); have obc := HN.out.2.cells.1.2.2.2; have obf := HN.out.2.cells.2.2.2.2; have hox5 := HN.out.2.lt; clear hown hgr hg4)
              refine hK.out _ _ ?_ (fun hHd13 => ?_)
              · (try dsimp only); first | (with_reducible assumption) | ((with_reducible refine S5.set ?_ hgx (by omega)); with_reducible assumption) | ((with_reducible refine S5.al ?_ hgx (by omega)); with_reducible assumption) | (refine ⟨⟨?_, ?_, ?_, ?_, ?_⟩, (Below.refl _ _).drew⟩ <;> assumption)
              clear hK K hHd12
              (try simp only [Act.put]); (try simp only [List.setIfInBounds_toArray]); (try simp only [List.set_cons_succ, List.set_cons_zero])
              refine wpAnyH_take (i := 10) (v := ?_) rfl (by kernel_rfl) (by kernel_rfl) (by kernel_rfl) (fun _ _ _ h => h) (Or.inl ⟨by rfl, ?_⟩) (by with_reducible assumption) ?_
              rotate_left
              · intro w hSw; (try dsimp only at hSw); go_simp <;> with_reducible rfl
              (try simp only [Act.put]); (try simp only [List.setIfInBounds_toArray]); (try simp only [List.set_cons_succ, List.set_cons_zero])
              refine wpAnyH_ready (rs := [11]) (by kernel_rfl) (by simp) ?_
              refine AllReadyH.cons (o := _) rfl (fun K hK => ?_) ?_
              · go_simp
                refine hK.out _ _ ?_ (fun hHd14 => ?_)
                · (try dsimp only); first | (with_reducible assumption) | ((with_reducible refine S5.set ?_ hgx (by omega)); with_reducible assumption) | ((with_reducible refine S5.al ?_ hgx (by omega)); with_reducible assumption) | (refine ⟨⟨?_, ?_, ?_, ?_, ?_⟩, (Below.refl _ _).drew⟩ <;> assumption)
                clear hK K hHd13
                (try simp only [Act.put]); (try simp only [List.setIfInBounds_toArray]); (try simp only [List.set_cons_succ, List.set_cons_zero])
                refine wpAnyH_done (by kernel_rfl) ?_ _
                refine NoPanic.normal ?_
                have HN2 := Lib.hid HN.out.1
                go_wp2
                go_roundw
                case rel => exact ⟨j + 1, _, cap4, by go_num, by omega, HN2⟩
                case measure => simp [intOf]; omega
              exact AllReadyH.nil
            exact AllReadyH.nil
          exact AllReadyH.nil
        exact AllReadyH.nil
      exact AllReadyH.nil
    · obtain rfl : j = m := by omega
      obtain ⟨⟨o0, o1, o2, o3⟩, _⟩ := HC.out.ob.cells
      obtain ⟨_, f0, f1, f2, f3⟩ := HC.out.rb.cells
      obtain ⟨⟨r0, r1, r2, r3⟩, _⟩ := HC.out.rb.cells
      go_wp2
      refine bodyPost_ret (v := .agg #[.int .i64 to, .string (bstr tn), .int .i64 ts, .slice Ar j cr]) (by simp [results, Try.results34, go_sem, r0, r1, r2, r3]) rfl ?_
      exact HFIN.out dk Ar cr wr _ _ _ _ HDK.out HC.out
theorem copyT_any : ∀ d, CopyT d
  | 0 => copy_step (fun k e => by omega)
  | d + 1 => copy_step (fun k e => by obtain rfl : d = k := by omega
                                      exact copyT_any d)
end Go.Proofs.Ytiilamngcoegiaa.termlc
