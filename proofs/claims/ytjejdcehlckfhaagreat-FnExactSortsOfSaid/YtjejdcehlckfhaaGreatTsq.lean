/-
  THE MODEL's l7Chain: arguments in their order.
-/
import Derived.Test.YtjejdcehlckfhaaGreatTsp
import Derived.Test.YtjejdcehlckfhaaGreatGt
namespace Go.Proofs.YtjejdcehlckfhaaGreat.tsq
open Go.ChangeShapes Go.WideShapes Go.ChangeAt Go.RowKit
open mem split strl subs sortn setm sets sortm sortp sorti sortf sortu sortg rowl sigm sigs sigk trm tsa tsm tsi tsj tsn tsp

/-! ### the table of intervals -/
/-- entries of the sizes below s, and of the size s below i, are filled in; the entry at i holds c -/
def Tab (U : List Nat) (D : List (List Int × Int)) (A : List Nat) (p s i c : Nat) (T : List Nat) : Prop :=
  T.length = p * p ∧ ∀ a b, a ≤ b → b < p → T.getD (a * p + b) 0 = if b + 1 - a < s ∨ (b + 1 - a = s ∧ a < i) then V false U D A (iv a b) else if b + 1 - a = s ∧ a = i then c else 0
section
variable {U : List Nat} {D : List (List Int × Int)} {A : List Nat} {p s i c : Nat} {T : List Nat}
theorem idx_inj {a b x y : Nat} (hb : b < p) (hy : y < p) (h : a * p + b = x * p + y) : a = x ∧ b = y := by
  rcases Nat.lt_trichotomy a x with h1 | h1 | h1
  · have := Nat.mul_le_mul_right p (show a + 1 ≤ x from h1); rw [Nat.add_mul, Nat.one_mul] at this; omega
  · subst h1; exact ⟨rfl, by omega⟩
  · have := Nat.mul_le_mul_right p (show x + 1 ≤ a from h1); rw [Nat.add_mul, Nat.one_mul] at this; omega
theorem idx_lt {a b : Nat} (ha : a < p) (hb : b < p) : a * p + b < p * p := by
  have := Nat.mul_le_mul_right p (show a + 1 ≤ p from ha); rw [Nat.add_mul, Nat.one_mul] at this; omega
theorem Tab.zero : Tab U D A p 1 0 0 (List.replicate (p * p) 0) := by
  refine ⟨by simp, fun a b hab hb => ?_⟩
  rw [if_neg (by omega)]
  have : (List.replicate (p * p) 0).getD (a * p + b) 0 = 0 := by
    rw [List.getD_eq_getElem?_getD, List.getElem?_replicate]
    split <;> rfl
  rw [this]
  split <;> rfl
theorem Tab.store (h : Tab U D A p s i c T) (hs : 1 ≤ s) (hi : i + s ≤ p) (c' : Nat) : Tab U D A p s i c' (T.set (i * p + (i + s - 1)) c') := by
  have hx : i * p + (i + s - 1) < T.length := by rw [h.1]; exact idx_lt (by omega) (by omega)
  refine ⟨by rw [List.length_set]; exact h.1, fun a b hab hb => ?_⟩
  rw [getD_set _ _ hx, h.2 a b hab hb]
  by_cases e : a * p + b = i * p + (i + s - 1)
  · obtain ⟨e1, e2⟩ := idx_inj hb (by omega) e
    rw [if_pos e, if_neg (by omega), if_pos (by omega)]
  · rw [if_neg e]
    by_cases h1 : b + 1 - a < s ∨ (b + 1 - a = s ∧ a < i)
    · rw [if_pos h1, if_pos h1]
    · rw [if_neg h1, if_neg h1, if_neg, if_neg]
      · rintro ⟨h2, h3⟩; subst h3; apply e; rw [show b = a + s - 1 by omega]
      · rintro ⟨h2, h3⟩; subst h3; apply e; rw [show b = a + s - 1 by omega]
theorem Tab.here (h : Tab U D A p s i c T) (hs : 1 ≤ s) (hi : i + s ≤ p) : T.getD (i * p + (i + s - 1)) 0 = c := by
  rw [h.2 i (i + s - 1) (by omega) (by omega), if_neg (by omega), if_pos (by omega)]
theorem Tab.next (h : Tab U D A p s i c T) (hs : 1 ≤ s) (hc : c = V false U D A (iv i (i + s - 1))) : Tab U D A p s (i + 1) 0 T := by
  refine ⟨h.1, fun a b hab hb => ?_⟩
  rw [h.2 a b hab hb]
  by_cases h1 : b + 1 - a < s ∨ (b + 1 - a = s ∧ a < i)
  · rw [if_pos h1, if_pos (by omega)]
  · rw [if_neg h1]
    by_cases h2 : b + 1 - a = s ∧ a = i
    · rw [if_pos h2, if_pos (by omega), hc, h2.2, show b = i + s - 1 by omega]
    · rw [if_neg h2, if_neg (by omega)]
      split <;> rfl
theorem Tab.up (h : Tab U D A p s i 0 T) (hi : p < i + s) : Tab U D A p (s + 1) 0 0 T := by
  refine ⟨h.1, fun a b hab hb => ?_⟩
  rw [h.2 a b hab hb]
  by_cases h1 : b + 1 - a < s ∨ (b + 1 - a = s ∧ a < i)
  · rw [if_pos h1, if_pos (by omega)]
  · have hn : ¬ (b + 1 - a < s + 1 ∨ (b + 1 - a = s + 1 ∧ a < 0)) := by omega
    rw [if_neg h1, if_neg hn]
    split <;> split <;> rfl
theorem Tab.read (h : Tab U D A p s i c T) {a b : Nat} (hab : a ≤ b) (hb : b < p) (hl : b + 1 - a < s) : T.getD (a * p + b) 0 = V false U D A (iv a b) := by
  rw [h.2 a b hab hb, if_pos (.inl hl)]
theorem Tab.final (h : Tab U D A p (p + 1) i c T) (hp : 1 ≤ p) : T.getD (p - 1) 0 = V false U D A (2 ^ p - 1) := by
  have := h.2 0 (p - 1) (Nat.zero_le _) (by omega)
  rw [Nat.zero_mul, Nat.zero_add] at this
  rw [this, if_pos (by omega), iv_whole p hp]
end
theorem zeros_ivs (n : Nat) : (madeCells #[Value.int .i64 0] n).toList = ivs (nats (List.replicate n 0)) := by
  simp [madeCells, ivs, nats, Nat.mod_one, List.map_const']
theorem chainTo_lt {U : List Nat} (hU : Lim U) (D : List (List Int × Int)) (A : List Nat) (i j k : Nat) : chainTo U D A i j k < 2 ^ U.length := orL_lt _ _ _ fun _ _ => upC_lt hU _
theorem i64_lit2 (w : World) (x y : Nat) : Has (w.alloc (.cells #[.int .i64 (x : Int), .int .i64 (y : Int)] 3)) (.slice (some ⟨w.heap.size, 0, none⟩) 2 2) (ivs (nats [x, y])) := by
  refine ⟨_, 2, rfl, by simp [ivs, nats], by unfold maxLen; omega, fun j v hv => ⟨w.heap.size, 0, rfl, by simp, ?_⟩⟩
  match j, hv with
  | 0, hv => simp [ivs, nats] at hv; subst hv; simp
  | 1, hv => simp [ivs, nats] at hv; subst hv; simp
abbrev SChn (x g o gt k1 k2 : Nat) (v0 v1 v2 vd : Value) (c1 c2 : Nat) (w : World) : Prop := ((w.cell? ⟨x, 0, none⟩ = some v0 ∧ w.cell? ⟨x, 1, none⟩ = some v1 ∧ w.cell? ⟨x, 2, none⟩ = some v2) ∧ w.cell? ⟨g, o + 1, none⟩ = some vd) ∧ w.cell? ⟨gt, k1, none⟩ = some (.int .i64 (c1 : Int)) ∧ w.cell? ⟨gt, k2, none⟩ = some (.int .i64 (c2 : Int))
theorem SChn.below {x g o gt k1 k2 : Nat} {v0 v1 v2 vd : Value} {c1 c2 : Nat} {W w : World} (h : SChn x g o gt k1 k2 v0 v1 v2 vd c1 c2 W) (hb : Below W.heap.size W w) : SChn x g o gt k1 k2 v0 v1 v2 vd c1 c2 w := by
  have k : ∀ {a : Addr} {v : Value}, W.cell? a = some v → w.cell? a = some v := fun {a v} h => (hb.cell (p := a) (block_lt_of_cell h)).trans h
  exact ⟨⟨⟨k h.1.1.1, k h.1.1.2.1, k h.1.1.2.2⟩, k h.1.2⟩, k h.2.1, k h.2.2⟩
theorem SChn.set {x g o gt k1 k2 : Nat} {v0 v1 v2 vd : Value} {c1 c2 : Nat} {w : World} (h : SChn x g o gt k1 k2 v0 v1 v2 vd c1 c2 w) (hx : x ≠ gt) (hg : g ≠ gt) {j : Nat} (h1 : j ≠ k1) (h2 : j ≠ k2) (u : Value) : SChn x g o gt k1 k2 v0 v1 v2 vd c1 c2 (w.setCell ⟨gt, j, none⟩ u) := by
  have k : ∀ b y, b ≠ gt → (w.setCell ⟨gt, j, none⟩ u).cell? ⟨b, y, none⟩ = w.cell? ⟨b, y, none⟩ := fun b y hb => World.cell?_setCell_other w ⟨gt, j, none⟩ ⟨b, y, none⟩ u (fun e => hb (by injection e with e _ _; exact e.symm))
  have k2' : ∀ y, j ≠ y → (w.setCell ⟨gt, j, none⟩ u).cell? ⟨gt, y, none⟩ = w.cell? ⟨gt, y, none⟩ := fun y hy => World.cell?_setCell_other w ⟨gt, j, none⟩ ⟨gt, y, none⟩ u (fun e => hy (by injection e))
  unfold SChn
  rw [k x _ hx, k x _ hx, k x _ hx, k g _ hg, k2' k1 h1, k2' k2 h2]
  exact h
set_option maxRecDepth 50000 in
set_option maxHeartbeats 8000000 in
/-- spec.l7Chain -/
theorem l7Chain_any (P : List (List UInt8)) (Q : List (Int × Int)) (O : List OpM) (hok : sigOk P Q O = true) (k : Nat) (hk : k < O.length) (A : List Nat) (har : ar (O.getD k default) = 2) (h2 : 2 ≤ A.length) (h7 : A.length ≤ 7) (hA : ∀ i, A.getD i 0 < 2 ^ P.length) (va vb vc vs : Value) (w : World) (h : HasG w va vb vc P Q O) (h1 : Has w vs (ivs (nats A))) :
    Calls Tryz.prog 79 #[.agg #[va, vb, vc], .int .i64 (k : Int), vs] w fun e w' => e = .returned (.int .i64 ((V false (clo P.length (prs Q)) (O.getD k default).decls A (2 ^ A.length - 1) : Nat) : Int)) ∧ Below w.heap.size w w' := by
  have hokS := (sigOk_parts hok).1
  obtain ⟨p1, p2, p3, p4, _⟩ := okS_parts hokS
  have hlim := lim_clo hokS
  have hcl := clo_len P.length (prs Q)
  have hpn := pow8 p2
  have HUP := Lib.hid (fun W (hW : Below w.heap.size w W) => l3Up_any P Q p1 p2 (by omega) p3 va vb W (h.s.below (Nat.le_refl _) hW))
  obtain ⟨A1, c1, A2, c2, A3, c3, rfl, rfl, rfl, _, _, _, h'⟩ := h.shape
  obtain ⟨g, o, Ad, cd, rfl, _, hg, _, e1, _, _, _, hD, _, _⟩ := op_at h'.o hk
  have hDN : DeclN (clo P.length (prs Q)).length 2 (O.getD k default).decls := by rw [hcl, ← har]; exact declN hok hk
  have HGV := Lib.hid (fun W vu (x y : Nat) (hx : x < 65536) (hy : y < 65536) va (hW : Below w.heap.size w W) (hu : Has W vu (ivs (nats (clo P.length (prs Q))))) (h1 : Has W va (ivs (nats [x, y]))) => l7Give_any (clo P.length (prs Q)) hlim (O.getD k default).decls [x, y] hDN (fun i => by
    match i with
    | 0 => exact hx
    | 1 => exact hy
    | i + 2 => simp) vu _ va W hu (hD.below RD_steady (Nat.le_refl _) hW) h1)
  have hAc : ∀ i, A.getD i 0 < 2 ^ (clo P.length (prs Q)).length := fun i => by rw [hcl]; exact hA i
  have HVL := Lib.hid (fun g => V_lt false (clo P.length (prs Q)) (O.getD k default).decls A hlim hAc g)
  have HCH := Lib.hid (fun i j k' => chainTo_lt hlim (O.getD k default).decls A i j k')
  have HV1 := Lib.hid (fun i (h : i < 16) => V_one false (clo P.length (prs Q)) (O.getD k default).decls A h)
  have HCS := Lib.hid (fun i j k' => chainTo_succ (clo P.length (prs Q)) (O.getD k default).decls A i j k')
  have HCA := Lib.hid (fun i j (h : i < j) (hj : j < 7) => chainTo_all (clo P.length (prs Q)) (O.getD k default).decls A h hj)
  rw [hcl] at HVL HCH
  obtain ⟨U, hU⟩ : ∃ q, q = clo P.length (prs Q) := ⟨_, rfl⟩
  rw [← hU] at HGV HVL HCH HV1 HCS HCA HUP ⊢
  obtain ⟨DD, hDD⟩ : ∃ q, q = (O.getD k default).decls := ⟨_, rfl⟩
  rw [← hDD] at HGV HVL HCH HV1 HCS HCA e1 ⊢
  obtain ⟨p, hp⟩ : ∃ q, q = A.length := ⟨_, rfl⟩
  obtain ⟨As, cs, rfl, h1⟩ := h1.shape (n := p) (by rw [ivs_len, nats_len, hp])
  have hpl := h1.len.2
  have HAS := Lib.hid h1
  have HP := Lib.hid hp
  have HAL := Lib.hid hA
  rw [← hp] at h2 h7 ⊢
  have HTZ : Hid (∀ T i c, Tab U DD A p (p + 1) i c T → T.getD (p - 1) 0 = V false U DD A (2 ^ p - 1)) := Lib.hid (fun T i c h => h.final (by omega))
  obtain ⟨vr, hvr⟩ : ∃ q, q = V false U DD A (2 ^ p - 1) := ⟨_, rfl⟩
  rw [← hvr] at HTZ ⊢
  obtain ⟨dl, hdl⟩ : ∃ q, q = DD.length := ⟨_, rfl⟩
  rw [← hdl] at HGV e1
  obtain ⟨m1, hm1⟩ : ∃ q, q = P.length := ⟨_, rfl⟩
  obtain ⟨m2, hm2⟩ : ∃ q, q = Q.length := ⟨_, rfl⟩
  obtain ⟨m3, hm3⟩ : ∃ q, q = O.length := ⟨_, rfl⟩
  have i1 : (0 : Int) ≤ (k : Int) := by omega
  have i2 : (k : Int) < (m3 : Int) := by omega
  rw [← hm1] at hpn HVL HCH HAL
  rw [← hm1, ← hm2] at HUP
  rw [← hm1, ← hm2, ← hm3]
  obtain ⟨W, hW⟩ : ∃ W, W = w.alloc (.cells #[.slice A1 m1 c1, .slice A2 m2 c2, .slice (some ⟨g, o, none⟩) m3 c3] 40) := ⟨_, rfl⟩
  have hb0 : Below w.heap.size w W := by rw [hW]; exact (Below.refl _ _).alloc (Nat.le_refl _) _
  have hX0 : SApp w.heap.size g (o + k * 5) (.slice A1 m1 c1) (.slice A2 m2 c2) (.slice (some ⟨g, o, none⟩) m3 c3) (.slice Ad dl cd) W W := by
    refine ⟨⟨?_, (hb0.cell (p := ⟨g, o + k * 5 + 1, none⟩) hg).trans e1⟩, Below.refl _ _⟩
    rw [hW]
    exact tsl.box3 (termt.heap_at _ _ _ rfl)
  have hzW : W.heap.size = w.heap.size + 1 := by rw [hW]; simp
  have HB0 := Lib.hid hb0
  have HX0 := Lib.hid hX0
  have HZ := Lib.hid hzW
  obtain ⟨j0, hij, hy0, hy1, hy2⟩ := info_parts info_int
  have hpp : p * p ≤ 49 := Nat.mul_le_mul h7 h7
  have hpp1 : 2 * 2 ≤ p * p := Nat.mul_le_mul h2 h2
  obtain ⟨pp, hppe⟩ : ∃ q, q = p * p := ⟨_, rfl⟩
  have HPP := Lib.hid hppe
  have hmul : (p : Int) * (p : Int) = (pp : Int) := by rw [hppe]; push_cast; rfl
  have hmw : IntKind.i64.wrap ((p : Int) * (p : Int)) = (pp : Int) := by rw [hmul, IntKind.wrap_i64]; omega
  have hpp3 : p ≤ p * p := Nat.le_mul_of_pos_left p (by omega)
  rw [← hppe] at hpp hpp1 hpp3
  obtain ⟨⟨z0, z1, z2⟩, z3⟩ := hX0.1
  clear h h' h1 hA hokS p1 p2 p3 p4 hlim hcl e1 hD hDN hAc hvr hdl hm1 hm2 hm3 hb0 hX0 hok hk hU hDD hp hzW hppe hmul har z3
  go_enter Tryz.func79, Tryz.ntmps79
  go_wp2_with fail
  rw [← hW]
  clear hW
  go_wp2_with (first
    | (go_at_call 77; refine (HUP.out W HB0.out).mono ?_; rintro e w1 ⟨uv1, rfl, hown, hb1⟩; obtain ⟨Au, cu, rfl, _⟩ := own_slice hown; have HU := Lib.hid (Has.of_own hown); have HB1 : Hid (Below W.heap.size W w1) := Lib.hid hb1; have HB1w : Hid (Below w.heap.size w w1) := Lib.hid (HB0.out.trans (HB1.out.mono HB0.out.size)); clear hown hb1 z0 z1 z2)
    | (at_make; refine wpList_make_full _ rfl _ _ 88 rfl w1.heap.size 3 j0 (.int .i64 0) 1 Tryz.underlying88 hij hy0 hy1 _ _ _ _ pp rfl rfl (by first | rfl | exact hmw | (simp; exact hmw)) (by first | rfl | exact hmw | (simp; exact hmw)) (by rw [hy2]; omega) (by unfold maxLen; omega) (Nat.le_refl _) ?_))
  intro w2 hown hgrow
  rw [zeros_ivs] at hown
  obtain ⟨gt, hgt⟩ : ∃ q, q = w1.heap.size := ⟨_, rfl⟩
  rw [← hgt] at hown ⊢
  have hb2 : Below gt w1 w2 := by rw [hgt]; exact (Below.refl w1.heap.size w1).grown hgrow (Nat.le_refl _) (by intro k hk; cases hk)
  have HB2 := Lib.hid hb2
  have HOWN := Lib.hid hown
  have HGT := Lib.hid hgt
  have hgt1 : w.heap.size + 1 ≤ gt := by rw [hgt]; have := HB1.out.size; rw [HZ.out] at this; exact this
  have HX1 := Lib.hid (HX0.out.of HB1.out)
  have hgg : g < gt := by rw [hgt]; exact block_lt_of_cell HX1.out.1.2
  have HSX : Hid (∀ wr, Below gt w1 wr → (wr.cell? ⟨w.heap.size, 0, none⟩ = some (.slice A1 m1 c1) ∧ wr.cell? ⟨w.heap.size, 1, none⟩ = some (.slice A2 m2 c2) ∧ wr.cell? ⟨w.heap.size, 2, none⟩ = some (.slice (some ⟨g, o, none⟩) m3 c3)) ∧ wr.cell? ⟨g, o + k * 5 + 1, none⟩ = some (.slice Ad dl cd)) := Lib.hid (fun wr hb => by
    have k1 : ∀ y, wr.cell? ⟨w.heap.size, y, none⟩ = w1.cell? ⟨w.heap.size, y, none⟩ := fun y => hb.cell (p := ⟨w.heap.size, y, none⟩) (by show w.heap.size < gt; omega)
    have k2 : ∀ y, wr.cell? ⟨g, y, none⟩ = w1.cell? ⟨g, y, none⟩ := fun y => hb.cell (p := ⟨g, y, none⟩) hgg
    rw [k1, k1, k1, k2]
    exact HX1.out.1)
  have HBW : Hid (∀ wr, Below gt w1 wr → Below w.heap.size w wr) := Lib.hid (fun wr hb => HB1w.out.trans (hb.mono (by omega)))
  have HUA : Hid (∀ wr, Below gt w1 wr → Has wr (.slice Au m1 cu) (ivs (nats U))) := Lib.hid (fun wr hb => HU.out.below (Nat.le_refl _) (HGT.out ▸ hb))
  clear hown hgrow hb2 hgt
  go_wp2
  go_loopw [10] (fun v10 wr => ∃ (s : Nat) (T : List Nat), v10 = .int .i64 s ∧ 1 ≤ s ∧ s ≤ p + 1 ∧ Hid (Tab U DD A p s 0 0 T) ∧ Hid (wr.ownsRow gt 3 1 (.slice (some ⟨gt, 0, none⟩) pp pp) pp (ivs (nats T))) ∧ Hid (Below gt w1 wr)) (fun v _ => p + 1 - (intOf v).toNat)
  case atStart => exact ⟨1, List.replicate pp 0, rfl, Nat.le_refl _, by omega, Lib.hid (by rw [HPP.out]; exact Tab.zero), HOWN, HB2⟩
  case round =>
    obtain ⟨s, T, rfl, hs1, hsp, HT, HO, HB⟩ := hrel
    by_cases hlt : s ≤ p
    · have d1 : decide ((s : Int) ≤ (p : Int)) = true := decide_eq_true (by omega)
      go_wp2
      go_loopw [11] (fun v11 wr => ∃ (i : Nat) (T : List Nat), v11 = .int .i64 i ∧ i + s ≤ p + 1 ∧ Hid (Tab U DD A p s i 0 T) ∧ Hid (wr.ownsRow gt 3 1 (.slice (some ⟨gt, 0, none⟩) pp pp) pp (ivs (nats T))) ∧ Hid (Below gt w1 wr)) (fun v _ => p + 1 - (intOf v).toNat)
      case atStart => exact ⟨0, T, rfl, by omega, HT, HO, HB⟩
      case round =>
        clear HT HO HB
        obtain ⟨i, T, rfl, his, HT, HO, HB⟩ := hrel
        obtain ⟨e, he⟩ : ∃ e, e = i + s := ⟨_, rfl⟩
        have hadd : IntKind.i64.wrap ((i : Int) + (s : Int)) = (e : Int) := by rw [IntKind.wrap_i64]; omega
        by_cases hle : e ≤ p
        · have d2 : decide ((e : Int) ≤ (p : Int)) = true := decide_eq_true (by omega)
          have hip0 : i * p + p ≤ p * p := by
            have := Nat.mul_le_mul_right p (show i + 1 ≤ p by omega)
            rw [Nat.add_mul, Nat.one_mul] at this; exact this
          rw [← HPP.out] at hip0
          obtain ⟨ip, hip⟩ : ∃ q, q = i * p := ⟨_, rfl⟩
          rw [← hip] at hip0
          have hmul1 : IntKind.i64.wrap ((i : Int) * (p : Int)) = (ip : Int) := by
            have : (i : Int) * (p : Int) = (ip : Int) := by rw [hip]; push_cast; rfl
            rw [this, IntKind.wrap_i64]; omega
          by_cases hs : s = 1
          · obtain ⟨ga, oa, rfl, hga, hca⟩ := (HAS.out.below (Nat.le_refl _) (HBW.out _ HB.out)).cellAt (j := i) (by omega)
            rw [natsC (by have := HP.out; omega)] at hca
            obtain ⟨x1, hx1⟩ : ∃ q, q = ip + i := ⟨_, rfl⟩
            have hadd1 : IntKind.i64.wrap ((ip : Int) + (i : Int)) = (x1 : Int) := by rw [IntKind.wrap_i64]; omega
            have hxp : x1 < pp := by omega
            obtain ⟨q1, q2⟩ := in_cell HO.out hxp
            obtain ⟨av, hav⟩ : ∃ q, q = A.getD i 0 := ⟨_, rfl⟩
            rw [← hav] at hca
            have HT2 : Hid (Tab U DD A p s (i + 1) 0 (T.set x1 av)) := Lib.hid (by
              have h9 := (HT.out.store hs1 (by omega) av).next hs1 (by
                rw [show i + s - 1 = i by omega, iv_one, HV1.out i (by omega), hav])
              rw [show i * p + (i + s - 1) = x1 by rw [hx1, hip, show i + s - 1 = i by omega]] at h9
              exact h9)
            have HO2 : Hid ((wr.setCell ⟨gt, x1, none⟩ (.int .i64 (av : Int))).ownsRow gt 3 1 (.slice (some ⟨gt, 0, none⟩) pp pp) pp (ivs (nats (T.set x1 av)))) := Lib.hid (by
              have h9 := setCell_own HO.out x1 (.int .i64 (av : Int))
              rw [ivs_set, nats_set] at h9
              exact h9)
            have HB3 := Lib.hid (HB.out.setCell (p := ⟨gt, x1, none⟩) (Nat.le_refl _) (.int .i64 (av : Int)))
            have j1 : (0 : Int) ≤ (i : Int) := by omega
            have j2 : (i : Int) < (p : Int) := by omega
            have j3 : (0 : Int) ≤ (x1 : Int) := by omega
            have j4 : (x1 : Int) < (pp : Int) := by omega
            subst hs
            clear hav hx1 hip
            go_wp2
            go_roundw
            case rel => exact ⟨i + 1, _, by go_num, by omega, HT2, HO2, HB3⟩
            case measure => simp [intOf]; omega
          · have d3 : ((s : Int) == 1) = false := by simp; omega
            have d4 : decide ((s : Int) = 1) = false := decide_eq_false (by omega)
            obtain ⟨j, hj⟩ : ∃ j, j = i + s - 1 := ⟨_, rfl⟩
            have hsub : IntKind.i64.wrap ((e : Int) - 1) = (j : Int) := by rw [IntKind.wrap_i64]; omega
            have HC0 : Hid (chainTo U DD A i j 0 = 0) := Lib.hid rfl
            have HJ := Lib.hid (And.intro hj (And.intro he hip))
            have hij' : i ≤ j := by omega
            have hjp : j < p := by omega
            have hisp : i + s ≤ p := by omega
            clear hj he hip
            go_wp2
            go_loopw [13] (fun v13 wr => ∃ (kx kk c : Nat) (T : List Nat), v13 = .int .i64 kx ∧ Hid (kx = i + kk) ∧ kx ≤ j ∧ Hid (c = chainTo U DD A i j kk) ∧ Hid (Tab U DD A p s i c T) ∧ Hid (wr.ownsRow gt 3 1 (.slice (some ⟨gt, 0, none⟩) pp pp) pp (ivs (nats T))) ∧ Hid (Below gt w1 wr)) (fun v _ => j - (intOf v).toNat)
            case atStart => exact ⟨i, 0, 0, T, rfl, Lib.hid rfl, hij', Lib.hid HC0.out.symm, HT, HO, HB⟩
            case round =>
              clear HT HO HB
              obtain ⟨kx, kk, c, T, rfl, HKX, hkj, HC, HT, HO, HB⟩ := hrel
              obtain ⟨hj, he, hip⟩ := HJ.out
              have hkx := HKX.out
              by_cases hkl : kx < j
              · obtain ⟨ky, hky⟩ : ∃ q, q = kx + 1 := ⟨_, rfl⟩
                have hk1 : IntKind.i64.wrap ((kx : Int) + 1) = (ky : Int) := by rw [IntKind.wrap_i64]; omega
                have hkp0 : ky * p + p ≤ p * p := by
                  have := Nat.mul_le_mul_right p (show ky + 1 ≤ p by omega)
                  rw [Nat.add_mul, Nat.one_mul] at this; exact this
                rw [← HPP.out] at hkp0
                obtain ⟨kp, hkp⟩ : ∃ q, q = ky * p := ⟨_, rfl⟩
                rw [← hkp] at hkp0
                have hmul2 : IntKind.i64.wrap ((ky : Int) * (p : Int)) = (kp : Int) := by
                  have : (ky : Int) * (p : Int) = (kp : Int) := by rw [hkp]; push_cast; rfl
                  rw [this, IntKind.wrap_i64]; omega
                obtain ⟨x1, hx1⟩ : ∃ q, q = ip + j := ⟨_, rfl⟩
                obtain ⟨x2, hx2⟩ : ∃ q, q = ip + kx := ⟨_, rfl⟩
                obtain ⟨x3, hx3⟩ : ∃ q, q = kp + j := ⟨_, rfl⟩
                have hadd1 : IntKind.i64.wrap ((ip : Int) + (j : Int)) = (x1 : Int) := by rw [IntKind.wrap_i64]; omega
                have hadd2 : IntKind.i64.wrap ((ip : Int) + (kx : Int)) = (x2 : Int) := by rw [IntKind.wrap_i64]; omega
                have hadd3 : IntKind.i64.wrap ((kp : Int) + (j : Int)) = (x3 : Int) := by rw [IntKind.wrap_i64]; omega
                obtain ⟨q1, f1⟩ := in_cell HO.out (show x1 < pp by omega)
                obtain ⟨q2, _⟩ := in_cell HO.out (show x2 < pp by omega)
                obtain ⟨q3, _⟩ := in_cell HO.out (show x3 < pp by omega)
                have hn12 : x1 ≠ x2 := by omega
                have hn13 : x1 ≠ x3 := fun e => by
                  have := idx_inj (p := p) (a := i) (b := j) (x := ky) (y := j) (by omega) (by omega) (by rw [← hip, ← hkp]; omega)
                  omega
                have e1 : T.getD x1 0 = c := by
                  have := HT.out.here hs1 (by omega)
                  rw [← hip, ← hj, ← hx1] at this
                  exact this
                have e2 : T.getD x2 0 = V false U DD A (iv i kx) := by
                  have := HT.out.read (a := i) (b := kx) (by omega) (by omega) (by omega)
                  rw [← hip, ← hx2] at this
                  exact this
                have e3 : T.getD x3 0 = V false U DD A (iv ky j) := by
                  have := HT.out.read (a := ky) (b := j) (by omega) (by omega) (by omega)
                  rw [← hkp, ← hx3] at this
                  exact this
                rw [e1] at q1
                rw [e2] at q2
                rw [e3] at q3
                have hc16 : c < 256 := by rw [HC.out]; exact Nat.lt_of_lt_of_le (HCH.out i j kk) hpn
                have hv2 := HVL.out (iv i kx)
                have hv3 := HVL.out (iv ky j)
                have HCN := Lib.hid (HCS.out i j kk)
                rw [← HC.out, ← hkx, ← hky] at HCN
                have hcn := HCH.out i j (kk + 1)
                obtain ⟨a2, ha2⟩ : ∃ q, q = V false U DD A (iv i kx) := ⟨_, rfl⟩
                obtain ⟨a3, ha3⟩ : ∃ q, q = V false U DD A (iv ky j) := ⟨_, rfl⟩
                rw [← ha2] at q2 hv2 HCN
                rw [← ha3] at q3 hv3 HCN
                have HGC := Lib.hid (fun W vu va hW hu h1 => HGV.out W vu a2 a3 (by omega) (by omega) va hW hu h1)
                have hul : upC U (giveR DD [a2, a3]) < 256 := by
                  have h9 : upC U (giveR DD [a2, a3]) ≤ chainTo U DD A i j (kk + 1) := by rw [HCN.out]; exact Nat.right_le_or
                  omega
                obtain ⟨gv, hgv⟩ : ∃ q, q = upC U (giveR DD [a2, a3]) := ⟨_, rfl⟩
                rw [← hgv] at HGC HCN hul
                have hor := or_i64 c gv (by omega) (by omega)
                obtain ⟨cn, hcne⟩ : ∃ q, q = c ||| gv := ⟨_, rfl⟩
                rw [← hcne] at hor HCN
                have HT2 : Hid (Tab U DD A p s i cn (T.set x1 cn)) := Lib.hid (by
                  have h9 := HT.out.store hs1 (by omega) cn
                  rw [← hip, ← hj, ← hx1] at h9
                  exact h9)
                have HS : Hid (SChn w.heap.size g (o + k * 5) gt x2 x3 (.slice A1 m1 c1) (.slice A2 m2 c2) (.slice (some ⟨g, o, none⟩) m3 c3) (.slice Ad dl cd) a2 a3 wr) := Lib.hid ⟨HSX.out wr HB.out, q2, q3⟩
                have HBR := Lib.hid (HBW.out wr HB.out)
                have HUR := Lib.hid (HUA.out wr HB.out)
                have hsr : gt < wr.heap.size := block_lt_of_cell q1
                have j1 : (0 : Int) ≤ (x1 : Int) := by omega
                have j2 : (x1 : Int) < (pp : Int) := by omega
                have j3 : (0 : Int) ≤ (x2 : Int) := by omega
                have j4 : (x2 : Int) < (pp : Int) := by omega
                have j5 : (0 : Int) ≤ (x3 : Int) := by omega
                have j6 : (x3 : Int) < (pp : Int) := by omega
                have hx3' : x3 ≤ 49 := by omega
                have d5 : decide ((kx : Int) < (j : Int)) = true := decide_eq_true (by omega)
                have hmid : ∀ ob, Below wr.heap.size wr (wr.alloc ob).drew := fun ob => ((Below.refl _ _).alloc (Nat.le_refl _) ob).drew
                have HMID := Lib.hid hmid
                have q1a : ∀ ob, (wr.alloc ob).drew.cell? ⟨gt, x1, none⟩ = some (.int .i64 (c : Int)) := fun ob => ((hmid ob).cell (p := ⟨gt, x1, none⟩) hsr).trans q1
                have hxgt : w.heap.size ≠ gt := by omega
                have hggt : g ≠ gt := by omega
                have hk32 : kx + 1 = ky := hky.symm
                have HK32 := Lib.hid hk32
                clear hk32 hkx hky hmid ha2 ha3 hgv hcne e1 e2 e3 hx1 hx2 hx3 hip hkp hkp0 hip0 hadd he hle hj hcn hv2 hv3 hul
                go_wp2_with fail
                refine wp_region_noPanic ?_
                refine wp_region_held_drew (S := (SChn w.heap.size g (o + k * 5) gt x2 x3 (.slice A1 m1 c1) (.slice A2 m2 c2) (.slice (some ⟨g, o, none⟩) m3 c3) (.slice Ad dl cd) a2 a3)) (by kernel_rfl) ?_ (fun hHd0 => ?_)
                · first | exact SChn.below HS.out (by first | exact (Below.refl _ _).drew | exact HMID.out _ | exact HB5.out) | exact HS5.out _
                refine wpAnyH_take (i := 0) (v := ?_) rfl (by kernel_rfl) (by kernel_rfl) (by kernel_rfl) (fun _ _ _ h => h) (Or.inl ⟨by rfl, ?_⟩) (by with_reducible assumption) ?_
                rotate_left
                · intro w hSw; (try dsimp only at hSw); go_simp <;> with_reducible rfl
                (try simp only [Act.put]); (try simp only [List.setIfInBounds_toArray]); (try simp only [List.set_cons_succ, List.set_cons_zero])
                refine wpAnyH_take (i := 1) (v := ?_) rfl (by kernel_rfl) (by kernel_rfl) (by kernel_rfl) (fun _ _ _ h => h) (Or.inl ⟨by rfl, ?_⟩) (by with_reducible assumption) ?_
                rotate_left
                · intro w hSw; (try dsimp only at hSw); go_simp <;> with_reducible rfl
                (try simp only [Act.put]); (try simp only [List.setIfInBounds_toArray]); (try simp only [List.set_cons_succ, List.set_cons_zero])
                refine wpAnyH_take (i := 2) (v := ?_) rfl (by kernel_rfl) (by kernel_rfl) (by kernel_rfl) (fun _ _ _ h => h) (Or.inl ⟨by rfl, ?_⟩) (by with_reducible assumption) ?_
                rotate_left
                · intro w hSw; (try dsimp only at hSw); go_simp <;> with_reducible rfl
                (try simp only [Act.put]); (try simp only [List.setIfInBounds_toArray]); (try simp only [List.set_cons_succ, List.set_cons_zero])
                refine wpAnyH_take (i := 3) (v := ?_) rfl (by kernel_rfl) (by kernel_rfl) (by kernel_rfl) (fun _ _ _ h => h) (Or.inl ⟨by rfl, ?_⟩) (by with_reducible assumption) ?_
                rotate_left
                · intro w hSw; (try dsimp only at hSw); go_simp <;> with_reducible rfl
                (try simp only [Act.put]); (try simp only [List.setIfInBounds_toArray]); (try simp only [List.set_cons_succ, List.set_cons_zero])
                refine wpAnyH_take (i := 4) (v := ?_) rfl (by kernel_rfl) (by kernel_rfl) (by kernel_rfl) (fun _ _ _ h => h) (Or.inl ⟨by rfl, ?_⟩) (by with_reducible assumption) ?_
                rotate_left
                · intro w hSw; (try dsimp only at hSw); go_simp <;> with_reducible rfl
                (try simp only [Act.put]); (try simp only [List.setIfInBounds_toArray]); (try simp only [List.set_cons_succ, List.set_cons_zero])
                refine wpAnyH_take (i := 5) (v := ?_) rfl (by kernel_rfl) (by kernel_rfl) (by kernel_rfl) (fun _ _ _ h => h) (Or.inl ⟨by rfl, ?_⟩) (by with_reducible assumption) ?_
                rotate_left
                · intro w hSw; (try dsimp only at hSw); go_simp <;> with_reducible rfl
                (try simp only [Act.put]); (try simp only [List.setIfInBounds_toArray]); (try simp only [List.set_cons_succ, List.set_cons_zero])
                refine wpAnyH_take (i := 6) (v := ?_) rfl (by kernel_rfl) (by kernel_rfl) (by kernel_rfl) (fun _ _ _ h => h) (Or.inl ⟨by rfl, ?_⟩) (by with_reducible assumption) ?_
                rotate_left
                · intro w hSw; (try dsimp only at hSw); go_simp <;> with_reducible rfl
                (try simp only [Act.put]); (try simp only [List.setIfInBounds_toArray]); (try simp only [List.set_cons_succ, List.set_cons_zero])
                refine wpAnyH_take (i := 7) (v := ?_) rfl (by kernel_rfl) (by kernel_rfl) (by kernel_rfl) (fun _ _ _ h => h) (Or.inl ⟨by rfl, ?_⟩) (by with_reducible assumption) ?_
                rotate_left
                · intro w hSw; (try dsimp only at hSw); go_simp <;> with_reducible rfl
                (try simp only [Act.put]); (try simp only [List.setIfInBounds_toArray]); (try simp only [List.set_cons_succ, List.set_cons_zero])
                refine wpAnyH_take (i := 8) (v := ?_) rfl (by kernel_rfl) (by kernel_rfl) (by kernel_rfl) (fun _ _ _ h => h) (Or.inl ⟨by rfl, ?_⟩) (by with_reducible assumption) ?_
                rotate_left
                · intro w hSw; (try dsimp only at hSw); go_simp <;> with_reducible rfl
                (try simp only [Act.put]); (try simp only [List.setIfInBounds_toArray]); (try simp only [List.set_cons_succ, List.set_cons_zero])
                refine wpAnyH_take (i := 9) (v := ?_) rfl (by kernel_rfl) (by kernel_rfl) (by kernel_rfl) (fun _ _ _ h => h) (Or.inl ⟨by rfl, ?_⟩) (by with_reducible assumption) ?_
                rotate_left
                · intro w hSw; (try dsimp only at hSw); go_simp <;> with_reducible rfl
                (try simp only [Act.put]); (try simp only [List.setIfInBounds_toArray]); (try simp only [List.set_cons_succ, List.set_cons_zero])
                refine wpAnyH_take (i := 10) (v := ?_) rfl (by kernel_rfl) (by kernel_rfl) (by kernel_rfl) (fun _ _ _ h => h) (Or.inl ⟨by rfl, ?_⟩) (by with_reducible assumption) ?_
                rotate_left
                · intro w hSw; (try dsimp only at hSw); go_simp <;> with_reducible rfl
                (try simp only [Act.put]); (try simp only [List.setIfInBounds_toArray]); (try simp only [List.set_cons_succ, List.set_cons_zero])
                refine wpAnyH_take (i := 11) (v := ?_) rfl (by kernel_rfl) (by kernel_rfl) (by kernel_rfl) (fun _ _ _ h => h) (Or.inl ⟨by rfl, ?_⟩) (by with_reducible assumption) ?_
                rotate_left
                · intro w hSw; (try dsimp only at hSw); go_simp <;> with_reducible rfl
                (try simp only [Act.put]); (try simp only [List.setIfInBounds_toArray]); (try simp only [List.set_cons_succ, List.set_cons_zero])
                refine wpAnyH_take (i := 12) (v := ?_) rfl (by kernel_rfl) (by kernel_rfl) (by kernel_rfl) (fun _ _ _ h => h) (Or.inl ⟨by rfl, ?_⟩) (by with_reducible assumption) ?_
                rotate_left
                · intro w hSw; (try dsimp only at hSw); go_simp <;> with_reducible rfl
                (try simp only [Act.put]); (try simp only [List.setIfInBounds_toArray]); (try simp only [List.set_cons_succ, List.set_cons_zero])
                refine wpAnyH_take (i := 14) (v := ?_) rfl (by kernel_rfl) (by kernel_rfl) (by kernel_rfl) (fun _ _ _ h => h) (Or.inl ⟨by rfl, ?_⟩) (by with_reducible assumption) ?_
                rotate_left
                · intro w hSw; (try dsimp only at hSw); go_simp <;> with_reducible rfl
                (try simp only [Act.put]); (try simp only [List.setIfInBounds_toArray]); (try simp only [List.set_cons_succ, List.set_cons_zero])
                refine wpAnyH_take (i := 15) (v := ?_) rfl (by kernel_rfl) (by kernel_rfl) (by kernel_rfl) (fun _ _ _ h => h) (Or.inl ⟨by rfl, ?_⟩) (by with_reducible assumption) ?_
                rotate_left
                · intro w hSw; (try dsimp only at hSw); go_simp <;> with_reducible rfl
                (try simp only [Act.put]); (try simp only [List.setIfInBounds_toArray]); (try simp only [List.set_cons_succ, List.set_cons_zero])
                refine wpAnyH_take (i := 16) (v := ?_) rfl (by kernel_rfl) (by kernel_rfl) (by kernel_rfl) (fun _ _ _ h => h) (Or.inl ⟨by rfl, ?_⟩) (by with_reducible assumption) ?_
                rotate_left
                · intro w hSw; (try dsimp only at hSw); go_simp <;> with_reducible rfl
                (try simp only [Act.put]); (try simp only [List.setIfInBounds_toArray]); (try simp only [List.set_cons_succ, List.set_cons_zero])
                refine wpAnyH_take (i := 17) (v := ?_) rfl (by kernel_rfl) (by kernel_rfl) (by kernel_rfl) (fun _ _ _ h => h) (Or.inl ⟨by rfl, ?_⟩) (by with_reducible assumption) ?_
                rotate_left
                · intro w hSw; (try dsimp only at hSw); go_simp <;> with_reducible rfl
                (try simp only [Act.put]); (try simp only [List.setIfInBounds_toArray]); (try simp only [List.set_cons_succ, List.set_cons_zero])
                refine wpAnyH_take (i := 18) (v := ?_) rfl (by kernel_rfl) (by kernel_rfl) (by kernel_rfl) (fun _ _ _ h => h) (Or.inl ⟨by rfl, ?_⟩) (by with_reducible assumption) ?_
                rotate_left
                · intro w hSw; (try dsimp only at hSw); go_simp <;> with_reducible rfl
                (try simp only [Act.put]); (try simp only [List.setIfInBounds_toArray]); (try simp only [List.set_cons_succ, List.set_cons_zero])
                refine wpAnyH_take (i := 19) (v := ?_) rfl (by kernel_rfl) (by kernel_rfl) (by kernel_rfl) (fun _ _ _ h => h) (Or.inl ⟨by rfl, ?_⟩) (by with_reducible assumption) ?_
                rotate_left
                · intro w hSw; (try dsimp only at hSw); go_simp <;> with_reducible rfl
                (try simp only [Act.put]); (try simp only [List.setIfInBounds_toArray]); (try simp only [List.set_cons_succ, List.set_cons_zero])
                refine wpAnyH_take (i := 20) (v := ?_) rfl (by kernel_rfl) (by kernel_rfl) (by kernel_rfl) (fun _ _ _ h => h) (Or.inl ⟨by rfl, ?_⟩) (by with_reducible assumption) ?_
                rotate_left
                · intro w hSw; (try dsimp only at hSw); go_simp <;> with_reducible rfl
                (try simp only [Act.put]); (try simp only [List.setIfInBounds_toArray]); (try simp only [List.set_cons_succ, List.set_cons_zero])
                refine wpAnyH_take (i := 21) (v := ?_) rfl (by kernel_rfl) (by kernel_rfl) (by kernel_rfl) (fun _ _ _ h => h) (Or.inl ⟨by rfl, ?_⟩) (by with_reducible assumption) ?_
                rotate_left
                · intro w hSw; (try dsimp only at hSw); go_simp <;> with_reducible rfl
                (try simp only [Act.put]); (try simp only [List.setIfInBounds_toArray]); (try simp only [List.set_cons_succ, List.set_cons_zero])
                refine wpAnyH_take (i := 22) (v := ?_) rfl (by kernel_rfl) (by kernel_rfl) (by kernel_rfl) (fun _ _ _ h => h) (Or.inl ⟨by rfl, ?_⟩) (by with_reducible assumption) ?_
                rotate_left
                · intro w hSw; (try dsimp only at hSw); go_simp <;> with_reducible rfl
                (try simp only [Act.put]); (try simp only [List.setIfInBounds_toArray]); (try simp only [List.set_cons_succ, List.set_cons_zero])
                refine wpAnyH_take (i := 23) (v := ?_) rfl (by kernel_rfl) (by kernel_rfl) (by kernel_rfl) (fun _ _ _ h => h) (Or.inl ⟨by rfl, ?_⟩) (by with_reducible assumption) ?_
                rotate_left
                · intro w hSw; (try dsimp only at hSw); go_simp <;> with_reducible rfl
                (try simp only [Act.put]); (try simp only [List.setIfInBounds_toArray]); (try simp only [List.set_cons_succ, List.set_cons_zero])
                refine wpAnyH_take (i := 24) (v := ?_) rfl (by kernel_rfl) (by kernel_rfl) (by kernel_rfl) (fun _ _ _ h => h) (Or.inl ⟨by rfl, ?_⟩) (by with_reducible assumption) ?_
                rotate_left
                · intro w hSw; (try dsimp only at hSw); go_simp <;> with_reducible rfl
                (try simp only [Act.put]); (try simp only [List.setIfInBounds_toArray]); (try simp only [List.set_cons_succ, List.set_cons_zero])
                refine wpAnyH_take (i := 25) (v := ?_) rfl (by kernel_rfl) (by kernel_rfl) (by kernel_rfl) (fun _ _ _ h => h) (Or.inl ⟨by rfl, ?_⟩) (by with_reducible assumption) ?_
                rotate_left
                · intro w hSw; (try dsimp only at hSw); go_simp <;> with_reducible rfl
                (try simp only [Act.put]); (try simp only [List.setIfInBounds_toArray]); (try simp only [List.set_cons_succ, List.set_cons_zero])
                refine wpAnyH_take (i := 26) (v := ?_) rfl (by kernel_rfl) (by kernel_rfl) (by kernel_rfl) (fun _ _ _ h => h) (Or.inl ⟨by rfl, ?_⟩) (by with_reducible assumption) ?_
                rotate_left
                · intro w hSw; (try dsimp only at hSw); go_simp <;> with_reducible rfl
                (try simp only [Act.put]); (try simp only [List.setIfInBounds_toArray]); (try simp only [List.set_cons_succ, List.set_cons_zero])
                refine wpAnyH_take (i := 27) (v := ?_) rfl (by kernel_rfl) (by kernel_rfl) (by kernel_rfl) (fun _ _ _ h => h) (Or.inl ⟨by rfl, ?_⟩) (by with_reducible assumption) ?_
                rotate_left
                · intro w hSw; (try dsimp only at hSw); go_simp <;> with_reducible rfl
                (try simp only [Act.put]); (try simp only [List.setIfInBounds_toArray]); (try simp only [List.set_cons_succ, List.set_cons_zero])
                refine wpAnyH_take (i := 28) (v := ?_) rfl (by kernel_rfl) (by kernel_rfl) (by kernel_rfl) (fun _ _ _ h => h) (Or.inl ⟨by rfl, ?_⟩) (by with_reducible assumption) ?_
                rotate_left
                · intro w hSw; (try dsimp only at hSw); go_simp <;> with_reducible rfl
                (try simp only [Act.put]); (try simp only [List.setIfInBounds_toArray]); (try simp only [List.set_cons_succ, List.set_cons_zero])
                refine wpAnyH_take (i := 29) (v := ?_) rfl (by kernel_rfl) (by kernel_rfl) (by kernel_rfl) (fun _ _ _ h => h) (Or.inl ⟨by rfl, ?_⟩) (by with_reducible assumption) ?_
                rotate_left
                · intro w hSw; (try dsimp only at hSw); go_simp <;> with_reducible rfl
                (try simp only [Act.put]); (try simp only [List.setIfInBounds_toArray]); (try simp only [List.set_cons_succ, List.set_cons_zero])
                refine wpAnyH_take (i := 30) (v := ?_) rfl (by kernel_rfl) (by kernel_rfl) (by kernel_rfl) (fun _ _ _ h => h) (Or.inl ⟨by rfl, ?_⟩) (by with_reducible assumption) ?_
                rotate_left
                · intro w hSw; (try dsimp only at hSw); go_simp <;> with_reducible rfl
                (try simp only [Act.put]); (try simp only [List.setIfInBounds_toArray]); (try simp only [List.set_cons_succ, List.set_cons_zero])
                refine wpAnyH_take (i := 31) (v := ?_) rfl (by kernel_rfl) (by kernel_rfl) (by kernel_rfl) (fun _ _ _ h => h) (Or.inl ⟨by rfl, ?_⟩) (by with_reducible assumption) ?_
                rotate_left
                · intro w hSw; (try dsimp only at hSw); go_simp <;> with_reducible rfl
                (try simp only [Act.put]); (try simp only [List.setIfInBounds_toArray]); (try simp only [List.set_cons_succ, List.set_cons_zero])
                refine wpAnyH_take (i := 32) (v := ?_) rfl (by kernel_rfl) (by kernel_rfl) (by kernel_rfl) (fun _ _ _ h => h) (Or.inl ⟨by rfl, ?_⟩) (by with_reducible assumption) ?_
                rotate_left
                · intro w hSw; (try dsimp only at hSw); go_simp <;> with_reducible rfl
                (try simp only [Act.put]); (try simp only [List.setIfInBounds_toArray]); (try simp only [List.set_cons_succ, List.set_cons_zero])
                refine wpAnyH_take (i := 33) (v := ?_) rfl (by kernel_rfl) (by kernel_rfl) (by kernel_rfl) (fun _ _ _ h => h) (Or.inl ⟨by rfl, ?_⟩) (by with_reducible assumption) ?_
                rotate_left
                · intro w hSw; (try dsimp only at hSw); go_simp <;> with_reducible rfl
                (try simp only [Act.put]); (try simp only [List.setIfInBounds_toArray]); (try simp only [List.set_cons_succ, List.set_cons_zero])
                refine wpAnyH_take (i := 34) (v := ?_) rfl (by kernel_rfl) (by kernel_rfl) (by kernel_rfl) (fun _ _ _ h => h) (Or.inl ⟨by rfl, ?_⟩) (by with_reducible assumption) ?_
                rotate_left
                · intro w hSw; (try dsimp only at hSw); go_simp <;> with_reducible rfl
                (try simp only [Act.put]); (try simp only [List.setIfInBounds_toArray]); (try simp only [List.set_cons_succ, List.set_cons_zero])
                refine wpAnyH_take (i := 35) (v := ?_) rfl (by kernel_rfl) (by kernel_rfl) (by kernel_rfl) (fun _ _ _ h => h) (Or.inl ⟨by rfl, ?_⟩) (by with_reducible assumption) ?_
                rotate_left
                · intro w hSw; (try dsimp only at hSw); go_simp <;> with_reducible rfl
                (try simp only [Act.put]); (try simp only [List.setIfInBounds_toArray]); (try simp only [List.set_cons_succ, List.set_cons_zero])
                refine wpAnyH_take (i := 36) (v := ?_) rfl (by kernel_rfl) (by kernel_rfl) (by kernel_rfl) (fun _ _ _ h => h) (Or.inl ⟨by rfl, ?_⟩) (by with_reducible assumption) ?_
                rotate_left
                · intro w hSw; (try dsimp only at hSw); go_simp <;> with_reducible rfl
                (try simp only [Act.put]); (try simp only [List.setIfInBounds_toArray]); (try simp only [List.set_cons_succ, List.set_cons_zero])
                refine wpAnyH_take (i := 37) (v := ?_) rfl (by kernel_rfl) (by kernel_rfl) (by kernel_rfl) (fun _ _ _ h => h) (Or.inl ⟨by rfl, ?_⟩) (by with_reducible assumption) ?_
                rotate_left
                · intro w hSw; (try dsimp only at hSw); go_simp <;> with_reducible rfl
                (try simp only [Act.put]); (try simp only [List.setIfInBounds_toArray]); (try simp only [List.set_cons_succ, List.set_cons_zero])
                refine wpAnyH_ready (rs := [13, 38]) (by kernel_rfl) (by simp) ?_
                refine AllReadyH.cons (o := _) rfl (fun K hK => ?_) ?_
                · go_simp
                  refine hK.out _ _ ?_ (fun hHd1 => ?_)
                  · (try dsimp only); first | exact SChn.below HS.out (by first | exact (Below.refl _ _).drew | exact HMID.out _ | exact HB5.out) | exact HS5.out _
                  clear hK K hHd0
                  (try simp only [Act.put]); (try simp only [List.setIfInBounds_toArray]); (try simp only [List.set_cons_succ, List.set_cons_zero])
                  refine wpAnyH_ready (rs := [38]) (by kernel_rfl) (by simp) ?_
                  refine AllReadyH.cons (o := _) rfl (fun K hK => ?_) ?_
                  · go_simp
                    refine hK.out _ _ ?_ (fun hHd2 => ?_)
                    · (try dsimp only); first | exact SChn.below HS.out (by first | exact (Below.refl _ _).drew | exact HMID.out _ | exact HB5.out) | exact HS5.out _
                    clear hK K hHd1
                    (try simp only [Act.put]); (try simp only [List.setIfInBounds_toArray]); (try simp only [List.set_cons_succ, List.set_cons_zero])
                    refine wpAnyH_ready (rs := [39]) (by kernel_rfl) (by simp) ?_
                    refine AllReadyH.cons (o := _) rfl (fun K hK => ?_) ?_
                    · (go_simp; refine (HGC.out _ _ _ (HBR.out.trans ((HMID.out _).mono HBR.out.size)) (HUR.out.below (Nat.le_refl _) (HMID.out _)) (i64_lit2 _ a2 a3)).mono ?_; rintro e w5 ⟨rfl, hb5⟩; have HB5 : Hid (Below wr.heap.size wr w5) := Lib.hid ((HMID.out (.cells #[.int .i64 (a2 : Int), .int .i64 (a3 : Int)] 3)).trans (hb5.mono (HMID.out _).size)); have q5 := (HB5.out.cell (p := ⟨gt, x1, none⟩) hsr).trans q1; have f5 := (HB5.out.frozen (p := ⟨gt, x1, none⟩) hsr).trans f1; have HS5 : Hid (∀ u, SChn w.heap.size g (o + k * 5) gt x2 x3 (.slice A1 m1 c1) (.slice A2 m2 c2) (.slice (some ⟨g, o, none⟩) m3 c3) (.slice Ad dl cd) a2 a3 (w5.setCell ⟨gt, x1, none⟩ u)) := Lib.hid (fun u => (SChn.below HS.out HB5.out).set hxgt hggt hn12 hn13 u); clear hb5; (try dsimp only))
                      refine hK.out _ _ ?_ (fun hHd3 => ?_)
                      · (try dsimp only); first | exact SChn.below HS.out (by first | exact (Below.refl _ _).drew | exact HMID.out _ | exact HB5.out) | exact HS5.out _
                      clear hK K hHd2
                      (try simp only [Act.put]); (try simp only [List.setIfInBounds_toArray]); (try simp only [List.set_cons_succ, List.set_cons_zero])
                      refine wpAnyH_take (i := 40) (v := ?_) rfl (by kernel_rfl) (by kernel_rfl) (by kernel_rfl) (fun _ _ _ h => h) (Or.inl ⟨by rfl, ?_⟩) (by with_reducible assumption) ?_
                      rotate_left
                      · intro w hSw; (try dsimp only at hSw); go_simp <;> with_reducible rfl
                      (try simp only [Act.put]); (try simp only [List.setIfInBounds_toArray]); (try simp only [List.set_cons_succ, List.set_cons_zero])
                      refine wpAnyH_take (i := 41) (v := ?_) rfl (by kernel_rfl) (by kernel_rfl) (by kernel_rfl) (fun _ _ _ h => h) (Or.inl ⟨by rfl, ?_⟩) (by with_reducible assumption) ?_
                      rotate_left
                      · intro w hSw; (try dsimp only at hSw); go_simp <;> with_reducible rfl
                      (try simp only [Act.put]); (try simp only [List.setIfInBounds_toArray]); (try simp only [List.set_cons_succ, List.set_cons_zero])
                      refine wpAnyH_ready (rs := [42]) (by kernel_rfl) (by simp) ?_
                      refine AllReadyH.cons (o := _) rfl (fun K hK => ?_) ?_
                      · go_simp
                        refine hK.out _ _ ?_ (fun hHd4 => ?_)
                        · (try dsimp only); first | exact SChn.below HS.out (by first | exact (Below.refl _ _).drew | exact HMID.out _ | exact HB5.out) | exact HS5.out _
                        clear hK K hHd3
                        (try simp only [Act.put]); (try simp only [List.setIfInBounds_toArray]); (try simp only [List.set_cons_succ, List.set_cons_zero])
                        refine wpAnyH_done (by kernel_rfl) ?_ _
                        refine NoPanic.normal ?_
                        have HO6 : Hid ((w5.setCell ⟨gt, x1, none⟩ (.int .i64 (cn : Int))).ownsRow gt 3 1 (.slice (some ⟨gt, 0, none⟩) pp pp) pp (ivs (nats (T.set x1 cn)))) := Lib.hid (by
                          have h9 := setCell_own (own_below HO.out HB5.out) x1 (.int .i64 (cn : Int))
                          rw [ivs_set, nats_set] at h9
                          exact h9)
                        have HB6 := Lib.hid ((HB.out.trans (HB5.out.mono (Nat.le_of_lt hsr))).setCell (p := ⟨gt, x1, none⟩) (Nat.le_refl _) (.int .i64 (cn : Int)))
                        clear q5 f5
                        go_wp2
                        go_roundw
                        case rel => exact ⟨ky, kk + 1, cn, _, by first | rfl | (rw [← HK32.out]; go_num), Lib.hid (by have := HKX.out; have := HK32.out; omega), by have := HK32.out; omega, Lib.hid HCN.out.symm, HT2, HO6, HB6⟩
                        case measure => have := HK32.out; simp [intOf]; omega
                      exact AllReadyH.nil
                    exact AllReadyH.nil
                  exact AllReadyH.nil
                refine AllReadyH.cons (o := _) rfl (fun K hK => ?_) ?_
                · go_simp
                  refine hK.out _ _ ?_ (fun hHd5 => ?_)
                  · (try dsimp only); first | exact SChn.below HS.out (by first | exact (Below.refl _ _).drew | exact HMID.out _ | exact HB5.out) | exact HS5.out _
                  clear hK K hHd0
                  (try simp only [Act.put]); (try simp only [List.setIfInBounds_toArray]); (try simp only [List.set_cons_succ, List.set_cons_zero])
                  refine wpAnyH_ready (rs := [13, 39]) (by kernel_rfl) (by simp) ?_
                  refine AllReadyH.cons (o := _) rfl (fun K hK => ?_) ?_
                  · go_simp
                    refine hK.out _ _ ?_ (fun hHd6 => ?_)
                    · (try dsimp only); first | exact SChn.below HS.out (by first | exact (Below.refl _ _).drew | exact HMID.out _ | exact HB5.out) | exact HS5.out _
                    clear hK K hHd5
                    (try simp only [Act.put]); (try simp only [List.setIfInBounds_toArray]); (try simp only [List.set_cons_succ, List.set_cons_zero])
                    refine wpAnyH_ready (rs := [39]) (by kernel_rfl) (by simp) ?_
                    refine AllReadyH.cons (o := _) rfl (fun K hK => ?_) ?_
                    · (go_simp; refine (HGC.out _ _ _ (HBR.out.trans ((HMID.out _).mono HBR.out.size)) (HUR.out.below (Nat.le_refl _) (HMID.out _)) (i64_lit2 _ a2 a3)).mono ?_; rintro e w5 ⟨rfl, hb5⟩; have HB5 : Hid (Below wr.heap.size wr w5) := Lib.hid ((HMID.out (.cells #[.int .i64 (a2 : Int), .int .i64 (a3 : Int)] 3)).trans (hb5.mono (HMID.out _).size)); have q5 := (HB5.out.cell (p := ⟨gt, x1, none⟩) hsr).trans q1; have f5 := (HB5.out.frozen (p := ⟨gt, x1, none⟩) hsr).trans f1; have HS5 : Hid (∀ u, SChn w.heap.size g (o + k * 5) gt x2 x3 (.slice A1 m1 c1) (.slice A2 m2 c2) (.slice (some ⟨g, o, none⟩) m3 c3) (.slice Ad dl cd) a2 a3 (w5.setCell ⟨gt, x1, none⟩ u)) := Lib.hid (fun u => (SChn.below HS.out HB5.out).set hxgt hggt hn12 hn13 u); clear hb5; (try dsimp only))
                      refine hK.out _ _ ?_ (fun hHd7 => ?_)
                      · (try dsimp only); first | exact SChn.below HS.out (by first | exact (Below.refl _ _).drew | exact HMID.out _ | exact HB5.out) | exact HS5.out _
                      clear hK K hHd6
                      (try simp only [Act.put]); (try simp only [List.setIfInBounds_toArray]); (try simp only [List.set_cons_succ, List.set_cons_zero])
                      refine wpAnyH_take (i := 40) (v := ?_) rfl (by kernel_rfl) (by kernel_rfl) (by kernel_rfl) (fun _ _ _ h => h) (Or.inl ⟨by rfl, ?_⟩) (by with_reducible assumption) ?_
                      rotate_left
                      · intro w hSw; (try dsimp only at hSw); go_simp <;> with_reducible rfl
                      (try simp only [Act.put]); (try simp only [List.setIfInBounds_toArray]); (try simp only [List.set_cons_succ, List.set_cons_zero])
                      refine wpAnyH_take (i := 41) (v := ?_) rfl (by kernel_rfl) (by kernel_rfl) (by kernel_rfl) (fun _ _ _ h => h) (Or.inl ⟨by rfl, ?_⟩) (by with_reducible assumption) ?_
                      rotate_left
                      · intro w hSw; (try dsimp only at hSw); go_simp <;> with_reducible rfl
                      (try simp only [Act.put]); (try simp only [List.setIfInBounds_toArray]); (try simp only [List.set_cons_succ, List.set_cons_zero])
                      refine wpAnyH_ready (rs := [42]) (by kernel_rfl) (by simp) ?_
                      refine AllReadyH.cons (o := _) rfl (fun K hK => ?_) ?_
                      · go_simp
                        refine hK.out _ _ ?_ (fun hHd8 => ?_)
                        · (try dsimp only); first | exact SChn.below HS.out (by first | exact (Below.refl _ _).drew | exact HMID.out _ | exact HB5.out) | exact HS5.out _
                        clear hK K hHd7
                        (try simp only [Act.put]); (try simp only [List.setIfInBounds_toArray]); (try simp only [List.set_cons_succ, List.set_cons_zero])
                        refine wpAnyH_done (by kernel_rfl) ?_ _
                        refine NoPanic.normal ?_
                        have HO6 : Hid ((w5.setCell ⟨gt, x1, none⟩ (.int .i64 (cn : Int))).ownsRow gt 3 1 (.slice (some ⟨gt, 0, none⟩) pp pp) pp (ivs (nats (T.set x1 cn)))) := Lib.hid (by
                          have h9 := setCell_own (own_below HO.out HB5.out) x1 (.int .i64 (cn : Int))
                          rw [ivs_set, nats_set] at h9
                          exact h9)
                        have HB6 := Lib.hid ((HB.out.trans (HB5.out.mono (Nat.le_of_lt hsr))).setCell (p := ⟨gt, x1, none⟩) (Nat.le_refl _) (.int .i64 (cn : Int)))
                        clear q5 f5
                        go_wp2
                        go_roundw
                        case rel => exact ⟨ky, kk + 1, cn, _, by first | rfl | (rw [← HK32.out]; go_num), Lib.hid (by have := HKX.out; have := HK32.out; omega), by have := HK32.out; omega, Lib.hid HCN.out.symm, HT2, HO6, HB6⟩
                        case measure => have := HK32.out; simp [intOf]; omega
                      exact AllReadyH.nil
                    exact AllReadyH.nil
                  refine AllReadyH.cons (o := _) rfl (fun K hK => ?_) ?_
                  · (go_simp; refine (HGC.out _ _ _ (HBR.out.trans ((HMID.out _).mono HBR.out.size)) (HUR.out.below (Nat.le_refl _) (HMID.out _)) (i64_lit2 _ a2 a3)).mono ?_; rintro e w5 ⟨rfl, hb5⟩; have HB5 : Hid (Below wr.heap.size wr w5) := Lib.hid ((HMID.out (.cells #[.int .i64 (a2 : Int), .int .i64 (a3 : Int)] 3)).trans (hb5.mono (HMID.out _).size)); have q5 := (HB5.out.cell (p := ⟨gt, x1, none⟩) hsr).trans q1; have f5 := (HB5.out.frozen (p := ⟨gt, x1, none⟩) hsr).trans f1; have HS5 : Hid (∀ u, SChn w.heap.size g (o + k * 5) gt x2 x3 (.slice A1 m1 c1) (.slice A2 m2 c2) (.slice (some ⟨g, o, none⟩) m3 c3) (.slice Ad dl cd) a2 a3 (w5.setCell ⟨gt, x1, none⟩ u)) := Lib.hid (fun u => (SChn.below HS.out HB5.out).set hxgt hggt hn12 hn13 u); clear hb5; (try dsimp only))
                    refine hK.out _ _ ?_ (fun hHd9 => ?_)
                    · (try dsimp only); first | exact SChn.below HS.out (by first | exact (Below.refl _ _).drew | exact HMID.out _ | exact HB5.out) | exact HS5.out _
                    clear hK K hHd5
                    (try simp only [Act.put]); (try simp only [List.setIfInBounds_toArray]); (try simp only [List.set_cons_succ, List.set_cons_zero])
                    refine wpAnyH_ready (rs := [13]) (by kernel_rfl) (by simp) ?_
                    refine AllReadyH.cons (o := _) rfl (fun K hK => ?_) ?_
                    · go_simp
                      refine hK.out _ _ ?_ (fun hHd10 => ?_)
                      · (try dsimp only); first | exact SChn.below HS.out (by first | exact (Below.refl _ _).drew | exact HMID.out _ | exact HB5.out) | exact HS5.out _
                      clear hK K hHd9
                      (try simp only [Act.put]); (try simp only [List.setIfInBounds_toArray]); (try simp only [List.set_cons_succ, List.set_cons_zero])
                      refine wpAnyH_take (i := 40) (v := ?_) rfl (by kernel_rfl) (by kernel_rfl) (by kernel_rfl) (fun _ _ _ h => h) (Or.inl ⟨by rfl, ?_⟩) (by with_reducible assumption) ?_
                      rotate_left
                      · intro w hSw; (try dsimp only at hSw); go_simp <;> with_reducible rfl
                      (try simp only [Act.put]); (try simp only [List.setIfInBounds_toArray]); (try simp only [List.set_cons_succ, List.set_cons_zero])
                      refine wpAnyH_take (i := 41) (v := ?_) rfl (by kernel_rfl) (by kernel_rfl) (by kernel_rfl) (fun _ _ _ h => h) (Or.inl ⟨by rfl, ?_⟩) (by with_reducible assumption) ?_
                      rotate_left
                      · intro w hSw; (try dsimp only at hSw); go_simp <;> with_reducible rfl
                      (try simp only [Act.put]); (try simp only [List.setIfInBounds_toArray]); (try simp only [List.set_cons_succ, List.set_cons_zero])
                      refine wpAnyH_ready (rs := [42]) (by kernel_rfl) (by simp) ?_
                      refine AllReadyH.cons (o := _) rfl (fun K hK => ?_) ?_
                      · go_simp
                        refine hK.out _ _ ?_ (fun hHd11 => ?_)
                        · (try dsimp only); first | exact SChn.below HS.out (by first | exact (Below.refl _ _).drew | exact HMID.out _ | exact HB5.out) | exact HS5.out _
                        clear hK K hHd10
                        (try simp only [Act.put]); (try simp only [List.setIfInBounds_toArray]); (try simp only [List.set_cons_succ, List.set_cons_zero])
                        refine wpAnyH_done (by kernel_rfl) ?_ _
                        refine NoPanic.normal ?_
                        have HO6 : Hid ((w5.setCell ⟨gt, x1, none⟩ (.int .i64 (cn : Int))).ownsRow gt 3 1 (.slice (some ⟨gt, 0, none⟩) pp pp) pp (ivs (nats (T.set x1 cn)))) := Lib.hid (by
                          have h9 := setCell_own (own_below HO.out HB5.out) x1 (.int .i64 (cn : Int))
                          rw [ivs_set, nats_set] at h9
                          exact h9)
                        have HB6 := Lib.hid ((HB.out.trans (HB5.out.mono (Nat.le_of_lt hsr))).setCell (p := ⟨gt, x1, none⟩) (Nat.le_refl _) (.int .i64 (cn : Int)))
                        clear q5 f5
                        go_wp2
                        go_roundw
                        case rel => exact ⟨ky, kk + 1, cn, _, by first | rfl | (rw [← HK32.out]; go_num), Lib.hid (by have := HKX.out; have := HK32.out; omega), by have := HK32.out; omega, Lib.hid HCN.out.symm, HT2, HO6, HB6⟩
                        case measure => have := HK32.out; simp [intOf]; omega
                      exact AllReadyH.nil
                    exact AllReadyH.nil
                  exact AllReadyH.nil
                exact AllReadyH.nil
              · obtain rfl : kx = j := by omega
                have HT2 : Hid (Tab U DD A p s (i + 1) 0 T) := Lib.hid (HT.out.next hs1 (by
                  rw [HC.out, show kk = kx - i by omega, HCA.out i kx (by omega) (by omega), hj]))
                clear hj he hip hkx
                go_wp2
                go_roundw
                case rel => exact ⟨i + 1, T, by go_num, by omega, HT2, HO, HB⟩
                case measure => simp [intOf]; omega
        · have d2 : decide ((e : Int) ≤ (p : Int)) = false := decide_eq_false (by omega)
          have HT2 : Hid (Tab U DD A p (s + 1) 0 0 T) := Lib.hid (HT.out.up (by omega))
          go_wp2
          go_roundw
          case rel => exact ⟨s + 1, T, by go_num, by omega, by omega, HT2, HO, HB⟩
          case measure => simp [intOf]; omega
    · obtain rfl : s = p + 1 := by omega
      have d1 : decide (((p + 1 : Nat) : Int) ≤ (p : Int)) = false := decide_eq_false (by omega)
      obtain ⟨x, hx⟩ : ∃ x, x = p - 1 := ⟨_, rfl⟩
      have hsb : IntKind.i64.wrap ((p : Int) - 1) = (x : Int) := by rw [IntKind.wrap_i64]; omega
      have HQ := Lib.hid (HTZ.out T 0 0 HT.out)
      rw [← hx] at HQ
      obtain ⟨q1, _⟩ := in_cell HO.out (show x < pp by omega)
      rw [HQ.out] at q1
      have j3 : (0 : Int) ≤ (x : Int) := by omega
      have j4 : (x : Int) < (pp : Int) := by omega
      have HBF := Lib.hid (HBW.out _ HB.out)
      clear hx
      go_wp2
      go_ret
      exact ⟨rfl, HBF.out⟩
end Go.Proofs.YtjejdcehlckfhaaGreat.tsq
