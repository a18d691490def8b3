/-
  THE GRAMMAR OF A SIGNATURE IN MEMORY, AND grammarOf.
-/
import Derived.Test.YtjejdcehlckfhaaGreatSigv
import Derived.Test.YtjejdcehlckfhaaGreatRowg
namespace Go.Proofs.YtjejdcehlckfhaaGreat.gram
open Go.ChangeShapes Go.WideShapes Go.ChangeAt Go.RowKit
open mem split strl join subs sortn setm sets sortm sortp sorti sortf rowl sigm sigs sigi sigj sigk sigq sigr sigv rowg

/-- an operator, its index, its shape -/
abbrev OpE := OpM × Nat × Shp
instance : Inhabited OpE := ⟨(default, 0, zsh)⟩
def encE (x : OpE) (vd : Value) : List Value := [.string (bstr x.1.name), vd, .bool x.1.ass, .bool x.1.com, .int .i64 x.1.unt, .int .i64 (x.2.1 : Int), .int .i64 (x.2.2.1 : Int), .int .u16 (x.2.2.2.1 : Int), .int .u16 (x.2.2.2.2.1 : Int), .int .u16 (x.2.2.2.2.2.1 : Int), .int .u16 (x.2.2.2.2.2.2 : Int)]
def RE : Reads OpE := fun lo w cs x => ∃ vd, cs = encE x vd ∧ HasD lo w vd x.1.decls ∧ x.1.name.length ≤ maxLen ∧ I64 x.1.unt
theorem RE_steady : Steady RE := ⟨fun ⟨va, e, h, r⟩ hk => ⟨va, e, h.kept RD_steady hk, r⟩, fun ⟨va, e, h, r⟩ hl => ⟨va, e, h.mono RD_steady hl, r⟩⟩
abbrev HasE (w : World) (v : Value) (L : List OpE) : Prop := HasR RE 11 0 w v L
theorem ope_at {w : World} {A : Option Addr} {n c : Nat} {L : List OpE} (h : HasE w (.slice A n c) L) {j : Nat} (hj : j < n) :
    ∃ g o A2 c2, A = some ⟨g, o, none⟩ ∧ g < w.heap.size ∧ (∀ i, i < 11 → w.cell? ⟨g, o + j * 11 + i, none⟩ = some ((encE (L.getD j default) (.slice A2 (L.getD j default).1.decls.length c2)).getD i undef)) ∧
      HasD 0 w (.slice A2 (L.getD j default).1.decls.length c2) (L.getD j default).1.decls ∧ (L.getD j default).1.name.length ≤ maxLen ∧ I64 (L.getD j default).1.unt := by
  obtain ⟨g, o, cs, e, _, hg, hc, vd, rfl, hh, h1, h2⟩ := h.get hj
  obtain ⟨A2, c2, rfl, hh'⟩ := HasR.shape hh rfl
  exact ⟨g, o, A2, c2, e, hg, hc, hh', h1, h2⟩
def opsE (O : List OpM) (S : List Shp) : List OpE := (List.range O.length).map fun i => (O.getD i default, i, S.getD i default)
theorem opsE_len (O : List OpM) (S : List Shp) : (opsE O S).length = O.length := by simp [opsE]
theorem opsE_at (O : List OpM) (S : List Shp) {j : Nat} (h : j < O.length) : (opsE O S).getD j default = (O.getD j default, j, S.getD j default) := by simp [opsE, List.getD, h]
/-- the grammar, as mathematics: the kinds of the sorts, the operators -/
structure GrM where
  U : List Nat
  E : List OpE
def grM (P : List (List UInt8)) (Q : List (Int × Int)) (O : List OpM) : GrM := if sigOk P Q O then ⟨kindsU P Q, opsE O (shps (κU (kindsU P Q)) O)⟩ else ⟨[], []⟩
/-- a grammar in memory -/
structure HasM (w : World) (mv sv : Value) (G : GrM) : Prop where
  m : MapU w mv G.U
  e : HasE w sv G.E
theorem HasM.below {w w' : World} {mv sv : Value} {G : GrM} (h : HasM w mv sv G) (hb : Below w.heap.size w w') : HasM w' mv sv G := ⟨h.m.below hb, HasR.below RE_steady h.e (Nat.le_refl _) hb⟩
theorem rows_snoc {α : Type} [Inhabited α] {k m : Nat} {L : List α} {xs cs : List Value} {P : List Value → α → Prop} (hl : xs.length = m * k) (hc : cs.length = k)
    (h : ∀ j, j < m → ∃ c, (∀ i, i < k → xs[j * k + i]? = some (c.getD i undef)) ∧ P c (L.getD j default)) (hP : P cs (L.getD m default)) :
    ∀ j, j < m + 1 → ∃ c, (∀ i, i < k → (xs ++ cs)[j * k + i]? = some (c.getD i undef)) ∧ P c (L.getD j default) := by
  intro j hj
  by_cases hjm : j < m
  · obtain ⟨c, h1, h2⟩ := h j hjm
    refine ⟨c, fun i hi => ?_, h2⟩
    have : j * k + i < m * k := by
      have : (j + 1) * k ≤ m * k := Nat.mul_le_mul_right _ hjm
      rw [Nat.add_mul, Nat.one_mul] at this
      omega
    rw [List.getElem?_append_left (by omega)]
    exact h1 i hi
  · obtain rfl : j = m := by omega
    refine ⟨cs, fun i hi => ?_, hP⟩
    rw [List.getElem?_append_right (by omega), hl, Nat.add_sub_cancel_left]
    simp [List.getD, List.getElem?_eq_getElem (show i < cs.length by omega)]
theorem encE_len (x : OpE) (vd : Value) : (encE x vd).length = 11 := rfl
theorem encE_one (x : OpE) (A : Option Addr) (n c : Nat) : ∀ v ∈ encE x (.slice A n c), v.oneCell' = true := by
  intro v hv
  simp only [encE, List.mem_cons, List.not_mem_nil, or_false] at hv
  rcases hv with rfl | rfl | rfl | rfl | rfl | rfl | rfl | rfl | rfl | rfl | rfl <;> rfl
theorem info_ope : (Tryz.prog.info? 102).map (fun i => (i.zero, i.size, i.bytes)) = some (some (.agg #[.string { data := #[] }, .slice none 0 0, .bool false, .bool false, .int .i64 0, .int .i64 0, .int .i64 0, .int .u16 0, .int .u16 0, .int .u16 0, .int .u16 0]), 11, 80) := by kernel_rfl
abbrev S11 (W : World) (x g o y : Nat) (u0 a0 a1 a2 a3 a4 b0 b1 b2 b3 b4 : Value) (w' : World) : Prop := (w'.cell? ⟨x, 2, none⟩ = some u0 ∧ w'.cell? ⟨g, o, none⟩ = some a0 ∧ w'.cell? ⟨g, o + 1, none⟩ = some a1 ∧ w'.cell? ⟨g, o + 2, none⟩ = some a2 ∧ w'.cell? ⟨g, o + 3, none⟩ = some a3 ∧ w'.cell? ⟨g, o + 4, none⟩ = some a4 ∧ w'.cell? ⟨y, 0, none⟩ = some b0 ∧ w'.cell? ⟨y, 1, none⟩ = some b1 ∧ w'.cell? ⟨y, 2, none⟩ = some b2 ∧ w'.cell? ⟨y, 3, none⟩ = some b3 ∧ w'.cell? ⟨y, 4, none⟩ = some b4) ∧ W.heap.size ≤ w'.heap.size
theorem S11.next {W : World} {x g o y : Nat} {u0 a0 a1 a2 a3 a4 b0 b1 b2 b3 b4 : Value} {w0 w1 : World} (h : S11 W x g o y u0 a0 a1 a2 a3 a4 b0 b1 b2 b3 b4 w0) (hx : x < W.heap.size) (hg : g < W.heap.size) (hy : y < W.heap.size) (hb : Below W.heap.size w0 w1) : S11 W x g o y u0 a0 a1 a2 a3 a4 b0 b1 b2 b3 b4 w1 := by
  have k : ∀ q z, q < W.heap.size → w1.cell? ⟨q, z, none⟩ = w0.cell? ⟨q, z, none⟩ := fun q z hq => hb.cell (p := ⟨q, z, none⟩) hq
  unfold S11
  rw [k x _ hx, k g _ hg, k g _ hg, k g _ hg, k g _ hg, k g _ hg, k y _ hy, k y _ hy, k y _ hy, k y _ hy, k y _ hy]
  exact ⟨h.1, Nat.le_trans h.2 hb.size⟩
theorem S11.grown {W : World} {x g o y : Nat} {u0 a0 a1 a2 a3 a4 b0 b1 b2 b3 b4 : Value} {w0 w1 : World} {r : Option Nat} (h : S11 W x g o y u0 a0 a1 a2 a3 a4 b0 b1 b2 b3 b4 w0) (hx : x < W.heap.size) (hg : g < W.heap.size) (hy : y < W.heap.size) (hgr : w0.grownBy w1 r) (hr : ∀ q, r = some q → q ≠ x ∧ q ≠ g ∧ q ≠ y) : S11 W x g o y u0 a0 a1 a2 a3 a4 b0 b1 b2 b3 b4 w1 := by
  have hz := h.2
  have k : ∀ q z, q < W.heap.size → (∀ p, r = some p → p ≠ q) → w1.cell? ⟨q, z, none⟩ = w0.cell? ⟨q, z, none⟩ := fun q z hq hn => hgr.cell_far ⟨q, z, none⟩ (by show q < _; omega) (fun e => hn q e.symm rfl)
  have kx := fun z => k x z hx (fun p hp => (hr p hp).1)
  have kg := fun z => k g z hg (fun p hp => (hr p hp).2.1)
  have ky := fun z => k y z hy (fun p hp => (hr p hp).2.2)
  unfold S11
  rw [kx, kg, kg, kg, kg, kg, ky, ky, ky, ky, ky]
  exact ⟨h.1, Nat.le_trans hz hgr.size⟩
theorem S11.ald {W : World} {x g o y : Nat} {u0 a0 a1 a2 a3 a4 b0 b1 b2 b3 b4 : Value} {w0 : World} (h : S11 W x g o y u0 a0 a1 a2 a3 a4 b0 b1 b2 b3 b4 w0.drew) (hx : x < W.heap.size) (hg : g < W.heap.size) (hy : y < W.heap.size) {ob : Obj} : S11 W x g o y u0 a0 a1 a2 a3 a4 b0 b1 b2 b3 b4 (w0.alloc ob).drew := h.next hx hg hy ((Below.refl _ w0.drew).alloc h.2 ob)
theorem cells11_at (w : World) (l : List Value) (t : TypeId) : ∀ (j : Nat) (x : Value), l[j]? = some x → (w.alloc (.cells l.toArray t)).cell? ((⟨w.heap.size, 0, none⟩ : Addr).add j) = some x := by
  intro j x hx
  rw [Addr.add_lit, Nat.zero_add]
  exact cell_of_row _ _ j _ _ _ (termt.heap_at _ _ _ rfl) |>.trans (by simpa using hx)
/-- what grammarOf leaves -/
def GramP (G : GrM) (w : World) (e : Ending) (w' : World) : Prop := ∃ mv A c, e = .returned (.agg #[mv, .slice A G.E.length c]) ∧ HasM w' mv (.slice A G.E.length c) G ∧ (mv = .map none ∨ ∃ b, mv = .map (some b)) ∧ Below w.heap.size w w'
theorem mapU_blk {w w' : World} {v : Value} {U : List Nat} (h : MapU w v U) (hb : ∀ (b : Nat) es c, w.heap[b]? = some (Obj.map es c) → w'.heap[b]? = w.heap[b]?) : MapU w' v U := by
  rcases h with ⟨rfl, rfl⟩ | ⟨b, n, D, rfl, ⟨es, c, h1, h2⟩, hF⟩
  · exact .inl ⟨rfl, rfl⟩
  · exact .inr ⟨b, n, D, rfl, ⟨es, c, (hb b es c h1).trans h1, h2⟩, hF⟩
def esN (O : List OpM) (S : List Shp) (n : Nat) : List OpE := (List.range n).map fun i => (O.getD i default, i, S.getD i default)
theorem esN_at (O : List OpM) (S : List Shp) {n j : Nat} (h : j < n) : (esN O S n).getD j default = (O.getD j default, j, S.getD j default) := by simp [esN, List.getD, h]
set_option maxRecDepth 50000 in
set_option maxHeartbeats 4000000 in
theorem grammarOf_any (P : List (List UInt8)) (Q : List (Int × Int)) (O : List OpM) (va vb vc : Value) (w : World) (h : HasG w va vb vc P Q O) :
    Calls Tryz.prog 84 #[.agg #[va, vb, vc]] w (GramP (grM P Q O) w) := by
  have HSS : Hid (∀ W, Below w.heap.size w W → Calls Tryz.prog 103 #[.agg #[va, vb, vc]] W fun e w' => ∃ mv A5 c5 n S U, e = .returned (.tuple #[mv, .slice A5 n c5]) ∧ HasT w' (.slice A5 n c5) S ∧ n ≤ O.length ∧ n ≤ 14 ∧ MapU w' mv U ∧ (mv = .map none ∨ ∃ b, mv = .map (some b)) ∧ grM P Q O = ⟨U, esN O S n⟩ ∧ Below W.heap.size W w') := Lib.hid (by
    intro W hW
    refine (sigShapes_any P Q O va vb vc (sigOk P Q O) rfl W (h.below (Nat.le_refl _) hW)).mono ?_
    rintro e w' ⟨mv, sv, rfl, h1, h2, h3⟩
    cases hok : sigOk P Q O with
    | false =>
      obtain ⟨rfl, rfl⟩ := h1 hok
      exact ⟨_, none, 0, 0, [], [], rfl, HasR.nil _ _ _ (by unfold maxLen; omega) _, Nat.zero_le _, by omega, .inl ⟨rfl, rfl⟩, .inl rfl, by rw [grM, hok]; rfl, h3⟩
    | true =>
      obtain ⟨hb, ⟨A5, c5, rfl⟩, hM, hT⟩ := h2 hok
      exact ⟨_, A5, c5, O.length, _, _, rfl, hT, Nat.le_refl _, (sigOk_parts hok).2.1, hM, .inr hb, by rw [grM, if_pos hok]; rfl, h3⟩)
  obtain ⟨A, ca, B, cb, C, cc, rfl, rfl, rfl, hl1, hl2, hl3, h'⟩ := h.shape
  obtain ⟨j0, hij, hy0, hy1, hy2⟩ := info_parts info_ope
  have HO := Lib.hid h'.o
  obtain ⟨G, hG⟩ : ∃ G, G = grM P Q O := ⟨_, rfl⟩
  rw [← hG] at HSS ⊢
  obtain ⟨n0, hn0⟩ : ∃ n, n = O.length := ⟨_, rfl⟩
  rw [← hn0] at HSS HO ⊢
  clear h h' hG hn0
  go_enter Tryz.func84, Tryz.ntmps84
  go_wp2_with fail
  refine (HSS.out _ (((Below.refl _ _).alloc (Nat.le_refl _) _).alloc (by simp) _)).mono ?_
  rintro e w1 ⟨mv, A5, c5, n, S, U, rfl, hT, hnO, hn14, hM, hmv, hGG, hb1⟩
  have HB1 : Hid (Below w.heap.size w w1) := Lib.hid ((((Below.refl _ _).alloc (Nat.le_refl _) _).alloc (by simp) _).trans (hb1.mono (by simp; omega)))
  have hz1 : w.heap.size + 1 + 1 ≤ w1.heap.size := by have := hb1.size; simp at this; omega
  have HSB : Hid (w1.cell? ⟨w.heap.size, 2, none⟩ = some (.slice C n0 cc)) := Lib.hid ((hb1.cell (p := ⟨w.heap.size, 2, none⟩) (by simp; omega)).trans (by simp))
  have HRB : Hid (w1.heap[w.heap.size + 1]? = some (.cells #[.map none, .slice none 0 0] 80 (0, 0))) := Lib.hid ((hb1.block _ (by simp)).trans (termt.heap_at _ _ _ (by simp)))
  have HT := Lib.hid hT
  have HM := Lib.hid hM
  have HMV := Lib.hid hmv
  have HGG := Lib.hid hGG
  obtain ⟨i0, hi0, hz0', hz1', hz2'⟩ := info_parts info_shape
  clear hb1 hT hM hmv hGG HSS
  go_wp2_with (at_make; refine wpList_make_own _ rfl _ _ 78 rfl w1.heap.size 102 j0 _ 11 Tryz.underlying78 hij hy0 hy1 _ _ _ n rfl rfl (by go_num) (by rw [hy2]; omega) (by unfold maxLen; omega) (Nat.le_refl _) ?_)
  intro w2 hown hgrow
  have hb2 : Below w1.heap.size w1 w2 := (Below.refl w1.heap.size w1).grown hgrow (Nat.le_refl _) (by intro k hk; cases hk)
  have HK0 : Hid (∃ xs, w2.ownsRow w1.heap.size 102 11 _ 0 xs ∧ ∀ j, j < 0 → ∃ cs, (∀ i, i < 11 → xs[j * 11 + i]? = some (cs.getD i undef)) ∧ RE 0 w cs ((esN O S n).getD j default)) := Lib.hid ⟨_, hown, fun j hj => by omega⟩
  have HB2 := Lib.hid hb2
  clear hgrow hown hb2
  go_wp2
  go_loopw [5, 18] (fun v5 v18 wr => ∃ (k : Nat) (Ar : Option Addr) (cr : Nat), v5 = .slice Ar k cr ∧ v18 = .int .i64 k ∧ k ≤ n ∧ Hid (∃ xs, wr.ownsRow w1.heap.size 102 11 (.slice Ar k cr) k xs ∧ ∀ j, j < k → ∃ cs, (∀ i, i < 11 → xs[j * 11 + i]? = some (cs.getD i undef)) ∧ RE 0 w cs ((esN O S n).getD j default)) ∧ Hid (Below w1.heap.size w1 wr)) (fun _ i _ => n - (intOf i).toNat)
  case atStart =>
    obtain ⟨xs, h1, h2⟩ := HK0.out
    obtain ⟨Ar, cr, e, _⟩ := own_slice h1
    exact ⟨0, Ar, cr, e, rfl, Nat.zero_le _, Lib.hid ⟨xs, e ▸ h1, h2⟩, HB2⟩
  case round =>
    obtain ⟨k, Ar, cr, rfl, rfl, hk, HK, HB⟩ := hrel
    have hzr := HB.out.size
    by_cases hlt : k < n
    · obtain ⟨gs, os, rfl, hgs, e0, e1, e2, e3, e4⟩ := shape_at HT.out hlt
      obtain ⟨⟨s0, s1, s2, s3, s4⟩, hs⟩ : ∃ s, s = S.getD k default := ⟨_, rfl⟩
      rw [← hs] at e0 e1 e2 e3 e4
      have c0 := (HB.out.cell (p := ⟨gs, os + k * 5, none⟩) hgs).trans e0
      have c1 := (HB.out.cell (p := ⟨gs, os + k * 5 + 1, none⟩) hgs).trans e1
      have c2 := (HB.out.cell (p := ⟨gs, os + k * 5 + 2, none⟩) hgs).trans e2
      have c3 := (HB.out.cell (p := ⟨gs, os + k * 5 + 3, none⟩) hgs).trans e3
      have c4 := (HB.out.cell (p := ⟨gs, os + k * 5 + 4, none⟩) hgs).trans e4
      simp only [] at c0 c1 c2 c3 c4
      obtain ⟨g, o, A2, cd, hA, _, hg, f0, f1, f2, f3, f4, hD, hnl, hu⟩ := op_at HO.out (j := k) (by omega)
      obtain ⟨u, hue⟩ : ∃ u, u = O.getD k default := ⟨_, rfl⟩
      rw [← hue] at f0 f1 f2 f3 f4 hD hnl hu
      have HEL : Hid ((esN O S n).getD k default = (u, k, (s0, s1, s2, s3, s4))) := Lib.hid (by rw [esN_at O S hlt, ← hue, ← hs])
      have HRE : Hid (RE 0 w (encE (u, k, (s0, s1, s2, s3, s4)) (.slice A2 u.decls.length cd)) ((esN O S n).getD k default)) := Lib.hid (by rw [HEL.out]; exact ⟨_, rfl, hD, hnl, hu⟩)
      subst hA
      have kw : ∀ y, wr.cell? ⟨g, y, none⟩ = w.cell? ⟨g, y, none⟩ := fun y => (HB.out.cell (p := ⟨g, y, none⟩) (by show g < _; omega)).trans (HB1.out.cell (p := ⟨g, y, none⟩) hg)
      have p0 := (kw (o + k * 5)).trans f0
      have p1 := (kw (o + k * 5 + 1)).trans f1
      have p2 := (kw (o + k * 5 + 2)).trans f2
      have p3 := (kw (o + k * 5 + 3)).trans f3
      have p4 := (kw (o + k * 5 + 4)).trans f4
      have q0 := (HB.out.cell (p := ⟨w.heap.size, 2, none⟩) (by show w.heap.size < _; omega)).trans HSB.out
      have hi1 : (0 : Int) ≤ (k : Int) := by omega
      have hi2 : (k : Int) < (n : Int) := by omega
      have hi3 : (k : Int) < (n0 : Int) := by omega
      have hgr : g < wr.heap.size := by omega
      have hxr : w.heap.size < wr.heap.size := by omega
      obtain ⟨dl, hdl⟩ : ∃ q, q = u.decls.length := ⟨_, rfl⟩
      rw [← hdl] at p1 HRE
      clear e0 e1 e2 e3 e4 f0 f1 f2 f3 f4 hD hnl hu hue hs kw HEL hdl
      obtain ⟨wo, hwo⟩ : ∃ wo, wo = wr := ⟨wr, rfl⟩
      subst hwo
      go_wp2_with fail
      have hbA : Below wo.heap.size wo (wo.alloc (.cells #[.int .i64 (s0 : Int), .int .u16 (s1 : Int), .int .u16 (s2 : Int), .int .u16 (s3 : Int), .int .u16 (s4 : Int)] 100)) := (Below.refl _ _).alloc (Nat.le_refl _) _
      have hzA : (wo.alloc (.cells #[.int .i64 (s0 : Int), .int .u16 (s1 : Int), .int .u16 (s2 : Int), .int .u16 (s3 : Int), .int .u16 (s4 : Int)] 100)).heap.size = wo.heap.size + 1 := by simp
      have hblk : (wo.alloc (.cells #[.int .i64 (s0 : Int), .int .u16 (s1 : Int), .int .u16 (s2 : Int), .int .u16 (s3 : Int), .int .u16 (s4 : Int)] 100)).heap[wo.heap.size]? = some (.cells #[.int .i64 (s0 : Int), .int .u16 (s1 : Int), .int .u16 (s2 : Int), .int .u16 (s3 : Int), .int .u16 (s4 : Int)] 100 (0, 0)) := termt.heap_at _ _ _ rfl
      generalize wo.alloc (.cells #[.int .i64 (s0 : Int), .int .u16 (s1 : Int), .int .u16 (s2 : Int), .int .u16 (s3 : Int), .int .u16 (s4 : Int)] 100) = W at hbA hzA hblk ⊢
      have kg : ∀ y, wo.cell? ⟨g, y, none⟩ = W.cell? ⟨g, y, none⟩ := fun y => (hbA.cell (p := ⟨g, y, none⟩) hgr).symm
      rw [kg] at p0 p1 p2 p3 p4
      rw [← hbA.cell (p := ⟨w.heap.size, 2, none⟩) hxr] at q0
      have b0 : W.cell? ⟨wo.heap.size, 0, none⟩ = some (.int .i64 (s0 : Int)) := cell_of_row W _ 0 _ _ _ hblk
      have b1 : W.cell? ⟨wo.heap.size, 1, none⟩ = some (.int .u16 (s1 : Int)) := cell_of_row W _ 1 _ _ _ hblk
      have b2 : W.cell? ⟨wo.heap.size, 2, none⟩ = some (.int .u16 (s2 : Int)) := cell_of_row W _ 2 _ _ _ hblk
      have b3 : W.cell? ⟨wo.heap.size, 3, none⟩ = some (.int .u16 (s3 : Int)) := cell_of_row W _ 3 _ _ _ hblk
      have b4 : W.cell? ⟨wo.heap.size, 4, none⟩ = some (.int .u16 (s4 : Int)) := cell_of_row W _ 4 _ _ _ hblk
      have hxW : w.heap.size < W.heap.size := by omega
      have hgW : g < W.heap.size := by omega
      have hyW : wo.heap.size < W.heap.size := by omega
      have HOWB : Hid (∀ q, (Value.slice Ar k cr).ownBlock = some q → w1.heap.size ≤ q ∧ q < wo.heap.size) := Lib.hid (fun q hq => by obtain ⟨xs, h1, h2⟩ := HK.out; exact own_blk h1 q hq)
      have hgw1 : g < w.heap.size := hg
      obtain ⟨xs, hox⟩ : ∃ xs, W.ownsRow w1.heap.size 102 11 (.slice Ar k cr) k xs ∧ ∀ j, j < k → ∃ cs, (∀ i, i < 11 → xs[j * 11 + i]? = some (cs.getD i undef)) ∧ RE 0 w cs ((esN O S n).getD j default) := by
        obtain ⟨xs, h1, h2⟩ := HK.out
        exact ⟨xs, own_below h1 hbA, h2⟩
      have HOX := Lib.hid hox
      have HBW : Hid (Below w1.heap.size w1 W) := Lib.hid (HB.out.trans (hbA.mono hzr))
      clear c0 c1 c2 c3 c4 kg hblk hox hbA
      refine wp_region_noPanic ?_
      refine wp_region_held_drew (S := (S11 W w.heap.size g (o + k * 5) wo.heap.size (.slice (some ⟨g, o, none⟩) n0 cc) (.string (bstr u.name)) (.slice A2 dl cd) (.bool u.ass) (.bool u.com) (.int .i64 u.unt) (.int .i64 (s0 : Int)) (.int .u16 (s1 : Int)) (.int .u16 (s2 : Int)) (.int .u16 (s3 : Int)) (.int .u16 (s4 : Int)))) (by kernel_rfl) ?_ (fun hHd0 => ?_)
      · exact ⟨⟨q0, p0, p1, p2, p3, p4, b0, b1, b2, b3, b4⟩, Nat.le_refl _⟩
      refine wpAnyH_take (i := 0) (v := ?_) rfl (by kernel_rfl) (by kernel_rfl) (by kernel_rfl) (fun _ _ _ h => h) (Or.inl ⟨by rfl, ?_⟩) (by with_reducible assumption) ?_
      rotate_left
      · intro w hSw; (try dsimp only at hSw); go_simp <;> with_reducible rfl
      (try simp only [Act.put]); (try simp only [List.setIfInBounds_toArray]); (try simp only [List.set_cons_succ, List.set_cons_zero])
      refine wpAnyH_take (i := 1) (v := ?_) rfl (by kernel_rfl) (by kernel_rfl) (by kernel_rfl) (fun _ _ _ h => h) (Or.inl ⟨by rfl, ?_⟩) (by with_reducible assumption) ?_
      rotate_left
      · intro w hSw; (try dsimp only at hSw); go_simp <;> with_reducible rfl
      (try simp only [Act.put]); (try simp only [List.setIfInBounds_toArray]); (try simp only [List.set_cons_succ, List.set_cons_zero])
      refine wpAnyH_take (i := 2) (v := ?_) rfl (by kernel_rfl) (by kernel_rfl) (by kernel_rfl) (fun _ _ _ h => h) (Or.inl ⟨by rfl, ?_⟩) (by with_reducible assumption) ?_
      rotate_left
      · intro w hSw; (try dsimp only at hSw); go_simp <;> with_reducible rfl
      (try simp only [Act.put]); (try simp only [List.setIfInBounds_toArray]); (try simp only [List.set_cons_succ, List.set_cons_zero])
      refine wpAnyH_take (i := 3) (v := ?_) rfl (by kernel_rfl) (by kernel_rfl) (by kernel_rfl) (fun _ _ _ h => h) (Or.inl ⟨by rfl, ?_⟩) (by with_reducible assumption) ?_
      rotate_left
      · intro w hSw; (try dsimp only at hSw); go_simp <;> with_reducible rfl
      (try simp only [Act.put]); (try simp only [List.setIfInBounds_toArray]); (try simp only [List.set_cons_succ, List.set_cons_zero])
      refine wpAnyH_take (i := 4) (v := ?_) rfl (by kernel_rfl) (by kernel_rfl) (by kernel_rfl) (fun _ _ _ h => h) (Or.inl ⟨by rfl, ?_⟩) (by with_reducible assumption) ?_
      rotate_left
      · intro w hSw; (try dsimp only at hSw); go_simp <;> with_reducible rfl
      (try simp only [Act.put]); (try simp only [List.setIfInBounds_toArray]); (try simp only [List.set_cons_succ, List.set_cons_zero])
      refine wpAnyH_take (i := 5) (v := ?_) rfl (by kernel_rfl) (by kernel_rfl) (by kernel_rfl) (fun _ _ _ h => h) (Or.inl ⟨by rfl, ?_⟩) (by with_reducible assumption) ?_
      rotate_left
      · intro w hSw; (try dsimp only at hSw); go_simp <;> with_reducible rfl
      (try simp only [Act.put]); (try simp only [List.setIfInBounds_toArray]); (try simp only [List.set_cons_succ, List.set_cons_zero])
      refine wpAnyH_take (i := 6) (v := ?_) rfl (by kernel_rfl) (by kernel_rfl) (by kernel_rfl) (fun _ _ _ h => h) (Or.inl ⟨by rfl, ?_⟩) (by with_reducible assumption) ?_
      rotate_left
      · intro w hSw; (try dsimp only at hSw); go_simp <;> with_reducible rfl
      (try simp only [Act.put]); (try simp only [List.setIfInBounds_toArray]); (try simp only [List.set_cons_succ, List.set_cons_zero])
      refine wpAnyH_take (i := 7) (v := ?_) rfl (by kernel_rfl) (by kernel_rfl) (by kernel_rfl) (fun _ _ _ h => h) (Or.inl ⟨by rfl, ?_⟩) (by with_reducible assumption) ?_
      rotate_left
      · intro w hSw; (try dsimp only at hSw); go_simp <;> with_reducible rfl
      (try simp only [Act.put]); (try simp only [List.setIfInBounds_toArray]); (try simp only [List.set_cons_succ, List.set_cons_zero])
      refine wpAnyH_take (i := 8) (v := ?_) rfl (by kernel_rfl) (by kernel_rfl) (by kernel_rfl) (fun _ _ _ h => h) (Or.inl ⟨by rfl, ?_⟩) (by with_reducible assumption) ?_
      rotate_left
      · intro w hSw; (try dsimp only at hSw); go_simp <;> with_reducible rfl
      (try simp only [Act.put]); (try simp only [List.setIfInBounds_toArray]); (try simp only [List.set_cons_succ, List.set_cons_zero])
      refine wpAnyH_ready (rs := [9]) (by kernel_rfl) (by simp) ?_
      refine AllReadyH.cons (o := _) rfl (fun K hK => ?_) ?_
      · go_simp
        refine hK.out _ _ ?_ (fun hHd1 => ?_)
        · (try dsimp only); first | (with_reducible assumption) | ((with_reducible refine S11.ald ?_ hxW hgW hyW); with_reducible assumption) | (exact ⟨⟨q0, p0, p1, p2, p3, p4, b0, b1, b2, b3, b4⟩, Nat.le_refl _⟩)
        clear hK K hHd0
        (try simp only [Act.put]); (try simp only [List.setIfInBounds_toArray]); (try simp only [List.set_cons_succ, List.set_cons_zero])
        refine wpAnyH_ready (rs := [10]) (by kernel_rfl) (by simp) ?_
        refine AllReadyH.cons (o := _) rfl (fun K hK => ?_) ?_
        · (refine step_append_any (by rfl) _ _ _ (by rfl) w1.heap.size 102 j0 _ 11 80 Tryz.underlying78 hij hy0 hy1 hy2 rfl (by omega) (.slice Ar k cr) k xs (by rfl) (own_below HOX.out.1 ((Below.refl _ _).alloc (Nat.le_refl _) _).drew) ⟨wo.heap.size + 1, 0, none⟩ 1 1 (encE (u, k, (s0, s1, s2, s3, s4)) (.slice A2 dl cd)) (by rfl) (by omega) (by rfl) (fun q x hq => by have h1 := cells11_at W (encE (u, k, (s0, s1, s2, s3, s4)) (.slice A2 dl cd)) 102 q x hq; rw [hzA] at h1; exact h1) (encE_one _ _ _ _) (by unfold maxLen; omega) (by omega) (by have := HBW.out.size; simp; omega) ?_; intro g4 cap4 w5 hown5 hgr5 hg5 hlt5; have HB5 : Hid (Below w1.heap.size w1 w5) := Lib.hid (((HBW.out.alloc HBW.out.size _).drew).grown hgr5 (by have := HBW.out.size; simp; omega) (fun q hq => (own_blk HOX.out.1 q hq).1)); have hS5 := S11.grown (by with_reducible assumption) hxW hgW hyW hgr5 (fun q hq => by have h1 := HOWB.out q hq; omega))
          refine hK.out _ _ ?_ (fun hHd2 => ?_)
          · (try dsimp only); first | (with_reducible assumption) | ((with_reducible refine S11.ald ?_ hxW hgW hyW); with_reducible assumption) | (exact ⟨⟨q0, p0, p1, p2, p3, p4, b0, b1, b2, b3, b4⟩, Nat.le_refl _⟩)
          clear hK K hHd1
          (try simp only [Act.put]); (try simp only [List.setIfInBounds_toArray]); (try simp only [List.set_cons_succ, List.set_cons_zero])
          refine wpAnyH_take (i := 11) (v := ?_) rfl (by kernel_rfl) (by kernel_rfl) (by kernel_rfl) (fun _ _ _ h => h) (Or.inl ⟨by rfl, ?_⟩) (by with_reducible assumption) ?_
          rotate_left
          · intro w hSw; (try dsimp only at hSw); go_simp <;> with_reducible rfl
          (try simp only [Act.put]); (try simp only [List.setIfInBounds_toArray]); (try simp only [List.set_cons_succ, List.set_cons_zero])
          refine wpAnyH_done (by kernel_rfl) ?_ _
          refine NoPanic.normal ?_
          have HK5 : Hid (∃ xs, w5.ownsRow w1.heap.size 102 11 (.slice (some ⟨g4, 0, none⟩) (k + 1) cap4) (k + 1) xs ∧ ∀ j, j < k + 1 → ∃ cs, (∀ i, i < 11 → xs[j * 11 + i]? = some (cs.getD i undef)) ∧ RE 0 w cs ((esN O S n).getD j default)) := Lib.hid ⟨_, hown5, rows_snoc (k := 11) HOX.out.1.1 rfl HOX.out.2 HRE.out⟩
          clear hown5 hgr5 hg5
          go_wp2
          go_roundw
          case rel => exact ⟨k + 1, _, cap4, rfl, by go_num, by omega, HK5, HB5⟩
          case measure => simp [intOf]; omega
        exact AllReadyH.nil
      exact AllReadyH.nil
    · obtain rfl : k = n := by omega
      obtain ⟨xs, h1, h2⟩ := HK.out
      have r0 : wr.heap[w.heap.size + 1]? = some (.cells #[.map none, .slice none 0 0] 80 (0, 0)) := (HB.out.block _ (by omega)).trans HRB.out
      have HR : Hid (∀ u0 u1, GramP G w (.returned (.agg #[mv, .slice Ar k cr])) ((wr.setCell ⟨w.heap.size + 1, 0, none⟩ u0).setCell ⟨w.heap.size + 1, 1, none⟩ u1)) := Lib.hid (by
        intro u0 u1
        have hbf : Below w.heap.size w ((wr.setCell ⟨w.heap.size + 1, 0, none⟩ u0).setCell ⟨w.heap.size + 1, 1, none⟩ u1) := ((HB1.out.trans (HB.out.mono (by omega))).setCell (by show w.heap.size ≤ w.heap.size + 1; omega) _).setCell (by show w.heap.size ≤ w.heap.size + 1; omega) _
        have hblk : ∀ q, q ≠ w.heap.size + 1 → ((wr.setCell ⟨w.heap.size + 1, 0, none⟩ u0).setCell ⟨w.heap.size + 1, 1, none⟩ u1).heap[q]? = wr.heap[q]? := fun q hq => (Below.heap_setCell _ ⟨w.heap.size + 1, 1, none⟩ _ q hq).trans (Below.heap_setCell _ ⟨w.heap.size + 1, 0, none⟩ _ q hq)
        have hE : HasE ((wr.setCell ⟨w.heap.size + 1, 0, none⟩ u0).setCell ⟨w.heap.size + 1, 1, none⟩ u1) (.slice Ar k cr) (esN O S k) := by
          have h1' := own_kept (w' := (wr.setCell ⟨w.heap.size + 1, 0, none⟩ u0).setCell ⟨w.heap.size + 1, 1, none⟩ u1) h1 (fun q hq => hblk q (by have := (own_blk h1 q hq).1; omega))
          have ho0 : ((wr.setCell ⟨w.heap.size + 1, 0, none⟩ u0).setCell ⟨w.heap.size + 1, 1, none⟩ u1).ownsRow 0 102 11 (.slice Ar k cr) k xs := by
            refine ⟨h1'.1, ?_⟩
            rcases h1'.2 with h3 | ⟨g', cap', cur, hv, hg, r⟩
            · exact .inl h3
            · exact .inr ⟨g', cap', cur, hv, Nat.zero_le _, r⟩
          refine HasR.of_own ho0 (by simp [esN]) (fun j hj => ?_)
          obtain ⟨cs, h3, h4⟩ := h2 j hj
          exact ⟨cs, h3, RE_steady.1 h4 (Kept.below hbf (Nat.le_refl _))⟩
        have hM : MapU ((wr.setCell ⟨w.heap.size + 1, 0, none⟩ u0).setCell ⟨w.heap.size + 1, 1, none⟩ u1) mv U := mapU_blk (HM.out.below HB.out) (fun q es c hq => hblk q (fun e => by rw [e, r0] at hq; cases hq))
        have hl : (esN O S k).length = k := by simp [esN]
        rw [HGG.out]
        exact ⟨mv, Ar, cr, by rw [hl], ⟨hM, by rw [hl]; exact hE⟩, HMV.out, hbf⟩)
      have c0 : wr.cell? ⟨w.heap.size + 1, 0, none⟩ = some (.map none) := cell_of_row wr _ 0 _ _ _ r0
      have c1 : wr.cell? ⟨w.heap.size + 1, 1, none⟩ = some (.slice none 0 0) := cell_of_row wr _ 1 _ _ _ r0
      have f0 := frozen_of_row wr _ 0 _ _ r0
      have f1 := frozen_of_row wr _ 1 _ _ r0
      have hlt2 : w.heap.size + 1 < wr.heap.size := by omega
      have hmv := HMV.out
      clear h1 h2 r0
      rcases hmv with rfl | ⟨b, rfl⟩
      · go_wp2
        refine bodyPost_ret (v := .agg #[.map none, .slice Ar k cr]) (by simp [results, Tryz.results84, go_sem, c0, c1]) rfl ?_
        exact HR.out _ _
      · go_wp2
        refine bodyPost_ret (v := .agg #[.map (some b), .slice Ar k cr]) (by simp [results, Tryz.results84, go_sem, c0, c1]) rfl ?_
        exact HR.out _ _
end Go.Proofs.YtjejdcehlckfhaaGreat.gram
