/-
  THE WALK OF FnTermOrder.
-/
import Derived.Test.YtkkmjaggebjcbaaDrawh
import Derived.Test.YtkkmjaggebjcbaaTermst
import Derived.Test.YtkkmjaggebjcbaaTermsi
namespace Go.Proofs.Ytkkmjaggebjcbaa.fnTermOrder
open Go.ChangeShapes Go.WideShapes Go.ChangeAt Go.RowKit
open mem rowl trm trmv terml termb termt termu termv termvo termx termst termsi rowg draw drawm drawt drawv drawc drawh

abbrev aggV (t : TermM) (A : Option Addr) (c : Nat) : Value := .agg #[.int .i64 t.op, .string (bstr t.name), .int .i64 t.sort, .slice A t.args.length c]
abbrev BxT (w : World) (x : Nat) (t : TermM) (A : Option Addr) (c : Nat) : Prop := Bx w x (.int .i64 t.op) (.string (bstr t.name)) (.int .i64 t.sort) (.slice A t.args.length c)
/-- what the walk needs of four terms in a row -/
theorem lit4 {N : Nat} (w : World) (p0 p1 p2 p3 : TermM × Value) (h : ∀ p ∈ [p0, p1, p2, p3], El N 0 w p) :
    HasTs (N + 1) 0 (w.alloc (.cells #[.int .i64 p0.1.op, .string (bstr p0.1.name), .int .i64 p0.1.sort, p0.2, .int .i64 p1.1.op, .string (bstr p1.1.name), .int .i64 p1.1.sort, p1.2, .int .i64 p2.1.op, .string (bstr p2.1.name), .int .i64 p2.1.sort, p2.2, .int .i64 p3.1.op, .string (bstr p3.1.name), .int .i64 p3.1.sort, p3.2] 26)) (.slice (some ⟨w.heap.size, 0, none⟩) 4 4) [p0.1, p1.1, p2.1, p3.1] :=
  fourP_has (es := [p0, p1, p2, p3]) rfl h ((Below.refl w.heap.size w).alloc (Nat.le_refl _) _) (World.ownsRow_lit (e := 26) (size := 4) w #[.int .i64 p0.1.op, .string (bstr p0.1.name), .int .i64 p0.1.sort, p0.2, .int .i64 p1.1.op, .string (bstr p1.1.name), .int .i64 p1.1.sort, p1.2, .int .i64 p2.1.op, .string (bstr p2.1.name), .int .i64 p2.1.sort, p2.2, .int .i64 p3.1.op, .string (bstr p3.1.name), .int .i64 p3.1.sort, p3.2] 4 (Nat.le_refl _) (by unfold maxLen; omega) rfl)
set_option maxHeartbeats 8000000 in
set_option maxRecDepth 100000 in
theorem go {n cap : Nat} {A : Option Addr} (w : World) (hn : n ≤ 9223372036854775807) (hcode : n ≤ 1048576 → draw.Code w.heap.size w (.slice A n cap) n) :
    Calls Try.prog 3 #[.slice A n cap] w fun e w' => e = .returned (.bool true) ∧ Below w.heap.size w w' := by
  by_cases hbig : 1048576 < n
  · have hd : decide (1048576 < n) = true := decide_eq_true hbig
    have HBG := Lib.hid (fun W => big_any (A := A) (cap := cap) hn W)
    rw [hd] at HBG
    clear hd hcode hbig
    go_enter Try.func3, Try.ntmps3
    go_wp2_with fail
    refine (HBG.out _).mono ?_
    rintro e w' ⟨rfl, rfl⟩
    go_wp2
    go_ret
    exact ⟨rfl, Below.refl _ _⟩
  have hd : decide (1048576 < n) = false := decide_eq_false hbig
  have HBG := Lib.hid (fun W => big_any (A := A) (cap := cap) hn W)
  rw [hd] at HBG
  have HCO := Lib.hid (hcode (by omega))
  have HTA := Lib.hid (fun W => tail_any HCO.out W)
  have HDR := Lib.hid (fun v' n' (hc : draw.Code w.heap.size w v' n') W (hW : Below w.heap.size w W) => cmpDraw_any hc W hW)
  clear hd hcode hbig hn
  go_enter Try.func3, Try.ntmps3
  go_wp2_with fail
  refine (HBG.out _).mono ?_
  rintro e w' ⟨rfl, rfl⟩
  go_wp2_with fail
  refine (HDR.out _ _ HCO.out w (Below.refl _ _)).mono ?_
  rintro e w1 ⟨a, b, va, vb, rfl, hha, hhb, hra, hrb, hb1⟩
  obtain ⟨Aa, ca, rfl, _⟩ := HasR.shape hha rfl
  obtain ⟨Ab, cb, rfl, _⟩ := HasR.shape hhb rfl
  have HB1 := Lib.hid hb1
  have HAB := Lib.hid (And.intro (And.intro hha hra) (And.intro hhb hrb))
  clear hha hhb hra hrb hb1
  go_wp2_with fail
  refine (HTA.out _).mono ?_
  rintro e w' ⟨v', n', rfl, hc', rfl⟩
  have HC' := Lib.hid hc'
  clear hc'
  have hb2 : Below w1.heap.size w1 ((w1.alloc (.cells #[.int .i64 a.op, .string (bstr a.name), .int .i64 a.sort, .slice Aa a.args.length ca] 26)).alloc (.cells #[.int .i64 b.op, .string (bstr b.name), .int .i64 b.sort, .slice Ab b.args.length cb] 26)) := ((Below.refl _ _).alloc (Nat.le_refl _) _).alloc (by simp) _
  have HX2 : Hid (BxT ((w1.alloc (.cells #[.int .i64 a.op, .string (bstr a.name), .int .i64 a.sort, .slice Aa a.args.length ca] 26)).alloc (.cells #[.int .i64 b.op, .string (bstr b.name), .int .i64 b.sort, .slice Ab b.args.length cb] 26)) w1.heap.size a Aa ca ∧ BxT ((w1.alloc (.cells #[.int .i64 a.op, .string (bstr a.name), .int .i64 a.sort, .slice Aa a.args.length ca] 26)).alloc (.cells #[.int .i64 b.op, .string (bstr b.name), .int .i64 b.sort, .slice Ab b.args.length cb] 26)) (w1.heap.size + 1) b Ab cb) := Lib.hid
    ⟨Bx.below (w := w1.alloc (.cells #[.int .i64 a.op, .string (bstr a.name), .int .i64 a.sort, .slice Aa a.args.length ca] 26)) (heap_at _ _ _ rfl) ((Below.refl _ _).alloc (Nat.le_refl _) _), heap_at _ _ _ (by simp)⟩
  have HB2 : Hid (Below w.heap.size w ((w1.alloc (.cells #[.int .i64 a.op, .string (bstr a.name), .int .i64 a.sort, .slice Aa a.args.length ca] 26)).alloc (.cells #[.int .i64 b.op, .string (bstr b.name), .int .i64 b.sort, .slice Ab b.args.length cb] 26))) := Lib.hid (HB1.out.trans (hb2.mono HB1.out.size))
  have hz2 := hb2.size
  have HB12 := Lib.hid hb2
  clear hb2
  go_wp2_with fail
  generalize (w1.alloc (.cells #[.int .i64 a.op, .string (bstr a.name), .int .i64 a.sort, .slice Aa a.args.length ca] 26)).alloc (.cells #[.int .i64 b.op, .string (bstr b.name), .int .i64 b.sort, .slice Ab b.args.length cb] 26) = W2 at HX2 HB2 hz2 HB12 ⊢
  refine (HDR.out _ _ HC'.out W2 HB2.out).mono ?_
  rintro e w3 ⟨c, d, vc, vd, rfl, hhc, hhd, hrc, hrd, hb3⟩
  obtain ⟨Ac, cc, rfl, _⟩ := HasR.shape hhc rfl
  obtain ⟨Ad, cd, rfl, _⟩ := HasR.shape hhd rfl
  have HX3 : Hid (BxT w3 w1.heap.size a Aa ca ∧ BxT w3 (w1.heap.size + 1) b Ab cb) := Lib.hid ⟨HX2.out.1.below hb3, HX2.out.2.below hb3⟩
  have HB3 : Hid (Below w.heap.size w w3) := Lib.hid (HB2.out.trans (hb3.mono HB2.out.size))
  have HB13 : Hid (Below w1.heap.size w1 w3) := Lib.hid (HB12.out.trans (hb3.mono hz2))
  have HCD := Lib.hid (And.intro hhc hrc)
  clear hhc hhd hrc hrd hb3 HX2 HB2 HB12 HC' HDR HTA HCO HBG
  obtain ⟨⟨a0, a1, a2, a3⟩, _⟩ := HX3.out.1.cells
  obtain ⟨⟨b0, b1, b2, b3⟩, _⟩ := HX3.out.2.cells
  have la := HX3.out.1.lt
  have lb := HX3.out.2.lt
  -- the order of each two
  have HEL : Hid (∀ W, Below w3.heap.size w3 W → El 3 0 W (a, .slice Aa a.args.length ca) ∧ El 3 0 W (b, .slice Ab b.args.length cb) ∧ El 3 0 W (c, .slice Ac c.args.length cc)) := Lib.hid (fun W hW =>
    ⟨⟨HasR.mono (RT_steady 3) (HAB.out.1.1.below (Nat.le_refl _) (HB13.out.trans (hW.mono HB13.out.size))) (Nat.zero_le _), HAB.out.1.2.1⟩, ⟨HasR.mono (RT_steady 3) (HAB.out.2.1.below (Nat.le_refl _) (HB13.out.trans (hW.mono HB13.out.size))) (Nat.zero_le _), HAB.out.2.2.1⟩, ⟨HasR.mono (RT_steady 3) (HCD.out.1.below (Nat.le_refl _) hW) (Nat.zero_le _), HCD.out.2.1⟩⟩)
  have HSZ : Hid (sizes a.args ≤ 256 ∧ sizes b.args ≤ 256 ∧ sizes c.args ≤ 256) := Lib.hid (by
    have h1 := HAB.out.1.2.2.2; have h2 := HAB.out.2.2.2.2; have h3 := HCD.out.2.2.2
    have k1 := termro.size_eq a; have k2 := termro.size_eq b; have k3 := termro.size_eq c
    simp at h1 h2 h3
    omega)
  have HC1 : Hid (∀ W, Below w3.heap.size w3 W → Calls Try.prog 8 #[aggV a Aa ca, aggV b Ab cb] W fun e w' => e = .returned (.int .i64 (cmp a b)) ∧ Below W.heap.size W w') := Lib.hid (fun W hW => (compare_any a b _ _ W (HEL.out W hW).1.1 (HEL.out W hW).2.1.1 (by have := HSZ.out; omega)).mono (fun _ _ h => ⟨h.1, h.2.below⟩))
  have HC2 : Hid (∀ W, Below w3.heap.size w3 W → Calls Try.prog 8 #[aggV b Ab cb, aggV c Ac cc] W fun e w' => e = .returned (.int .i64 (cmp b c)) ∧ Below W.heap.size W w') := Lib.hid (fun W hW => (compare_any b c _ _ W (HEL.out W hW).2.1.1 (HEL.out W hW).2.2.1 (by have := HSZ.out; omega)).mono (fun _ _ h => ⟨h.1, h.2.below⟩))
  have HC3 : Hid (∀ W, Below w3.heap.size w3 W → Calls Try.prog 8 #[aggV a Aa ca, aggV c Ac cc] W fun e w' => e = .returned (.int .i64 (cmp a c)) ∧ Below W.heap.size W w') := Lib.hid (fun W hW => (compare_any a c _ _ W (HEL.out W hW).1.1 (HEL.out W hW).2.2.1 (by have := HSZ.out; omega)).mono (fun _ _ h => ⟨h.1, h.2.below⟩))
  have HC4 : Hid (∀ W, Below w3.heap.size w3 W → Calls Try.prog 8 #[aggV b Ab cb, aggV a Aa ca] W fun e w' => e = .returned (.int .i64 (-(cmp a b))) ∧ Below W.heap.size W w') := Lib.hid (fun W hW => (compare_any b a _ _ W (HEL.out W hW).2.1.1 (HEL.out W hW).1.1 (by have := HSZ.out; omega)).mono (fun _ _ h => ⟨h.1.trans (by rw [cmp_swap a b]), h.2.below⟩))
  have HLI : Hid (∀ W, Below w3.heap.size w3 W → Calls Try.prog 9 #[.slice (some ⟨W.heap.size, 0, none⟩) 4 4] (W.alloc (.cells #[.int .i64 c.op, .string (bstr c.name), .int .i64 c.sort, .slice Ac c.args.length cc, .int .i64 b.op, .string (bstr b.name), .int .i64 b.sort, .slice Ab b.args.length cb, .int .i64 a.op, .string (bstr a.name), .int .i64 a.sort, .slice Aa a.args.length ca, .int .i64 b.op, .string (bstr b.name), .int .i64 b.sort, .slice Ab b.args.length cb] 26)) (SortTP [c, b, a, b] (W.alloc (.cells #[.int .i64 c.op, .string (bstr c.name), .int .i64 c.sort, .slice Ac c.args.length cc, .int .i64 b.op, .string (bstr b.name), .int .i64 b.sort, .slice Ab b.args.length cb, .int .i64 a.op, .string (bstr a.name), .int .i64 a.sort, .slice Aa a.args.length ca, .int .i64 b.op, .string (bstr b.name), .int .i64 b.sort, .slice Ab b.args.length cb] 26)))) := Lib.hid (fun W hW => by
    obtain ⟨ha, hb, hc⟩ := HEL.out W hW
    refine sortTerms_any _ _ _ (lit4 (N := 3) W (c, .slice Ac c.args.length cc) (b, .slice Ab b.args.length cb) (a, .slice Aa a.args.length ca) (b, .slice Ab b.args.length cb) (fun p hp => ?_)) ?_
    · simp only [List.mem_cons, List.not_mem_nil, or_false] at hp
      rcases hp with rfl | rfl | rfl | rfl
      · exact hc
      · exact hb
      · exact ha
      · exact hb
    · have k1 := termro.size_eq a; have k2 := termro.size_eq b; have k3 := termro.size_eq c
      have := HSZ.out
      simp only [sizes, List.map_cons, List.map_nil, List.sum_cons, List.sum_nil] at k1 k2 k3 this ⊢
      omega)
  obtain ⟨x, hx⟩ : ∃ x, x = cmp a b := ⟨_, rfl⟩
  obtain ⟨y, hy⟩ : ∃ y, y = cmp b c := ⟨_, rfl⟩
  obtain ⟨z, hz⟩ : ∃ z, z = cmp a c := ⟨_, rfl⟩
  have hx1 : -1 ≤ x ∧ x ≤ 1 := by rw [hx]; exact cmp_range a b
  have hz1 : x ≤ 0 → y ≤ 0 → z ≤ 0 := fun h1 h2 => by rw [hx] at h1; rw [hy] at h2; rw [hz]; exact cmp_trans a b c h1 h2
  have hz2' : 0 ≤ x → 0 ≤ y → 0 ≤ z := fun h1 h2 => by
    have e1 := cmp_swap a b; have e2 := cmp_swap b c; have e3 := cmp_swap a c
    have := cmp_trans c b a (by omega) (by omega)
    omega
  rw [← hx] at HC1 HC4
  rw [← hy] at HC2
  rw [← hz] at HC3
  have HXY := Lib.hid (And.intro hz1 hz2')
  clear hx hy hz hz1 hz2' HAB HCD
  have hb4 : Below w3.heap.size w3 ((w3.alloc (.cells #[.int .i64 c.op, .string (bstr c.name), .int .i64 c.sort, .slice Ac c.args.length cc] 26)).alloc (.cells #[.int .i64 d.op, .string (bstr d.name), .int .i64 d.sort, .slice Ad d.args.length cd] 26)) := ((Below.refl _ _).alloc (Nat.le_refl _) _).alloc (by simp) _
  have HX4 : Hid (BxT ((w3.alloc (.cells #[.int .i64 c.op, .string (bstr c.name), .int .i64 c.sort, .slice Ac c.args.length cc] 26)).alloc (.cells #[.int .i64 d.op, .string (bstr d.name), .int .i64 d.sort, .slice Ad d.args.length cd] 26)) w3.heap.size c Ac cc) := Lib.hid (Bx.below (w := w3.alloc (.cells #[.int .i64 c.op, .string (bstr c.name), .int .i64 c.sort, .slice Ac c.args.length cc] 26)) (heap_at _ _ _ rfl) ((Below.refl _ _).alloc (Nat.le_refl _) _))
  have HB4 := Lib.hid hb4
  clear hb4
  go_wp2_with fail
  generalize (w3.alloc (.cells #[.int .i64 c.op, .string (bstr c.name), .int .i64 c.sort, .slice Ac c.args.length cc] 26)).alloc (.cells #[.int .i64 d.op, .string (bstr d.name), .int .i64 d.sort, .slice Ad d.args.length cd] 26) = W4 at HX4 HB4 ⊢
  have HBX : Hid (∀ W, Below W4.heap.size W4 W → BxT W w1.heap.size a Aa ca ∧ BxT W (w1.heap.size + 1) b Ab cb ∧ BxT W w3.heap.size c Ac cc) := Lib.hid (fun W hW => ⟨(HX3.out.1.below HB4.out).below hW, (HX3.out.2.below HB4.out).below hW, HX4.out.below hW⟩)
  have H34 : Hid (∀ W, Below W4.heap.size W4 W → Below w3.heap.size w3 W) := Lib.hid (fun W hW => HB4.out.trans (hW.mono HB4.out.size))
  clear a0 a1 a2 a3 b0 b1 b2 b3 la lb
  have H4 : Hid (Below W4.heap.size W4 W4) := Lib.hid (Below.refl _ _)
  refine (HC1.out _ (H34.out _ H4.out)).mono ?_
  rintro e w5 ⟨rfl, hb5⟩
  have H5 : Hid (Below W4.heap.size W4 w5) := Lib.hid (H4.out.trans (hb5.mono H4.out.size))
  clear hb5
  obtain ⟨⟨⟨a0, a1, a2, a3⟩, _⟩, ⟨⟨b0, b1, b2, b3⟩, _⟩, ⟨⟨k0, k1, k2, k3⟩, _⟩⟩ := (show _ ∧ _ ∧ _ from ⟨(HBX.out _ H5.out).1.cells, (HBX.out _ H5.out).2.1.cells, (HBX.out _ H5.out).2.2.cells⟩)
  go_wp2_with fail
  refine (HC2.out _ (H34.out _ H5.out)).mono ?_
  rintro e w6 ⟨rfl, hb6⟩
  have H6 : Hid (Below W4.heap.size W4 w6) := Lib.hid (H5.out.trans (hb6.mono H5.out.size))
  clear hb6 H5
  clear a0 a1 a2 a3 b0 b1 b2 b3 k0 k1 k2 k3
  obtain ⟨⟨⟨a0, a1, a2, a3⟩, _⟩, ⟨⟨b0, b1, b2, b3⟩, _⟩, ⟨⟨k0, k1, k2, k3⟩, _⟩⟩ := (show _ ∧ _ ∧ _ from ⟨(HBX.out _ H6.out).1.cells, (HBX.out _ H6.out).2.1.cells, (HBX.out _ H6.out).2.2.cells⟩)
  go_wp2_with fail
  refine (HC3.out _ (H34.out _ H6.out)).mono ?_
  rintro e w7 ⟨rfl, hb7⟩
  have H7 : Hid (Below W4.heap.size W4 w7) := Lib.hid (H6.out.trans (hb7.mono H6.out.size))
  clear hb7 H6
  clear a0 a1 a2 a3 b0 b1 b2 b3 k0 k1 k2 k3
  obtain ⟨⟨⟨a0, a1, a2, a3⟩, _⟩, ⟨⟨b0, b1, b2, b3⟩, _⟩, ⟨⟨k0, k1, k2, k3⟩, _⟩⟩ := (show _ ∧ _ ∧ _ from ⟨(HBX.out _ H7.out).1.cells, (HBX.out _ H7.out).2.1.cells, (HBX.out _ H7.out).2.2.cells⟩)
  go_wp2_with fail
  refine (HLI.out _ (H34.out _ H7.out)).mono ?_
  rintro e w8 ⟨vl, Sl, rfl, hot, hb8⟩
  have H8 : Hid (Below W4.heap.size W4 w8) := Lib.hid ((H7.out.trans ((Below.refl _ _).alloc H7.out.size _)).trans (hb8.mono (by have := H7.out.size; simp; omega)))
  obtain ⟨Al, cl, rfl, _⟩ := HasR.shape hot.has rfl
  have hR4 : (sortM [c, b, a, b]).length = 4 := by have := (sortM_spec [c, b, a, b]).2.length_eq; simpa using this
  have HANY : Hid (∀ t ∈ [c, b, a, b], (sortM [c, b, a, b]).any (fun x => decide (cmp x t = 0)) = true) := Lib.hid (fun t ht => List.any_eq_true.2 ⟨t, (sortM_spec [c, b, a, b]).2.mem_iff.2 ht, decide_eq_true (cmp_self t)⟩)
  have HSRT : Hid (∀ i j, i < j → j < 4 → cmp ((sortM [c, b, a, b]).getD i default) ((sortM [c, b, a, b]).getD j default) ≤ 0) := Lib.hid (fun i j hij hj => by
    rw [getD_at (by omega), getD_at (by omega)]
    exact List.pairwise_iff_getElem.1 (sortM_spec [c, b, a, b]).1 i j (by omega) (by omega) hij)
  have HSR : Hid (sizes (sortM [c, b, a, b]) ≤ 2048) := Lib.hid (by
    have e : sizes (sortM [c, b, a, b]) = sizes [c, b, a, b] := ((sortM_spec [c, b, a, b]).2.map _).sum_nat
    have k1 := termro.size_eq a; have k2 := termro.size_eq b; have k3 := termro.size_eq c
    have := HSZ.out
    rw [e]
    simp only [sizes, List.map_cons, List.map_nil, List.sum_cons, List.sum_nil] at k1 k2 k3 this ⊢
    omega)
  have HROW := Lib.hid hot.has
  generalize depths [c, b, a, b] + 1 = D at HROW
  have HLEN := Lib.hid hR4
  rw [hR4] at HROW ⊢
  clear hot hb8 hR4 H7 HLI
  clear a0 a1 a2 a3 b0 b1 b2 b3 k0 k1 k2 k3
  obtain ⟨⟨⟨a0, a1, a2, a3⟩, _⟩, ⟨⟨b0, b1, b2, b3⟩, _⟩, ⟨⟨k0, k1, k2, k3⟩, _⟩⟩ := (show _ ∧ _ ∧ _ from ⟨(HBX.out _ H8.out).1.cells, (HBX.out _ H8.out).2.1.cells, (HBX.out _ H8.out).2.2.cells⟩)
  go_wp2_with fail
  refine (HC4.out _ (H34.out _ H8.out)).mono ?_
  rintro e w9 ⟨rfl, hb9⟩
  have H9 : Hid (Below W4.heap.size W4 w9) := Lib.hid (H8.out.trans (hb9.mono H8.out.size))
  have HROW9 := Lib.hid (HasTs.below HROW.out (Nat.le_refl _) hb9)
  clear hb9 H8 HROW HC1 HC2 HC3 HC4
  clear a0 a1 a2 a3 b0 b1 b2 b3 k0 k1 k2 k3
  obtain ⟨_, g, o, _, _, _, rfl, _, hg9, _⟩ := term_at HROW9.out (j := 0) (by omega)
  have HPAIR : Hid (∀ p j, p < j → j < 4 → ∃ (tp tj : TermM) (A1 : Option Addr) (c1 : Nat) (A2 : Option Addr) (c2 : Nat), Hid (w9.cell? ⟨g, o + p * 4, none⟩ = some (.int .i64 tp.op) ∧ w9.cell? ⟨g, o + p * 4 + 1, none⟩ = some (.string (bstr tp.name)) ∧ w9.cell? ⟨g, o + p * 4 + 2, none⟩ = some (.int .i64 tp.sort) ∧ w9.cell? ⟨g, o + p * 4 + 3, none⟩ = some (.slice A1 tp.args.length c1)) ∧
      Hid (w9.cell? ⟨g, o + j * 4, none⟩ = some (.int .i64 tj.op) ∧ w9.cell? ⟨g, o + j * 4 + 1, none⟩ = some (.string (bstr tj.name)) ∧ w9.cell? ⟨g, o + j * 4 + 2, none⟩ = some (.int .i64 tj.sort) ∧ w9.cell? ⟨g, o + j * 4 + 3, none⟩ = some (.slice A2 tj.args.length c2)) ∧
      Hid (∃ r : Int, r ≤ 0 ∧ ∀ W, Below w9.heap.size w9 W → Calls Try.prog 8 #[aggV tp A1 c1, aggV tj A2 c2] W fun e w' => e = .returned (.int .i64 r) ∧ Below W.heap.size W w')) := Lib.hid (by
    intro p j hpj hj
    obtain ⟨k1, g1, o1, A1, c1, q1, q2, _, _, e0, e1, e2, e3, hh1, _⟩ := term_at HROW9.out (j := p) (by omega)
    obtain ⟨k2, g2, o2, A2, c2, q3, q4, _, _, f0, f1, f2, f3, hh2, _⟩ := term_at HROW9.out (j := j) hj
    simp only [Option.some.injEq, Addr.mk.injEq, and_true] at q2 q4
    obtain ⟨rfl, rfl⟩ := q2
    obtain ⟨rfl, rfl⟩ := q4
    obtain rfl : k1 = k2 := by omega
    refine ⟨_, _, A1, c1, A2, c2, Lib.hid ⟨e0, e1, e2, e3⟩, Lib.hid ⟨f0, f1, f2, f3⟩, Lib.hid ⟨_, HSRT.out p j hpj hj, fun W hW => (compare_any _ _ _ _ W (hh1.below (Nat.le_refl _) hW) (hh2.below (Nat.le_refl _) hW) ?_).mono (fun _ _ h => ⟨h.1, h.2.below⟩)⟩⟩
    have k1 := size_le_sizes (l := sortM [c, b, a, b]) (j := p) (by have := HLEN.out; omega)
    have k2 := termro.size_eq ((sortM [c, b, a, b]).getD p default)
    have := HSR.out
    omega)
  have HHAS : Hid (∀ (t : TermM) (va : Value) W, t ∈ [c, b, a, b] → Below w9.heap.size w9 W → HasTs 3 0 W va t.args → Calls Try.prog 10 #[.slice (some ⟨g, o, none⟩) 4 cl, aggT t va] W fun e w' => e = .returned (.bool true) ∧ Below W.heap.size W w') := Lib.hid (fun t va W ht hW hv =>
    hasT_any (nn := max D 3) (sortM [c, b, a, b]) t va _ 4 cl W HLEN.out.symm (by omega) ((HROW9.out.below (Nat.le_refl _) hW).up (Nat.le_max_left _ _)) (hv.up (Nat.le_max_right _ _)) true (HANY.out t ht).symm)
  unfold aggT at HHAS
  clear HANY HSRT HSR HLEN HROW9 HX3 HX4 HB4
  have hw : IntKind.i64.wrap (-x) = -x := IntWalk.i64_in _ (by omega)
  have hw2 : IntKind.i64.wrap (0 - x) = -x := by rw [IntWalk.i64_in _ (by omega)]; omega
  have l1 : decide (x < -1) = false := decide_eq_false (by omega)
  have l2 : decide (1 < x) = false := decide_eq_false (by omega)
  have l3 : ¬ x < -1 := by omega
  have l4 : ¬ 1 < x := by omega
  have hcs : (x ≤ 0 ∧ ¬ 0 ≤ x ∧ y ≤ 0 ∧ ¬ 0 < z) ∨ (x ≤ 0 ∧ ¬ 0 ≤ x ∧ ¬ y ≤ 0) ∨ (x ≤ 0 ∧ 0 ≤ x ∧ y ≤ 0 ∧ ¬ 0 < z ∧ ¬ 0 ≤ y) ∨ (x ≤ 0 ∧ 0 ≤ x ∧ y ≤ 0 ∧ ¬ 0 < z ∧ 0 ≤ y ∧ ¬ z < 0) ∨ (x ≤ 0 ∧ 0 ≤ x ∧ ¬ y ≤ 0 ∧ 0 ≤ y ∧ ¬ z < 0) ∨ (¬ x ≤ 0 ∧ 0 ≤ x ∧ 0 ≤ y ∧ ¬ z < 0) ∨ (¬ x ≤ 0 ∧ 0 ≤ x ∧ ¬ 0 ≤ y) := by
    have h1 := HXY.out.1; have h2 := HXY.out.2
    by_cases p1 : x ≤ 0 <;> by_cases p2 : 0 ≤ x <;> by_cases p3 : y ≤ 0 <;> by_cases p4 : 0 ≤ y <;> omega
  clear HXY hx1
  rcases hcs with ⟨p1, p2, p3, p4⟩ | ⟨p1, p2, p3⟩ | ⟨p1, p2, p3, p4, p5⟩ | ⟨p1, p2, p3, p4, p5, p6⟩ | ⟨p1, p2, p3, p4, p5⟩ | ⟨p1, p2, p3, p4⟩ | ⟨p1, p2, p3⟩
  all_goals
    go_wp2_with fail
    go_loopw [11] (fun v11 wr => ∃ j : Nat, v11 = .int .i64 j ∧ 1 ≤ j ∧ j ≤ 4 ∧ Hid (Below w9.heap.size w9 wr)) (fun i _ => 4 - (intOf i).toNat)
    case atStart => exact ⟨1, rfl, Nat.le_refl _, by omega, Lib.hid (Below.refl _ _)⟩
    case round =>
      obtain ⟨j, rfl, hj1, hj4, HBW⟩ := hrel
      have hzr := HBW.out.size
      by_cases hlt : j < 4
      · obtain ⟨p, hp⟩ : ∃ p, p + 1 = j := ⟨j - 1, by omega⟩
        obtain ⟨tp, tj, A1, c1, A2, c2, HE0, HE1, HCC⟩ := HPAIR.out p j (by omega) hlt
        have hw3 : IntKind.i64.wrap ((j : Int) - 1) = (p : Int) := by rw [← hp, IntWalk.i64_in _ (by omega)]; omega
        have m1 : (0 : Int) ≤ (p : Int) := by omega
        have m2 : (p : Int) < 4 := by omega
        have m3 : (0 : Int) ≤ (j : Int) := by omega
        have m4 : (j : Int) < 4 := by omega
        have hgr : g < wr.heap.size := by omega
        have r0 : ∀ t : BoxC (Below wr.heap.size wr), t.W.cell? ⟨g, o + p * 4, none⟩ = some (.int .i64 tp.op) := fun t => t.cell ((HBW.out.cell (p := ⟨g, _, none⟩) hg9).trans HE0.out.1) hgr
        have r1 : ∀ t : BoxC (Below wr.heap.size wr), t.W.cell? ⟨g, o + p * 4 + 1, none⟩ = some (.string (bstr tp.name)) := fun t => t.cell ((HBW.out.cell (p := ⟨g, _, none⟩) hg9).trans HE0.out.2.1) hgr
        have r2 : ∀ t : BoxC (Below wr.heap.size wr), t.W.cell? ⟨g, o + p * 4 + 2, none⟩ = some (.int .i64 tp.sort) := fun t => t.cell ((HBW.out.cell (p := ⟨g, _, none⟩) hg9).trans HE0.out.2.2.1) hgr
        have r3 : ∀ t : BoxC (Below wr.heap.size wr), t.W.cell? ⟨g, o + p * 4 + 3, none⟩ = some (.slice A1 tp.args.length c1) := fun t => t.cell ((HBW.out.cell (p := ⟨g, _, none⟩) hg9).trans HE0.out.2.2.2) hgr
        have s0 : ∀ t : BoxC (Below wr.heap.size wr), t.W.cell? ⟨g, o + j * 4, none⟩ = some (.int .i64 tj.op) := fun t => t.cell ((HBW.out.cell (p := ⟨g, _, none⟩) hg9).trans HE1.out.1) hgr
        have s1 : ∀ t : BoxC (Below wr.heap.size wr), t.W.cell? ⟨g, o + j * 4 + 1, none⟩ = some (.string (bstr tj.name)) := fun t => t.cell ((HBW.out.cell (p := ⟨g, _, none⟩) hg9).trans HE1.out.2.1) hgr
        have s2 : ∀ t : BoxC (Below wr.heap.size wr), t.W.cell? ⟨g, o + j * 4 + 2, none⟩ = some (.int .i64 tj.sort) := fun t => t.cell ((HBW.out.cell (p := ⟨g, _, none⟩) hg9).trans HE1.out.2.2.1) hgr
        have s3 : ∀ t : BoxC (Below wr.heap.size wr), t.W.cell? ⟨g, o + j * 4 + 3, none⟩ = some (.slice A2 tj.args.length c2) := fun t => t.cell ((HBW.out.cell (p := ⟨g, _, none⟩) hg9).trans HE1.out.2.2.2) hgr
        obtain ⟨r, hr0, HC5⟩ : ∃ r : Int, r ≤ 0 ∧ Hid (∀ t : BoxC (Below wr.heap.size wr), Calls Try.prog 8 #[aggV tp A1 c1, aggV tj A2 c2] t.W fun e w' => e = .returned (.int .i64 r) ∧ Below t.W.heap.size t.W w') := by
          obtain ⟨r, h1, h2⟩ := HCC.out
          exact ⟨r, h1, Lib.hid (fun t => h2 t.W (HBW.out.trans (t.h.mono (by omega))))⟩
        have d1 : decide (0 < r) = false := decide_eq_false (by omega)
        have d2 : ¬ 0 < r := by omega
        have nb : Nonempty (BoxC (Below wr.heap.size wr)) := ⟨⟨_, Below.refl _ _⟩⟩
        clear hp hr0
        go_wp2_with fail
        refine region_boxC (C := Below wr.heap.size wr) (by kernel_rfl) (by kernel_rfl) (Below.refl _ _).drew ?_
        repeat (go_big_quiet_step ((go_at_call 8; exact (HC5.out _).mono (fun _ _ h => ⟨h.1, BoxC.step _ h.2⟩))))
        refine wpQuiet_nil ?_
        rintro w5 ⟨t5, rfl⟩
        have HB6 : Hid (Below w9.heap.size w9 t5.W) := Lib.hid (HBW.out.trans (t5.h.mono hzr))
        clear r0 r1 r2 r3 s0 s1 s2 s3 nb HC5
        go_wp2
        go_roundw
        case measure => simp [intOf]; omega
        case rel => exact ⟨j + 1, by go_num, by omega, by omega, HB6⟩
      · obtain rfl : j = 4 := by omega
        have HBr : Hid (Below W4.heap.size W4 wr) := Lib.hid (H9.out.trans (HBW.out.mono H9.out.size))
        obtain ⟨⟨⟨a0, a1, a2, a3⟩, _⟩, ⟨⟨b0, b1, b2, b3⟩, _⟩, ⟨⟨k0, k1, k2, k3⟩, _⟩⟩ := (show _ ∧ _ ∧ _ from ⟨(HBX.out _ HBr.out).1.cells, (HBX.out _ HBr.out).2.1.cells, (HBX.out _ HBr.out).2.2.cells⟩)
        go_wp2_with fail
        refine (HHAS.out a _ wr (by simp) HBW.out (HEL.out _ (H34.out _ HBr.out)).1.1).mono ?_
        rintro e w10 ⟨rfl, hb10⟩
        have HBW1 : Hid (Below w9.heap.size w9 w10) := Lib.hid (HBW.out.trans (hb10.mono HBW.out.size))
        have HBr1 : Hid (Below W4.heap.size W4 w10) := Lib.hid (HBr.out.trans (hb10.mono HBr.out.size))
        clear hb10 a0 a1 a2 a3 b0 b1 b2 b3 k0 k1 k2 k3
        obtain ⟨⟨⟨a0, a1, a2, a3⟩, _⟩, ⟨⟨b0, b1, b2, b3⟩, _⟩, ⟨⟨k0, k1, k2, k3⟩, _⟩⟩ := (show _ ∧ _ ∧ _ from ⟨(HBX.out _ HBr1.out).1.cells, (HBX.out _ HBr1.out).2.1.cells, (HBX.out _ HBr1.out).2.2.cells⟩)
        go_wp2_with fail
        refine (HHAS.out b _ w10 (by simp) HBW1.out (HEL.out _ (H34.out _ HBr1.out)).2.1.1).mono ?_
        rintro e w11 ⟨rfl, hb11⟩
        have HBW2 : Hid (Below w9.heap.size w9 w11) := Lib.hid (HBW1.out.trans (hb11.mono HBW1.out.size))
        have HBr2 : Hid (Below W4.heap.size W4 w11) := Lib.hid (HBr1.out.trans (hb11.mono HBr1.out.size))
        clear hb11 a0 a1 a2 a3 b0 b1 b2 b3 k0 k1 k2 k3
        obtain ⟨⟨⟨a0, a1, a2, a3⟩, _⟩, ⟨⟨b0, b1, b2, b3⟩, _⟩, ⟨⟨k0, k1, k2, k3⟩, _⟩⟩ := (show _ ∧ _ ∧ _ from ⟨(HBX.out _ HBr2.out).1.cells, (HBX.out _ HBr2.out).2.1.cells, (HBX.out _ HBr2.out).2.2.cells⟩)
        go_wp2_with fail
        refine (HHAS.out c _ w11 (by simp) HBW2.out (HEL.out _ (H34.out _ HBr2.out)).2.2.1).mono ?_
        rintro e w12 ⟨rfl, hb12⟩
        have HF : Hid (Below w.heap.size w w12) := Lib.hid (HB3.out.trans ((H34.out _ (HBr2.out.trans (hb12.mono HBr2.out.size))).mono HB3.out.size))
        clear hb12 a0 a1 a2 a3 b0 b1 b2 b3 k0 k1 k2 k3
        go_wp2
        go_ret
        exact ⟨rfl, HF.out⟩
set_option maxRecDepth 100000 in
theorem walk {H : Type} {enc : TypeId × Value → H} {W : World} {base : Nat} {v : Value} {d : DataW H} {p : List MemPlace}
    (hval : Value.okWide Try.prog W .any base 22 v) (hd : DataW.Trod enc Try.prog W 0 (fun _ => true) true 22 v d p) (_hlt : ∀ x ∈ p, x.block < W.heap.size) :
    Calls Try.prog 3 #[v] W fun e w' => e = .returned (.bool true) ∧ Below W.heap.size W w' := by
  obtain ⟨A, n, cap, rfl, hn, hc⟩ := code_open hval hd
  exact go W hn hc
end Go.Proofs.Ytkkmjaggebjcbaa.fnTermOrder
