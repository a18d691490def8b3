/-
  THE PROGRAM'S SortTerms: the loop that gives each element memory of its own, the sort, and the row that it leaves.
-/
import Derived.Test.YtkkmjaggebjcbaaTermcy
import Derived.Test.YtkkmjaggebjcbaaTermso
import Derived.Deep.DeepAppendRoom
namespace Go.Proofs.Ytkkmjaggebjcbaa.termst
open Go.ChangeShapes Go.WideShapes Go.ChangeAt Go.RowKit
open mem dec rowl trm trmv terml termb termt termx termz termro termsd termvx termcl termso termsp termpr termpw termcy

theorem fours_ext {L : List TermM} {vs : Nat → Value} {m : Nat} {xs : List Value} (hl : xs.length = m * 4) (h : ∀ j, j < m → Cells4 xs j (L.getD j default) (vs j)) : xs = fours L vs m := by
  apply List.ext_getElem?
  intro p
  by_cases hp : p < m * 4
  · obtain ⟨a, b, c, d⟩ := h (p / 4) (by omega)
    obtain ⟨a', b', c', d'⟩ := fours_at L vs m (p / 4) (by omega)
    have hpm : p = p / 4 * 4 + p % 4 := by omega
    rw [hpm]
    match p % 4, (show p % 4 < 4 by omega) with
    | 0, _ => exact a.trans a'.symm
    | 1, _ => exact b.trans b'.symm
    | 2, _ => exact c.trans c'.symm
    | 3, _ => exact d.trans d'.symm
  · rw [List.getElem?_eq_none (by omega), List.getElem?_eq_none (by rw [fours_len]; omega)]
/-- a row of one's own, of elements that have memory of their own -/
structure SepI (B gR cap D i : Nat) (L : List TermM) (Vs : Nat → Value) (Ss : Nat → List Nat) (wr : World) : Prop where
  own : wr.ownsRow B 26 4 (.slice (some ⟨gR, 0, none⟩) i cap) i (fours L Vs i)
  done : ∀ j, j < i → OT 26 D (gR + 1) wr (Vs j) (L.getD j default).args (Ss j)
  apart : ∀ j k, j < k → k < i → ∀ x ∈ Ss j, x ∉ Ss k
theorem fours_same (L : List TermM) (vs us : Nat → Value) : ∀ m, (∀ j, j < m → vs j = us j) → fours L vs m = fours L us m
  | 0, _ => rfl
  | m + 1, h => by rw [fours_succ, fours_succ, fours_same L vs us m (fun j hj => h j (by omega))]; unfold four; rw [h m (by omega)]
theorem chg_grown {w w' : World} {g : Nat} (h : w.grownBy w' (some g)) : Chg [g] w w' := ⟨h.os, h.tape, h.output, h.size, fun k hk hn => h.block k hk (fun e => hn (by simp at e; simp [e]))⟩
theorem SepI.step {B gR cap D i : Nat} {L : List TermM} {Vs : Nat → Value} {Ss : Nat → List Nat} {wr w1 w2 w3 : World} (h : SepI B gR cap D i L Vs Ss wr) (hD : depth (L.getD i default) ≤ D) {v : Value} {S : List Nat}
    (ho : OT 26 (depth (L.getD i default)) wr.heap.size w1 v (L.getD i default).args S) (hb : Below wr.heap.size wr w1) (hb2 : Below w1.heap.size w1 w2) (hg : w2.grownBy w3 (some gR))
    (hr : w3.ownsRow B 26 4 (.slice (some ⟨gR, 0, none⟩) (i + 1) cap) (i + 1) (fours L Vs i ++ four L (fun _ => v) i)) : ∃ Vs' Ss', SepI B gR cap D (i + 1) L Vs' Ss' w3 := by
  have hgw := (own_lt h.own).2.1
  have hc : Chg [gR] wr w3 := ((Chg.of_below (S := [gR]) hb).trans (Chg.of_below hb2)).trans (chg_grown hg)
  refine ⟨fun j => if j = i then v else Vs j, fun j => if j = i then S else Ss j, ?_, fun j hj => ?_, fun j k h1 h2 x hx => ?_⟩
  · rw [fours_succ, fours_same L _ Vs i (fun j hj => by rw [if_neg (by omega)])]
    have e : four L (fun j => if j = i then v else Vs j) i = four L (fun _ => v) i := by simp only [four, if_true]
    rw [e]
    exact hr
  · by_cases hji : j = i
    · subst hji
      simp only [if_pos]
      have h1 : OT 26 D wr.heap.size w1 v (L.getD j default).args S := OT_up hD ho
      exact ((h1.below hb2).chg (chg_grown hg) (fun k hk => by have := (h1.lt k hk).1; simp; omega)).mono (by omega)
    · simp only [if_neg hji]
      have h1 := h.done j (by omega)
      exact h1.chg hc (fun k hk => by have := (h1.lt k hk).1; simp; omega)
  · simp only [if_neg (show ¬ j = i by omega)] at hx
    have h3 := (h.done j (by omega)).lt x hx
    by_cases hk : k = i
    · subst hk
      simp only [if_pos]
      intro hm
      have := (ho.lt x hm).1
      omega
    · simp only [if_neg hk]
      exact h.apart j k h1 (by omega) x hx
/-- a permuted list of images comes from a permuted list -/
theorem perm_lift {α β : Type} (f : α → β) : ∀ (l : List β) (ds : List α), l.Perm (ds.map f) → ∃ ds' : List α, ds'.Perm ds ∧ ds'.map f = l
  | [], ds, h => by
    have : ds = [] := by simpa using h.symm.eq_nil
    exact ⟨[], by rw [this], rfl⟩
  | b :: l, ds, h => by
    have hb : b ∈ ds.map f := h.mem_iff.1 (by simp)
    obtain ⟨a, ha, rfl⟩ := List.mem_map.1 hb
    obtain ⟨s, u, rfl⟩ := List.append_of_mem ha
    have h2 : (f a :: l).Perm (f a :: (s ++ u).map f) := h.trans (by
      rw [List.map_append, List.map_cons, List.map_append]
      exact List.perm_middle)
    obtain ⟨ds', h3, h4⟩ := perm_lift f l (s ++ u) h2.cons_inv
    exact ⟨a :: ds', (h3.cons a).trans List.perm_middle.symm, by rw [List.map_cons, h4]⟩
/-- what SortTerms leaves: a sorted row of one's own -/
def SortTP (L : List TermM) (w : World) (e : Ending) (w' : World) : Prop := ∃ (v : Value) (S : List Nat), e = .returned v ∧ OT 26 (depths L + 1) w.heap.size w' v (sortM L) S ∧ Below w.heap.size w w'
theorem sorted_row {B gR m cap : Nat} {L : List TermM} {Vs : Nat → Value} {Ss : Nat → List Nat} {W W' : World} (hm : m = L.length) (h : SepI B gR cap (depths L) m L Vs Ss W) {d d' : Array (Elt (depths L) (gR + 1) W)} {xs' : List Value}
    (hd : ∀ j, j < m → d[j]!.t = L.getD j default ∧ d[j]!.v = Vs j) (hsz : d.size = m) (hsz' : d'.size = m) (hp : d'.toList.Perm d.toList) (hs : ∀ i j, i < j → j < m → cmp d'[i]!.t d'[j]!.t ≤ 0)
    (ho : W'.ownsRow B 26 4 (.slice (some ⟨gR, 0, none⟩) m cap) m xs') (hx : ∀ j, j < m → Cells4 xs' j d'[j]!.t d'[j]!.v) (hc : Chg [gR] W W') :
    ∃ S, OT 26 (depths L + 1) B W' (.slice (some ⟨gR, 0, none⟩) m cap) (sortM L) S := by
  have hat : ∀ (d : Array (Elt (depths L) (gR + 1) W)) j (hj : j < d.size), d[j]! = d[j] := fun d j hj => getElem!_pos d j hj
  have hmap : d.toList.map (·.t) = L := by
    apply List.ext_getElem
    · simp [hsz, hm]
    · intro j h1 h2
      have := (hd j (by omega)).1
      rw [hat d j (by omega), getD_at h2] at this
      simpa using this
  have hL' : d'.toList.map (·.t) = sortM L := by
    refine sortM_unique ?_ ((hp.map (fun x => x.t)).trans (by rw [hmap]))
    refine List.pairwise_iff_getElem.2 (fun i j hi hj hij => ?_)
    have hi' : i < m := by simpa [hsz'] using hi
    have hj' : j < m := by simpa [hsz'] using hj
    have h1 := hs i j hij hj'
    rw [hat d' i (by omega), hat d' j (by omega)] at h1
    simpa using h1
  obtain ⟨ds', hp', hm'⟩ := perm_lift (fun j => (d[j]! : Elt (depths L) (gR + 1) W)) d'.toList (List.range m) (by
    have : (List.range m).map (fun j => (d[j]! : Elt (depths L) (gR + 1) W)) = d.toList := by
      apply List.ext_getElem
      · simp [hsz]
      · intro j h1 h2
        simp only [List.getElem_map, List.getElem_range]
        rw [hat d j (by simpa using h2)]
        simp
    rw [this]; exact hp)
  have hl' : ds'.length = m := by have := hp'.length_eq; simpa using this
  have hlt : ∀ j, j < m → ds'.getD j 0 < m := fun j hj => by
    rw [List.getD_eq_getElem?_getD, List.getElem?_eq_getElem (by omega), Option.getD_some]
    have := hp'.mem_iff.1 (List.getElem_mem (by omega : j < ds'.length))
    simpa using this
  have hdj : ∀ j, j < m → d'[j]! = d[ds'.getD j 0]! := fun j hj => by
    have h1 : d'.toList[j]? = some d'[j]! := by rw [hat d' j (by omega)]; simp [hsz', hj]
    rw [← hm', List.getElem?_map, List.getElem?_eq_getElem (by omega), Option.map_some] at h1
    injection h1 with h1
    rw [← h1, List.getD_eq_getElem?_getD, List.getElem?_eq_getElem (by omega), Option.getD_some]
  have hlen : (sortM L).length = m := by rw [← hL', List.length_map]; simp [hsz']
  have hget : ∀ j, j < m → (sortM L).getD j default = d'[j]!.t := fun j hj => by
    rw [getD_at (by omega), hat d' j (by omega)]
    simp [← hL']
  have hgl := (own_lt h.own).2.1
  have hflat : (List.range m).flatMap (fun j => Ss (ds'.getD j 0)) = ds'.flatMap Ss := by
    have : ds' = (List.range m).map (fun j => ds'.getD j 0) := by
      apply List.ext_getElem
      · simp [hl']
      · intro j h1 h2
        simp [h1]
    conv => rhs; rw [this]
    rw [List.flatMap_map]
  have hnd : ((List.range m).flatMap Ss).Nodup := by
    refine List.pairwise_flatMap.2 ⟨fun j hj => (h.done j (by simpa using hj)).nodup, ?_⟩
    refine List.pairwise_iff_getElem.2 (fun i j hi hj hij => ?_)
    simp only [List.getElem_range]
    intro x hx y hy e
    exact h.apart i j hij (by simpa using hj) x hx (e ▸ hy)
  refine ⟨gR :: ds'.flatMap Ss, xs', fun j => d'[j]!.v, fun j => Ss (ds'.getD j 0), by rw [hlen]; exact ho, by rw [hlen, hflat]; rfl, List.nodup_cons.2 ⟨fun hmem => ?_, ?_⟩, fun j hj => ?_⟩
  · obtain ⟨j, hj, hx⟩ := List.mem_flatMap.1 hmem
    have hj' : j < m := by simpa using hp'.mem_iff.1 hj
    have := ((h.done j hj').lt gR hx).1
    omega
  · exact (hp'.flatMap_right Ss).nodup_iff.2 hnd
  · have hj' : j < m := by omega
    rw [hget j hj']
    obtain ⟨a, b, c, e⟩ := hx j hj'
    refine ⟨⟨a, b, c, e⟩, d'[j]!.b, ?_⟩
    show OT _ _ _ _ d'[j]!.v d'[j]!.t.args (Ss (ds'.getD j 0))
    rw [hdj j hj', (hd _ (hlt j hj')).1, (hd _ (hlt j hj')).2]
    have h1 := h.done _ (hlt j hj')
    exact (h1.chg hc (fun k hk => by have := (h1.lt k hk).1; simp; omega)).mono (by have := (own_lt h.own).1; omega)
theorem elts {B gR m cap : Nat} {L : List TermM} {Vs : Nat → Value} {Ss : Nat → List Nat} {W : World} (hm : m = L.length) (h : SepI B gR cap (depths L) m L Vs Ss W) (hb : ∀ j, j < m → Bnd (L.getD j default)) (hsz : sizes L ≤ 1048576) :
    ∃ d : Array (Elt (depths L) (gR + 1) W), d.size = m ∧ ∀ j, j < m → d[j]!.t = L.getD j default ∧ d[j]!.v = Vs j := by
  refine ⟨Array.ofFn (n := m) fun j => ⟨L.getD j.1 default, Vs j.1, (h.done j.1 j.2).has, hb j.1 j.2, ?_⟩, by simp, fun j hj => ?_⟩
  · have h1 := size_le_sizes (l := L) (j := j.1) (by omega)
    have h2 := size_eq (L.getD j.1 default)
    omega
  · rw [getElem!_pos _ j (by simpa using hj)]
    simp
set_option maxRecDepth 50000 in
set_option maxHeartbeats 2000000 in
/-- impl.copyTerms -/
theorem copyTerms_any {n lo : Nat} (L : List TermM) (v : Value) (w : World) (h : HasTs n lo w v L) (hsz : sizes L ≤ 1048576) : Calls Try.prog 22 #[v] w fun e w' => ∃ Vs Ss, e = .returned (.slice (some ⟨w.heap.size, 0, none⟩) L.length L.length) ∧ SepI w.heap.size w.heap.size L.length (depths L) L.length L Vs Ss w' ∧ Below w.heap.size w w' := by
  have hll := sizes_len L
  obtain ⟨m, hm⟩ : ∃ m, m = L.length := ⟨_, rfl⟩
  have h' : HasTs (n + 1) lo w v L := h.up (Nat.le_succ n)
  obtain ⟨A, c, rfl, h'⟩ := HasR.shape h' hm.symm
  have HH := Lib.hid h'
  have HM := Lib.hid hm
  have hm30 : m ≤ 1048576 := by omega
  rw [← hm]
  clear h h' hm
  obtain ⟨j0, hij, hy0, hy1, hy2⟩ := info_parts info_term
  go_enter Try.func22, Try.ntmps22
  go_wp2_with (at_make; refine wpList_make_own _ rfl _ _ 24 rfl w.heap.size 26 j0 _ 4 Try.underlying24 hij hy0 hy1 _ _ _ m rfl rfl (by go_num) (by rw [hy2]; omega) (by unfold maxLen; omega) (Nat.le_refl _) ?_)
  intro w1 hown hgrow
  have hb1 : Below w.heap.size w w1 := (Below.refl w.heap.size w).grown hgrow (Nat.le_refl _) (by intro k hk; cases hk)
  have HS0 : Hid (SepI w.heap.size w.heap.size m (depths L) 0 L (fun _ => undef) (fun _ => []) w1) := Lib.hid ⟨hown, fun j hj => by omega, fun _ _ _ hk => by omega⟩
  have HB1 := Lib.hid hb1
  clear hown hgrow hb1
  go_wp2
  go_loopw [3, 11] (fun v3 v11 wr => ∃ (j : Nat) (Vs : Nat → Value) (Ss : Nat → List Nat), v11 = .int .i64 j ∧ v3 = .slice (some ⟨w.heap.size, 0, none⟩) j m ∧ j ≤ m ∧ Hid (SepI w.heap.size w.heap.size m (depths L) j L Vs Ss wr) ∧ Hid (Below w.heap.size w wr)) (fun _ i _ => m - (intOf i).toNat)
  case atStart => exact ⟨0, fun _ => undef, fun _ => [], rfl, rfl, Nat.zero_le _, HS0, HB1⟩
  case round =>
    obtain ⟨j, Vs, Ss, rfl, rfl, hj, HS, HB⟩ := hrel
    have hgw := (own_lt HS.out.own).2.1
    by_cases hlt : j < m
    · obtain ⟨kn, g, o, B2, cx, hNk, rfl, _, hg, f0, f1, f2, f3, hxx, hbx⟩ := term_at HH.out hlt
      obtain rfl : n = kn := by omega
      rw [← HB.out.cell (p := ⟨g, o + j * 4, none⟩) hg] at f0
      rw [← HB.out.cell (p := ⟨g, o + j * 4 + 1, none⟩) hg] at f1
      rw [← HB.out.cell (p := ⟨g, o + j * 4 + 2, none⟩) hg] at f2
      rw [← HB.out.cell (p := ⟨g, o + j * 4 + 3, none⟩) hg] at f3
      have hjL : j < L.length := by have := HM.out; omega
      have hsx := size_le_sizes (l := L) (j := j) hjL
      have hdx : depth (L.getD j default) ≤ depths L := depth_getD hjL
      obtain ⟨x, hx⟩ : ∃ x, x = L.getD j default := ⟨_, rfl⟩
      have HXD := Lib.hid hx
      have HDX := Lib.hid hdx
      rw [← hx] at f0 f1 f2 f3 hxx hbx hsx
      obtain ⟨xl, hxl⟩ : ∃ xl, xl = x.args.length := ⟨_, rfl⟩
      obtain ⟨xo, hxo⟩ : ∃ q, q = x.op := ⟨_, rfl⟩
      obtain ⟨xn, hxn⟩ : ∃ q, q = x.name := ⟨_, rfl⟩
      obtain ⟨xs, hxs⟩ : ∃ q, q = x.sort := ⟨_, rfl⟩
      have HQQ := Lib.hid (And.intro hxo (And.intro hxn (And.intro hxs hxl)))
      obtain ⟨V, hV⟩ : ∃ V, V = wr.alloc (.cells #[.int .i64 xo, .string (bstr xn), .int .i64 xs, .slice B2 xl cx] 26) := ⟨_, rfl⟩
      have hbV : Below wr.heap.size wr V := by rw [hV]; exact (Below.refl _ _).alloc (Nat.le_refl _) _
      have hxV := hxx.below (Nat.le_refl _) (HB.out.trans (hbV.mono HB.out.size))
      have HCY := Lib.hid (icopy_any x _ V hxV (by omega))
      have HBV := Lib.hid hbV
      unfold aggT at HCY
      rw [← hxo, ← hxn, ← hxs] at HCY
      rw [← hxl] at HCY f3
      rw [← hxo] at f0
      rw [← hxn] at f1
      rw [← hxs] at f2
      have i1 : (0 : Int) ≤ (j : Int) := by omega
      have i2 : (j : Int) < (m : Int) := by omega
      clear hNk hxx hbx hsx hdx hx hxl hxo hxn hxs hxV hbV hjL
      go_wp2_with fail
      rw [← hV]
      clear hV f0 f1 f2 f3
      refine HCY.out.mono ?_
      rintro e w5 ⟨v5, S5, rfl, hot, hb5⟩
      obtain ⟨A5, c5, rfl⟩ : ∃ A c, v5 = .slice A x.args.length c := by
        rw [depth_eq] at hot
        exact OT.shape hot
      have HOT := Lib.hid hot
      have HB5 := Lib.hid (HBV.out.trans (hb5.mono HBV.out.size))
      have HV5 := Lib.hid hb5
      have hz5 : w.heap.size < w5.heap.size := Nat.lt_of_lt_of_le hgw HB5.out.size
      have HOW := Lib.hid (own_below HS.out.own HB5.out)
      have HBA : Hid (∀ ob, Below w5.heap.size w5 (w5.alloc ob)) := Lib.hid (fun ob => (Below.refl _ _).alloc (Nat.le_refl _) ob)
      have HC9 : Hid (∀ y u, [Value.int .i64 xo, .string (bstr xn), .int .i64 xs, .slice A5 x.args.length c5][y]? = some u → (w5.alloc (.cells #[.int .i64 xo, .string (bstr xn), .int .i64 xs, .slice A5 x.args.length c5] 26)).cell? ((⟨w5.heap.size, 0, none⟩ : Addr).add y) = some u) := Lib.hid (by
        intro y u hy
        match y, hy with
        | 0, hy => simp at hy; subst hy; simp [Addr.add]
        | 1, hy => simp at hy; subst hy; simp [Addr.add]
        | 2, hy => simp at hy; subst hy; simp [Addr.add]
        | 3, hy => simp at hy; subst hy; simp [Addr.add])
      have HONE : Hid (∀ u ∈ [Value.int .i64 xo, .string (bstr xn), .int .i64 xs, .slice A5 x.args.length c5], u.oneCell' = true) := Lib.hid (by
        intro v hv
        simp at hv
        rcases hv with rfl | rfl | rfl | rfl <;> rfl)
      have HF : Hid (∀ w7 : World, w7.ownsRow w.heap.size 26 4 (.slice (some ⟨w.heap.size, 0, none⟩) (j + 1) m) (j + 1) (fours L Vs j ++ [Value.int .i64 xo, .string (bstr xn), .int .i64 xs, .slice A5 x.args.length c5]) → (w5.alloc (.cells #[.int .i64 xo, .string (bstr xn), .int .i64 xs, .slice A5 x.args.length c5] 26)).grownBy w7 (some w.heap.size) → (∃ Vs' Ss', SepI w.heap.size w.heap.size m (depths L) (j + 1) L Vs' Ss' w7) ∧ Below w.heap.size w w7) := Lib.hid (fun w7 h1 h2 => by
        refine ⟨HS.out.step (v := .slice A5 x.args.length c5) (S := S5) (w1 := w5) HDX.out ?_ HB5.out (HBA.out _) h2 ?_, ?_⟩
        · rw [← HXD.out]
          exact HOT.out.mono HBV.out.size
        · obtain ⟨e1, e2, e3, e4⟩ := HQQ.out
          unfold four
          rw [← HXD.out, ← e1, ← e2, ← e3]
          exact h1
        · exact ((HB.out.trans (HB5.out.mono HB.out.size)).trans ((HBA.out _).mono (by omega))).grown h2 (by simp; omega) (by intro k hk; cases hk; exact Nat.le_refl _))
      clear hot hb5
      go_wp2_with (at_builtin; refine wpList_append_own_spare _ rfl _ _ 24 rfl w.heap.size 26 j0 4 Try.underlying24 hij hy1 w.heap.size j m (fours L Vs j) rfl (own_below HOW.out (HBA.out _)) ⟨w5.heap.size, 0, none⟩ 1 1 _ rfl rfl HC9.out HONE.out (by omega) ?_; intro w7 hown7 hgr7)
      obtain ⟨⟨Vs', Ss', hS7⟩, hb7⟩ := HF.out w7 hown7 hgr7
      have HS7 := Lib.hid hS7
      have HB7 := Lib.hid hb7
      clear hown7 hgr7 hS7 hb7 HF HC9 HONE
      go_wp2
      go_roundw
      case rel => exact ⟨j + 1, Vs', Ss', by go_num, rfl, by omega, HS7, HB7⟩
      case measure => simp [intOf]; omega
    · obtain rfl : j = m := by omega
      go_wp2
      go_ret
      exact ⟨Vs, Ss, rfl, HS.out, HB.out⟩
set_option maxRecDepth 50000 in
set_option maxHeartbeats 4000000 in
/-- impl.SortTerms -/
theorem sortTerms_any {n lo : Nat} (L : List TermM) (v : Value) (w : World) (h : HasTs n lo w v L) (hsz : sizes L ≤ 1048576) : Calls Try.prog 9 #[v] w (SortTP L w) := by
  have HCO := Lib.hid (copyTerms_any L v w h hsz)
  have hll := sizes_len L
  obtain ⟨j, hm⟩ : ∃ m, m = L.length := ⟨_, rfl⟩
  have HM := Lib.hid hm
  have hj20 : j ≤ 1048576 := by omega
  have HH : Hid (HasTs (n + 1) lo w v L) := Lib.hid (h.up (Nat.le_succ n))
  rw [← hm] at HCO
  obtain ⟨A, c, rfl, _⟩ := HasR.shape h hm.symm
  clear h hm hll
  go_enter Try.func9, Try.ntmps9
  go_wp2_with fail
  refine HCO.out.mono ?_
  rintro e wr ⟨Vs, Ss, rfl, hS, hB⟩
  have HS := Lib.hid hS
  have HB := Lib.hid hB
  have hgw := (own_lt HS.out.own).2.1
  clear hS hB
  obtain ⟨d, hd1, hd2⟩ := elts HM.out HS.out (fun i hi => by
    obtain ⟨_, _, _, _, _, _, _, _, _, _, _, _, _, _, h⟩ := term_at HH.out hi
    exact h) hsz
  have hc := sort_any (N := depths L) (lo := w.heap.size + 1) (cap := j) (base := w.heap.size) wr d (Nat.lt_succ_self w.heap.size) (fours L Vs j) (by rw [hd1]; exact HS.out.own) (fun i hi => by
    rw [(hd2 i (by omega)).1, (hd2 i (by omega)).2]
    exact fours_at L Vs j i (by omega)) (by omega)
  rw [hd1] at hc
  have HSC := Lib.hid hc
  have HD := Lib.hid hd2
  clear hc hd2
  go_wp2_with fail
  refine HSC.out.mono ?_
  rintro e w2 ⟨rfl, d', xs', h1, h2, h3, h4, h5, h6⟩
  have HR : Hid (SortTP L w (.returned (.slice (some ⟨w.heap.size, 0, none⟩) j j)) w2) := Lib.hid (by
    obtain ⟨S, hS⟩ := sorted_row HM.out HS.out HD.out hd1 h1 h2 h3 h4 h5 h6
    exact ⟨_, S, rfl, hS, HB.out.trans (h6.below HB.out.size (fun q hq => by simp at hq; omega))⟩)
  clear h1 h2 h3 h4 h5 h6 HSC
  go_wp2
  go_ret
  exact HR.out
end Go.Proofs.Ytkkmjaggebjcbaa.termst
