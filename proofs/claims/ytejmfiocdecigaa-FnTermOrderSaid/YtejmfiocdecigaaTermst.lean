/-
  THE PROGRAM'S SortTerms: the loop that gives each element memory of its own, the sort, and the row that it leaves.
-/
import Derived.Test.YtejmfiocdecigaaTermpw
import Derived.Test.YtejmfiocdecigaaTermso
import Derived.Shelf.SlSortCmp.NoneTotal
namespace Go.Proofs.Ytejmfiocdecigaa.termst
open Go.ChangeShapes Go.WideShapes Go.ChangeAt Go.RowKit
open mem dec rowl trm trmv terml termb termt termx termz termro termsd termvx termcl termso termsp termpr termpw

theorem fours_ext {L : List TermM} {vs : Nat → Value} {m : Nat} {xs : List Value} (hl : xs.length = m * 4) (h : ∀ j, j < m → Cells4 xs j (L.getD j default) (vs j)) : xs = fours L vs m := by
  apply List.ext_getElem?
  intro p
  by_cases hp : p < m * 4
  · obtain ⟨a, b, c, d⟩ := h (p / 4) (by omega)
    obtain ⟨a', b', c', d'⟩ := fours_at L vs m (p / 4) (by omega)
    have hpm : p = p / 4 * 4 + p % 4 := by omega
    rw [hpm]
    match p % 4, (show p % 4 < 4 by omega) with
    | 0, _ => exact a.trans a'.symm
    | 1, _ => exact b.trans b'.symm
    | 2, _ => exact c.trans c'.symm
    | 3, _ => exact d.trans d'.symm
  · rw [List.getElem?_eq_none (by omega), List.getElem?_eq_none (by rw [fours_len]; omega)]
/-- the first i elements have memory of their own -/
structure SepI (B gR m cap D i : Nat) (L : List TermM) (vs Vs : Nat → Value) (Ss : Nat → List Nat) (wr : World) : Prop where
  own : wr.ownsRow B 26 4 (.slice (some ⟨gR, 0, none⟩) m cap) m (fours L Vs m)
  done : ∀ j, j < i → OT 26 D (gR + 1) wr (Vs j) (L.getD j default).args (Ss j)
  rest : ∀ j, i ≤ j → j < m → Vs j = vs j
  apart : ∀ j k, j < k → k < i → ∀ x ∈ Ss j, x ∉ Ss k
theorem SepI.step {B gR m cap D i : Nat} {L : List TermM} {vs Vs : Nat → Value} {Ss : Nat → List Nat} {wr w' : World} (h : SepI B gR m cap D i L vs Vs Ss wr) (hi : i < m) (hD : depth (L.getD i default) ≤ D)
    (hs : SepAny B wr gR i m cap (L.getD i default) (fours L Vs m) w') (hc : Chg [gR] wr w') : ∃ Vs' Ss', SepI B gR m cap D (i + 1) L vs Vs' Ss' w' := by
  obtain ⟨v', S, xs', ho, hsame, hat, hot, hg⟩ := hs
  have hgw := (own_lt h.own).2.1
  refine ⟨fun j => if j = i then v' else Vs j, fun j => if j = i then S else Ss j, ?_, fun j hj => ?_, fun j h1 h2 => ?_, fun j k h1 h2 x hx => ?_⟩
  · rw [← fours_ext (L := L) (vs := fun j => if j = i then v' else Vs j) (m := m) (xs := xs') ho.1 (fun j hj => ?_)]
    · exact ho
    · obtain ⟨a, b, c, d⟩ := fours_at L Vs m j hj
      refine ⟨(hsame _ (by omega)).trans a, (hsame _ (by omega)).trans b, (hsame _ (by omega)).trans c, ?_⟩
      by_cases hji : j = i
      · subst hji; simp only [if_pos]; exact hat
      · simp only [if_neg hji]; exact (hsame _ (by omega)).trans d
  · by_cases hji : j = i
    · subst hji
      simp only [if_pos]
      exact (OT_up hD hot).mono (by omega)
    · simp only [if_neg hji]
      have h1 := h.done j (by omega)
      exact h1.chg hc (fun k hk => by have := (h1.lt k hk).1; simp; omega)
  · simp only [if_neg (show ¬ j = i by omega)]
    exact h.rest j (by omega) h2
  · simp only [if_neg (show ¬ j = i by omega)] at hx
    have h3 := (h.done j (by omega)).lt x hx
    by_cases hk : k = i
    · subst hk
      simp only [if_pos]
      intro hm
      have := (hot.lt x hm).1
      omega
    · simp only [if_neg hk]
      exact h.apart j k h1 (by omega) x hx
/-- a permuted list of images comes from a permuted list -/
theorem perm_lift {α β : Type} (f : α → β) : ∀ (l : List β) (ds : List α), l.Perm (ds.map f) → ∃ ds' : List α, ds'.Perm ds ∧ ds'.map f = l
  | [], ds, h => by
    have : ds = [] := by simpa using h.symm.eq_nil
    exact ⟨[], by rw [this], rfl⟩
  | b :: l, ds, h => by
    have hb : b ∈ ds.map f := h.mem_iff.1 (by simp)
    obtain ⟨a, ha, rfl⟩ := List.mem_map.1 hb
    obtain ⟨s, u, rfl⟩ := List.append_of_mem ha
    have h2 : (f a :: l).Perm (f a :: (s ++ u).map f) := h.trans (by
      rw [List.map_append, List.map_cons, List.map_append]
      exact List.perm_middle)
    obtain ⟨ds', h3, h4⟩ := perm_lift f l (s ++ u) h2.cons_inv
    exact ⟨a :: ds', (h3.cons a).trans List.perm_middle.symm, by rw [List.map_cons, h4]⟩
/-- what SortTerms leaves: a sorted row of one's own -/
def SortTP (L : List TermM) (w : World) (e : Ending) (w' : World) : Prop := ∃ (v : Value) (S : List Nat), e = .returned v ∧ OT 26 (depths L + 1) w.heap.size w' v (sortM L) S ∧ Below w.heap.size w w'
theorem sorted_row {B gR m cap : Nat} {L : List TermM} {vs Vs : Nat → Value} {Ss : Nat → List Nat} {W W' : World} (hm : m = L.length) (h : SepI B gR m cap (depths L) m L vs Vs Ss W) {d d' : Array (Elt (depths L) (gR + 1) W)} {xs' : List Value}
    (hd : ∀ j, j < m → d[j]!.t = L.getD j default ∧ d[j]!.v = Vs j) (hsz : d.size = m) (hsz' : d'.size = m) (hp : d'.toList.Perm d.toList) (hs : ∀ i j, i < j → j < m → cmp d'[i]!.t d'[j]!.t ≤ 0)
    (ho : W'.ownsRow B 26 4 (.slice (some ⟨gR, 0, none⟩) m cap) m xs') (hx : ∀ j, j < m → Cells4 xs' j d'[j]!.t d'[j]!.v) (hc : Chg [gR] W W') :
    ∃ S, OT 26 (depths L + 1) B W' (.slice (some ⟨gR, 0, none⟩) m cap) (sortM L) S := by
  have hat : ∀ (d : Array (Elt (depths L) (gR + 1) W)) j (hj : j < d.size), d[j]! = d[j] := fun d j hj => getElem!_pos d j hj
  have hmap : d.toList.map (·.t) = L := by
    apply List.ext_getElem
    · simp [hsz, hm]
    · intro j h1 h2
      have := (hd j (by omega)).1
      rw [hat d j (by omega), getD_at h2] at this
      simpa using this
  have hL' : d'.toList.map (·.t) = sortM L := by
    refine sortM_unique ?_ ((hp.map (fun x => x.t)).trans (by rw [hmap]))
    refine List.pairwise_iff_getElem.2 (fun i j hi hj hij => ?_)
    have hi' : i < m := by simpa [hsz'] using hi
    have hj' : j < m := by simpa [hsz'] using hj
    have h1 := hs i j hij hj'
    rw [hat d' i (by omega), hat d' j (by omega)] at h1
    simpa using h1
  obtain ⟨ds', hp', hm'⟩ := perm_lift (fun j => (d[j]! : Elt (depths L) (gR + 1) W)) d'.toList (List.range m) (by
    have : (List.range m).map (fun j => (d[j]! : Elt (depths L) (gR + 1) W)) = d.toList := by
      apply List.ext_getElem
      · simp [hsz]
      · intro j h1 h2
        simp only [List.getElem_map, List.getElem_range]
        rw [hat d j (by simpa using h2)]
        simp
    rw [this]; exact hp)
  have hl' : ds'.length = m := by have := hp'.length_eq; simpa using this
  have hlt : ∀ j, j < m → ds'.getD j 0 < m := fun j hj => by
    rw [List.getD_eq_getElem?_getD, List.getElem?_eq_getElem (by omega), Option.getD_some]
    have := hp'.mem_iff.1 (List.getElem_mem (by omega : j < ds'.length))
    simpa using this
  have hdj : ∀ j, j < m → d'[j]! = d[ds'.getD j 0]! := fun j hj => by
    have h1 : d'.toList[j]? = some d'[j]! := by rw [hat d' j (by omega)]; simp [hsz', hj]
    rw [← hm', List.getElem?_map, List.getElem?_eq_getElem (by omega), Option.map_some] at h1
    injection h1 with h1
    rw [← h1, List.getD_eq_getElem?_getD, List.getElem?_eq_getElem (by omega), Option.getD_some]
  have hlen : (sortM L).length = m := by rw [← hL', List.length_map]; simp [hsz']
  have hget : ∀ j, j < m → (sortM L).getD j default = d'[j]!.t := fun j hj => by
    rw [getD_at (by omega), hat d' j (by omega)]
    simp [← hL']
  have hgl := (own_lt h.own).2.1
  have hflat : (List.range m).flatMap (fun j => Ss (ds'.getD j 0)) = ds'.flatMap Ss := by
    have : ds' = (List.range m).map (fun j => ds'.getD j 0) := by
      apply List.ext_getElem
      · simp [hl']
      · intro j h1 h2
        simp [h1]
    conv => rhs; rw [this]
    rw [List.flatMap_map]
  have hnd : ((List.range m).flatMap Ss).Nodup := by
    refine List.pairwise_flatMap.2 ⟨fun j hj => (h.done j (by simpa using hj)).nodup, ?_⟩
    refine List.pairwise_iff_getElem.2 (fun i j hi hj hij => ?_)
    simp only [List.getElem_range]
    intro x hx y hy e
    exact h.apart i j hij (by simpa using hj) x hx (e ▸ hy)
  refine ⟨gR :: ds'.flatMap Ss, xs', fun j => d'[j]!.v, fun j => Ss (ds'.getD j 0), by rw [hlen]; exact ho, by rw [hlen, hflat]; rfl, List.nodup_cons.2 ⟨fun hmem => ?_, ?_⟩, fun j hj => ?_⟩
  · obtain ⟨j, hj, hx⟩ := List.mem_flatMap.1 hmem
    have hj' : j < m := by simpa using hp'.mem_iff.1 hj
    have := ((h.done j hj').lt gR hx).1
    omega
  · exact (hp'.flatMap_right Ss).nodup_iff.2 hnd
  · have hj' : j < m := by omega
    rw [hget j hj']
    obtain ⟨a, b, c, e⟩ := hx j hj'
    refine ⟨⟨a, b, c, e⟩, d'[j]!.b, ?_⟩
    show OT _ _ _ _ d'[j]!.v d'[j]!.t.args (Ss (ds'.getD j 0))
    rw [hdj j hj', (hd _ (hlt j hj')).1, (hd _ (hlt j hj')).2]
    have h1 := h.done _ (hlt j hj')
    exact (h1.chg hc (fun k hk => by have := (h1.lt k hk).1; simp; omega)).mono (by have := (own_lt h.own).1; omega)
theorem elts {B gR m cap : Nat} {L : List TermM} {vs Vs : Nat → Value} {Ss : Nat → List Nat} {W : World} (hm : m = L.length) (h : SepI B gR m cap (depths L) m L vs Vs Ss W) (hb : ∀ j, j < m → Bnd (L.getD j default)) (hsz : sizes L ≤ 1048576) :
    ∃ d : Array (Elt (depths L) (gR + 1) W), d.size = m ∧ ∀ j, j < m → d[j]!.t = L.getD j default ∧ d[j]!.v = Vs j := by
  refine ⟨Array.ofFn (n := m) fun j => ⟨L.getD j.1 default, Vs j.1, (h.done j.1 j.2).has, hb j.1 j.2, ?_⟩, by simp, fun j hj => ?_⟩
  · have h1 := size_le_sizes (l := L) (j := j.1) (by omega)
    have h2 := size_eq (L.getD j.1 default)
    omega
  · rw [getElem!_pos _ j (by simpa using hj)]
    simp
set_option maxRecDepth 50000 in
set_option maxHeartbeats 2000000 in
/-- impl.SortTerms -/
theorem sortTerms_any {n lo : Nat} (L : List TermM) (v : Value) (w : World) (h : HasTs n lo w v L) (hsz : sizes L ≤ 1048576) : Calls Try.prog 12 #[v] w (SortTP L w) := by
  have hll := sizes_len L
  have HC := Lib.hid (clone_any (wl := w) (w := w) (Below.refl _ _) (h.up (Nat.le_succ n)) (by omega))
  clear h
  go_enter Try.func12, Try.ntmps12
  go_wp2_with fail
  refine HC.out.mono ?_
  rintro e w1 ⟨v1, vs, rfl, ho, hvs, hb1⟩
  clear HC
  rcases ho.2 with ⟨rfl, h0⟩ | ⟨gR, cap, cur, rfl, hgl, _, hmc, _⟩
  · have HR : Hid (SortTP L w (.returned (.slice none 0 0)) w1) := Lib.hid (by
      have hL : L = [] := List.eq_nil_of_length_eq_zero h0
      refine ⟨_, [], rfl, ?_, hb1⟩
      have : sortM L = [] := by rw [hL]; rfl
      rw [this]
      exact OT.nil _ _ _ _)
    clear ho hvs hb1
    go_wp2
    go_loopw [9] (fun v9 wr => v9 = .int .i64 0 ∧ wr = w1) (fun _ _ => 0)
    case atStart => exact ⟨rfl, rfl⟩
    case round =>
      obtain ⟨rfl, rfl⟩ := hrel
      go_wp2_with fail
      refine (AnyF.slices_SortFunc_none termsl.sortT none 0 _ _).mono ?_
      rintro e w2 ⟨rfl, rfl⟩
      go_wp2
      go_ret
      exact HR.out
  · obtain ⟨m, hm⟩ : ∃ m, m = L.length := ⟨_, rfl⟩
    have HV : Hid (∀ j, j < m → HasTs n lo w (vs j) (L.getD j default).args ∧ Bnd (L.getD j default)) := Lib.hid (fun j hj => hvs j (by omega))
    have HS0 : Hid (SepI w.heap.size gR m cap (depths L) 0 L vs vs (fun _ => []) w1) := Lib.hid ⟨by rw [hm]; exact ho, fun j hj => by omega, fun _ _ _ => rfl, fun _ _ _ hk => by omega⟩
    have HB1 := Lib.hid hb1
    have HM := Lib.hid hm
    have hm30 : m ≤ 1048576 := by omega
    rw [← hm]
    rw [← hm] at hmc
    clear ho hvs hb1 hm
    go_wp2
    go_loopw [9] (fun v9 wr => ∃ (j : Nat) (Vs : Nat → Value) (Ss : Nat → List Nat), v9 = .int .i64 j ∧ j ≤ m ∧ Hid (SepI w.heap.size gR m cap (depths L) j L vs Vs Ss wr) ∧ Hid (Below w.heap.size w wr)) (fun i _ => m - (intOf i).toNat)
    case atStart => exact ⟨0, vs, fun _ => [], rfl, Nat.zero_le _, HS0, HB1⟩
    case round =>
      obtain ⟨j, Vs, Ss, rfl, hj, HS, HBL⟩ := hrel
      by_cases hlt : j < m
      · have hi1 : (0 : Int) ≤ (j : Int) := by omega
        have hi2 : (j : Int) < (m : Int) := by omega
        go_wp2_with fail
        refine (sep_any (N := n) (lo := lo) w wr gR j m cap (L.getD j default) (Vs j) (fours L Vs m) HBL.out (Nat.le_refl _) hgl HS.out.own hlt (fours_at L Vs m j hlt).2.2.2 (by rw [HS.out.rest j (Nat.le_refl _) hlt]; exact (HV.out j hlt).1) (by have := size_le_sizes (l := L) (j := j) (by have := HM.out; omega); omega)).mono ?_
        rintro e w2 ⟨rfl, hsa, hch, hbl2⟩
        obtain ⟨Vs', Ss', hS'⟩ := HS.out.step hlt (depth_getD (by have := HM.out; omega)) hsa hch
        have HS2 := Lib.hid hS'
        have HB2 := Lib.hid hbl2
        clear hsa hch hbl2 hS'
        go_wp2
        go_roundw
        case rel => exact ⟨j + 1, Vs', Ss', by go_num, by omega, HS2, HB2⟩
        case measure => simp [intOf]; omega
      · obtain rfl : j = m := by omega
        obtain ⟨d, hd1, hd2⟩ := elts HM.out HS.out (fun i hi => (HV.out i hi).2) hsz
        have hc := sort_any (N := depths L) (lo := gR + 1) (cap := cap) (base := w.heap.size) wr d (Nat.lt_succ_self gR) (fours L Vs j) (by rw [hd1]; exact HS.out.own) (fun i hi => by
          rw [(hd2 i (by omega)).1, (hd2 i (by omega)).2]
          exact fours_at L Vs j i (by omega)) (by omega)
        rw [hd1] at hc
        have HSC := Lib.hid hc
        have HD := Lib.hid hd2
        clear hc hd2
        go_wp2_with fail
        refine HSC.out.mono ?_
        rintro e w2 ⟨rfl, d', xs', h1, h2, h3, h4, h5, h6⟩
        have HR : Hid (SortTP L w (.returned (.slice (some ⟨gR, 0, none⟩) j cap)) w2) := Lib.hid (by
          obtain ⟨S, hS⟩ := sorted_row HM.out HS.out HD.out hd1 h1 h2 h3 h4 h5 h6
          exact ⟨_, S, rfl, hS, HBL.out.trans (h6.below HBL.out.size (fun q hq => by simp at hq; omega))⟩)
        clear h1 h2 h3 h4 h5 h6 HSC
        go_wp2
        go_ret
        exact HR.out
end Go.Proofs.Ytejmfiocdecigaa.termst
