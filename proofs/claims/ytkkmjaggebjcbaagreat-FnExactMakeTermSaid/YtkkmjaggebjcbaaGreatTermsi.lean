/-
 THE MODEL'S SortTerms.
-/
import Derived.Test.YtkkmjaggebjcbaaGreatTermlc
import Derived.Test.YtkkmjaggebjcbaaGreatPk07
namespace Go.Proofs.YtkkmjaggebjcbaaGreat.termsi
open Go.ChangeShapes Go.WideShapes Go.ChangeAt Go.RowKit
open mem rowl trm trmv terml termb termt termu termv termx termro rowg termlc

abbrev d0 : TermM × Value := (default, undef)
def enc4 (p : TermM × Value) : List Value := [.int .i64 p.1.op, .string (bstr p.1.name), .int .i64 p.1.sort, p.2]
def fourP (es : List (TermM × Value)) : List Value := es.flatMap enc4
theorem fourP_len : ∀ es, (fourP es).length = es.length * 4
 | [] => rfl
 | a :: l => by show (enc4 a ++ fourP l).length = _; rw [List.length_append, fourP_len l]; simp [enc4]; omega
theorem fourP_append (l m : List (TermM × Value)) : fourP (l ++ m) = fourP l ++ fourP m := by simp [fourP]
theorem fourP_at : ∀ (es : List (TermM × Value)) (j : Nat), j < es.length → Cells4 (fourP es) j (es.getD j d0).1 (es.getD j d0).2
 | [], j, h => by simp at h
 | a :: l, 0, _ => ⟨rfl, rfl, rfl, rfl⟩
 | a :: l, j + 1, h => by
  have hj : j < l.length := by simpa using h
  obtain ⟨e0, e1, e2, e3⟩ := fourP_at l j hj
  have k : ∀ q, (fourP (a :: l))[(j + 1) * 4 + q]? = (fourP l)[j * 4 + q]? := fun q => by
   show (enc4 a ++ fourP l)[(j + 1) * 4 + q]? = _
   rw [List.getElem?_append_right (by simp [enc4]; omega)]
   congr 1
   simp [enc4]; omega
  rw [List.getD_cons_succ]
  exact ⟨(k 0).trans e0, (k 1).trans e1, (k 2).trans e2, (k 3).trans e3⟩
theorem fourP_take : ∀ (es : List (TermM × Value)) (k : Nat), (fourP es).take (k * 4) = fourP (es.take k)
 | [], k => by simp [fourP]
 | a :: l, 0 => by simp [fourP]
 | a :: l, k + 1 => by
  show (enc4 a ++ fourP l).take ((k + 1) * 4) = enc4 a ++ fourP (l.take k)
  rw [← fourP_take l k, List.take_append, List.take_of_length_le (by simp [enc4]; omega)]
  congr 2
  simp [enc4]; omega
theorem fourP_drop : ∀ (es : List (TermM × Value)) (k : Nat), (fourP es).drop (k * 4) = fourP (es.drop k)
 | [], k => by simp [fourP]
 | a :: l, 0 => by simp
 | a :: l, k + 1 => by
  show (enc4 a ++ fourP l).drop ((k + 1) * 4) = fourP (l.drop k)
  rw [← fourP_drop l k, List.drop_append, List.drop_of_length_le (by simp [enc4]; omega), List.nil_append]
  congr 1
  simp [enc4]; omega
/-- an element: its arguments are read in w -/
def El (n lo : Nat) (w : World) (p : TermM × Value) : Prop := HasTs n lo w p.2 p.1.args ∧ Bnd p.1
theorem fourP_one {n lo : Nat} {w : World} : ∀ {es : List (TermM × Value)}, (∀ p ∈ es, El n lo w p) → ∀ x ∈ fourP es, x.oneCell' = true
 | [], _, x, hx => by simp [fourP] at hx
 | a :: l, h, x, hx => by
  have hx' : x ∈ enc4 a ++ fourP l := hx
  rcases List.mem_append.1 hx' with hx | hx
  ·obtain ⟨A, c, e, _⟩ := HasR.shape (h a (by simp)).1 rfl
   simp only [enc4, List.mem_cons, List.not_mem_nil, or_false] at hx
   rcases hx with rfl | rfl | rfl | rfl
   ·rfl
   ·rfl
   ·rfl
   ·rw [e]; rfl
  ·exact fourP_one (fun p hp => h p (by simp [hp])) x hx
/-- the row of the elements reads as their terms -/
theorem fourP_has {n lo b g cap m : Nat} {w wr : World} {es : List (TermM × Value)} (hm : m = es.length) (h : ∀ p ∈ es, El n lo w p) (hb : Below w.heap.size w wr) (ho : wr.ownsRow b 34 4 (.slice (some ⟨g, 0, none⟩) m cap) m (fourP es)) :
  HasTs (n + 1) 0 wr (.slice (some ⟨g, 0, none⟩) m cap) (es.map (·.1)) := by
 have ho0 : wr.ownsRow 0 34 4 (.slice (some ⟨g, 0, none⟩) m cap) m (fourP es) := by
  refine ⟨ho.1, ?_⟩
  rcases ho.2 with h2 | ⟨g', cap', cur, hv, hg, r⟩
  ·exact .inl h2
  ·exact .inr ⟨g', cap', cur, hv, Nat.zero_le _, r⟩
 refine HasR.of_own ho0 (by simp [hm]) (fun j hj => ?_)
 have hjl : j < es.length := by omega
 obtain ⟨e0, e1, e2, e3⟩ := fourP_at es j hjl
 have e : (es.map (·.1)).getD j default = (es.getD j d0).1 := by
  rw [List.getD_eq_getElem?_getD, List.getD_eq_getElem?_getD, List.getElem?_map, List.getElem?_eq_getElem hjl]; rfl
 have he := h (es.getD j d0) (by rw [List.getD_eq_getElem?_getD, List.getElem?_eq_getElem hjl]; exact List.getElem_mem _)
 rw [e]
 refine ⟨enc4 (es.getD j d0), fun i hi => ?_, (es.getD j d0).2, rfl, HasR.mono (RT_steady _) (he.1.below (Nat.le_refl _) hb) (Nat.zero_le _), he.2.1, he.2.2.1, he.2.2.2⟩
 match i, hi with
 | 0, _ => exact e0
 | 1, _ => exact e1
 | 2, _ => exact e2
 | 3, _ => exact e3
abbrev S4n (w : World) (g o : Nat) (a b c e : Value) (w' : World) : Prop := (w'.cell? ⟨g, o, none⟩ = some a ∧ w'.cell? ⟨g, o + 1, none⟩ = some b ∧ w'.cell? ⟨g, o + 2, none⟩ = some c ∧ w'.cell? ⟨g, o + 3, none⟩ = some e) ∧ Below w.heap.size w w'
theorem S4n.next {w : World} {g o : Nat} {a b c e : Value} {w0 w1 : World} (h : S4n w g o a b c e w0) (hg : g < w.heap.size) (hb : Below w.heap.size w0 w1) : S4n w g o a b c e w1 := by
 have k : ∀ z, w1.cell? ⟨g, z, none⟩ = w0.cell? ⟨g, z, none⟩ := fun z => hb.cell (p := ⟨g, z, none⟩) hg
 unfold S4n
 rw [k, k, k, k]
 exact ⟨h.1, h.2.trans hb⟩
theorem S4n.al {w : World} {g o : Nat} {a b c e : Value} {w0 : World} (h : S4n w g o a b c e w0) (hg : g < w.heap.size) {ob : Obj} : S4n w g o a b c e (w0.alloc ob) := h.next hg ((Below.refl _ _).alloc h.2.size ob)
theorem S4n.ald {w : World} {g o : Nat} {a b c e : Value} {w0 : World} (h : S4n w g o a b c e w0.drew) (hg : g < w.heap.size) {ob : Obj} : S4n w g o a b c e (w0.alloc ob).drew := h.next hg ((Below.refl _ w0.drew).alloc h.2.size ob)
/-- the elements put in so far -/
structure SI (n lo : Nat) (w : World) (L : List TermM) (i g cap : Nat) (es : List (TermM × Value)) (wr : World) : Prop where
 len : i = es.length
 own : wr.ownsRow w.heap.size 34 4 (.slice (some ⟨g, 0, none⟩) i cap) i (fourP es)
 below : Below w.heap.size w wr
 el : ∀ p ∈ es, El n lo w p
 perm : (es.map (·.1)).Perm (L.take i)
 srt : Srt (es.map (·.1))
theorem map_at {es : List (TermM × Value)} {j : Nat} (h : j < es.length) : (es.map (·.1)).getD j default = (es.getD j d0).1 := by
 rw [List.getD_eq_getElem?_getD, List.getD_eq_getElem?_getD, List.getElem?_map, List.getElem?_eq_getElem h]; rfl
theorem SI.next {n lo : Nat} {w : World} {L : List TermM} {i g cap : Nat} {es : List (TermM × Value)} {wr w9 : World} {u : TermM} {vu : Value} {k g9 cap9 : Nat} (h : SI n lo w L i g cap es wr) (hu : u = L.getD i default) (hi : i < L.length) (hEl : El n lo w (u, vu)) (hk : k ≤ i)
  (h1 : ∀ j, k ≤ j → j < i → 0 < cmp (es.getD j d0).1 u) (h2 : 0 < k → ¬ 0 < cmp (es.getD (k - 1) d0).1 u) (hb : Below w.heap.size w w9)
  (ho : w9.ownsRow w.heap.size 34 4 (.slice (some ⟨g9, 0, none⟩) (i + 1) cap9) (i + 1) (fourP (es.take k) ++ enc4 (u, vu) ++ fourP (es.drop k))) : ∃ es', SI n lo w L (i + 1) g9 cap9 es' w9 := by
 have hl := h.len
 obtain ⟨s1, s2⟩ := srt_put (l := es.map (·.1)) (t := u) (k := k) h.srt (by simp; omega) (fun j hj1 hj2 => by
  have hj : j < es.length := by simpa using hj2
  rw [map_at hj]; exact h1 j hj1 (by omega)) (fun hk0 => by rw [map_at (by omega)]; exact h2 hk0)
 have em : (es.take k ++ (u, vu) :: es.drop k).map (·.1) = (es.map (·.1)).take k ++ u :: (es.map (·.1)).drop k := by simp
 refine ⟨es.take k ++ (u, vu) :: es.drop k, ?_, ?_, hb, fun p hp => ?_, ?_, by rw [em]; exact s1⟩
 ·simp; omega
 ·rw [fourP_append, show fourP ((u, vu) :: es.drop k) = enc4 (u, vu) ++ fourP (es.drop k) from rfl, ← List.append_assoc]; exact ho
 ·rcases List.mem_append.1 hp with hp | hp
  ·exact h.el p (List.mem_of_mem_take hp)
  ·rcases List.mem_cons.1 hp with rfl | hp
   ·exact hEl
   ·exact h.el p (List.mem_of_mem_drop hp)
 ·rw [em, List.take_succ_eq_append_getElem hi, ← getD_at hi, ← hu]
  exact s2.trans ((h.perm.cons u).trans (List.perm_append_comm (l₁ := [u])))
/-- where a slice from the k-th on lies -/
theorem slice_from (g i cap k : Nat) (hk : k ≤ i) (hi : i ≤ cap) : ∃ q, (∀ W, (Instr.sliceAt 32 (.slice (some ⟨g, 0, none⟩) i cap) (some (.int .i64 k)) none none).run Tryz.prog W = .ok (.slice (some ⟨g, q, none⟩) (i - k) (cap - k)) W) ∧ (k < i → q = k * 4) := by
 have hel : Tryz.prog.elem 32 = 34 := by kernel_rfl
 have hsl : Tryz.prog.underlying 32 = some (.slice (Tryz.prog.elem 32)) := by rw [hel]; exact Tryz.underlying32
 obtain ⟨i0, hinf, hz0, hz1, hz2⟩ := info_parts info_term
 have hcs : Tryz.prog.cellsOf 34 = 4 := by kernel_rfl
 have hrun : ∀ W, (Instr.sliceAt 32 (.slice (some ⟨g, 0, none⟩) i cap) (some (.int .i64 k)) none none).run Tryz.prog W = .ok (sliced (some ⟨g, 0, none⟩) k i cap 4) W := fun W => by
  rw [run_sliceAt_slice W _ _ _ _ _ hsl, run_slice_l W _ _ _ _ hsl .i64 k (by omega) (by omega), hel, run_sizeOf W hinf, hcs]
  rfl
 by_cases hc : cap = k
 ·exact ⟨0, fun W => by rw [hrun W, sliced, if_pos hc], fun h => by omega⟩
 ·exact ⟨k * 4, fun W => by rw [hrun W, sliced, if_neg hc]; simp only [Option.map_some, Addr.add_lit, Nat.zero_add], fun _ => rfl⟩
/-- where a slice up to the k-th lies -/
theorem slice_to (g i cap k : Nat) (hk : k ≤ cap) : ∀ W, (Instr.sliceAt 32 (.slice (some ⟨g, 0, none⟩) i cap) none (some (.int .i64 k)) none).run Tryz.prog W = .ok (.slice (some ⟨g, 0, none⟩) k cap) W := by
 have hel : Tryz.prog.elem 32 = 34 := by kernel_rfl
 have hsl : Tryz.prog.underlying 32 = some (.slice (Tryz.prog.elem 32)) := by rw [hel]; exact Tryz.underlying32
 obtain ⟨i0, hinf, hz0, hz1, hz2⟩ := info_parts info_term
 have hcs : Tryz.prog.cellsOf 34 = 4 := by kernel_rfl
 have hrun : ∀ W, (Instr.sliceAt 32 (.slice (some ⟨g, 0, none⟩) i cap) none (some (.int .i64 k)) none).run Tryz.prog W = .ok (sliced (some ⟨g, 0, none⟩) 0 k cap 4) W := fun W => by
  rw [run_sliceAt_slice W _ _ _ _ _ hsl, run_slice_h W _ _ _ _ hsl .i64 k (by omega) (by omega), hel, run_sizeOf W hinf, hcs]
  rfl
 intro W
 rw [hrun W, sliced]
 by_cases hc : cap = 0
 ·rw [if_pos hc]; rfl
 ·rw [if_neg hc]; rfl
/-- the elements from the k-th on, as a source -/
theorem src_dropP {W W' : World} {b g cap i k q : Nat} {es : List (TermM × Value)} (h : W.ownsRow b 34 4 (.slice (some ⟨g, 0, none⟩) i cap) i (fourP es)) (hi : i = es.length) (hq : k < i → q = k * 4) (hb : Below W.heap.size W W') : ∀ (j : Nat) (x : Value), (fourP (es.drop k))[j]? = some x → W'.cell? ((⟨g, q, none⟩ : Addr).add j) = some x := by
 intro j x hx
 rw [← fourP_drop, List.getElem?_drop] at hx
 have hlt : k * 4 + j < i * 4 := by have := (List.getElem?_eq_some_iff.1 hx).1; rw [fourP_len] at this; omega
 have := (own_below h hb).cellAt (k * 4 + j) hlt
 rw [hx] at this
 rw [Addr.add_lit, hq (by omega)]
 exact this
theorem src_row {W : World} {b g cap i : Nat} {xs : List Value} (h : W.ownsRow b 34 4 (.slice (some ⟨g, 0, none⟩) i cap) i xs) : ∀ (j : Nat) (x : Value), xs[j]? = some x → W.cell? ((⟨g, 0, none⟩ : Addr).add j) = some x := by
 intro j x hx
 have hlt : j < i * 4 := by have := (List.getElem?_eq_some_iff.1 hx).1; rw [h.1] at this; exact this
 have := h.cellAt j hlt
 rw [hx] at this
 rw [Addr.add_lit, Nat.zero_add]
 exact this
theorem own_lt {w : World} {base n g cap : Nat} {e : TypeId} {size : Nat} {xs : List Value} (h : w.ownsRow base e size (.slice (some ⟨g, 0, none⟩) n cap) n xs) : base ≤ g ∧ g < w.heap.size ∧ n ≤ cap := by
 rcases h.2 with ⟨hv, _⟩ | ⟨g', cap', cur, hv, hb, hg, hc, _⟩
 ·cases hv
 ·simp only [Value.slice.injEq, Option.some.injEq, Addr.mk.injEq, and_true, true_and] at hv
  obtain ⟨rfl, rfl⟩ := hv
  exact ⟨hb, (Array.getElem?_eq_some_iff.1 hg).1, hc⟩
/-- what the model's sort leaves -/
def SSortP (n : Nat) (L : List TermM) (w : World) (e : Ending) (w' : World) : Prop := ∃ v', e = .returned v' ∧ HasTs (n + 1) w.heap.size w' v' (sortM L) ∧ Below w.heap.size w w'
set_option maxRecDepth 50000 in
set_option maxHeartbeats 8000000 in
theorem ssort_any {n lo : Nat} (L : List TermM) (v : Value) (w : World) (h : HasTs (n + 1) lo w v L) (hsz : sizes L ≤ 1048576) : Calls Tryz.prog 77 #[v] w (SSortP n L w) := by
 obtain ⟨A, c, rfl, h⟩ := HasR.shape h rfl
 obtain ⟨j0, hij, hy0, hy1, hy2⟩ := info_parts info_term
 have hll := sizes_len L
 obtain ⟨m, hm⟩ : ∃ m, m = L.length := ⟨_, rfl⟩
 rw [← hm] at h ⊢
 have hm30 : m ≤ 1048576 := by omega
 have HM := Lib.hid hm
 have HEL : Hid (∀ j, j < m → ∃ (g o : Nat) (A2 : Option Addr) (c2 : Nat), A = some ⟨g, o, none⟩ ∧ g < w.heap.size ∧ w.cell? ⟨g, o + j * 4, none⟩ = some (.int .i64 (L.getD j default).op) ∧ w.cell? ⟨g, o + j * 4 + 1, none⟩ = some (.string (bstr (L.getD j default).name)) ∧
   w.cell? ⟨g, o + j * 4 + 2, none⟩ = some (.int .i64 (L.getD j default).sort) ∧ w.cell? ⟨g, o + j * 4 + 3, none⟩ = some (.slice A2 (L.getD j default).args.length c2) ∧ El n lo w (L.getD j default, .slice A2 (L.getD j default).args.length c2)) := Lib.hid (by
  intro j hj
  obtain ⟨k, g, o, A2, c2, h0, h1, _, h2, h3, h4, h5, h6, h7, h8⟩ := term_at h hj
  obtain rfl : n = k := by omega
  exact ⟨g, o, A2, c2, h1, h2, h3, h4, h5, h6, h7, h8⟩)
 have HFIN : Hid (∀ (g cap : Nat) (es : List (TermM × Value)) (wr : World), SI n lo w L m g cap es wr → Calls Tryz.prog 78 #[.slice (some ⟨g, 0, none⟩) m cap] wr (SSortP n L w)) := Lib.hid (by
  intro g cap es wr hs
  have hp : (es.map (·.1)).Perm L := by
   have := hs.perm
   rwa [hm, List.take_length] at this
  have e : es.map (·.1) = sortM L := sortM_unique hs.srt hp
  have hh := fourP_has hs.len hs.el hs.below hs.own
  rw [e] at hh
  have hszs : sizes (sortM L) ≤ 1048576 := by
   rw [← e]
   have : sizes (es.map (·.1)) = sizes L := by
    unfold sizes
    exact (hp.map _).sum_nat
   omega
  refine (copies_any _ _ wr hh hszs).mono ?_
  rintro e w' ⟨v', rfl, h1, h2⟩
  exact ⟨v', rfl, HasR.mono (RT_steady _) h1 hs.below.size, hs.below.trans (h2.mono hs.below.size)⟩)
 clear h hsz hll hm
 go_enter Tryz.func77, Tryz.ntmps77
 have HS0 : Hid (SI n lo w L 0 w.heap.size 0 [] (w.alloc (.cells #[] 34))) := Lib.hid ⟨rfl, World.ownsRow_lit (e := 34) (size := 4) w #[] 0 (Nat.le_refl _) (by unfold maxLen; omega) rfl, (Below.refl _ _).alloc (Nat.le_refl _) _, fun p hp => by simp at hp, by simp, List.Pairwise.nil⟩
 go_wp2_with fail
 go_loopw [3, 4] (fun v3 v4 wr => ∃ (i g cap : Nat) (es : List (TermM × Value)), v3 = .slice (some ⟨g, 0, none⟩) i cap ∧ v4 = .int .i64 i ∧ i ≤ m ∧ Hid (SI n lo w L i g cap es wr)) (fun _ i _ => m - (intOf i).toNat)
 case atStart => exact ⟨0, w.heap.size, 0, [], rfl, rfl, Nat.zero_le _, HS0⟩
 case round =>
  obtain ⟨i, g, cap, es, rfl, rfl, hi, HSI⟩ := hrel
  by_cases hlt : i < m
  ·obtain ⟨gL, oL, A2, c2, rfl, hgw, e0, e1, e2, e3, hEl⟩ := HEL.out i hlt
   obtain ⟨u, hu⟩ : ∃ u, u = L.getD i default := ⟨_, rfl⟩
   rw [← hu] at e0 e1 e2 e3 hEl
   have HU := Lib.hid hu
   have HE := Lib.hid hEl
   have HLEN := Lib.hid HSI.out.len
   obtain ⟨hbg, hgw2, hic⟩ := own_lt HSI.out.own
   have hbw := HSI.out.below
   have hzw := hbw.size
   have HS4 : Hid (S4n w gL (oL + i * 4) (.int .i64 u.op) (.string (bstr u.name)) (.int .i64 u.sort) (.slice A2 u.args.length c2) wr) := Lib.hid (S4n.next ⟨⟨e0, e1, e2, e3⟩, Below.refl _ _⟩ hgw hbw)
   have hi1 : (0 : Int) ≤ (i : Int) := by omega
   have hi2 : (i : Int) < (m : Int) := by omega
   have hltL : i < L.length := by have := HM.out; omega
   clear e0 e1 e2 e3 hEl hbw hu
   obtain ⟨wo, hwo⟩ : ∃ wo, wo = wr := ⟨wr, rfl⟩
   subst hwo
   go_wp2
   go_loopw [5] (fun v5 wr => ∃ k : Nat, v5 = .int .i64 k ∧ k ≤ i ∧ Hid (∀ j, k ≤ j → j < i → 0 < cmp (es.getD j d0).1 u) ∧ Hid (Below wo.heap.size wo wr)) (fun k _ => (intOf k).toNat)
   case atStart => exact ⟨i, rfl, Nat.le_refl _, Lib.hid (fun j h1 h2 => by omega), Lib.hid (Below.refl _ _)⟩
   case round =>
    obtain ⟨k, rfl, hk, HJ, HBW⟩ := hrel
    have HS4r := Lib.hid (HS4.out.next hgw (HBW.out.mono hzw))
    have HOr := Lib.hid (own_below HSI.out.own HBW.out)
    have hzr := HBW.out.size
    have nb : Nonempty (BoxC (Below wr.heap.size wr)) := ⟨⟨_, Below.refl _ _⟩⟩
    by_cases hk0 : k ≤ 0
    ·have d1 : decide ((0 : Int) < (k : Int)) = false := decide_eq_false (by omega)
     have d3 : decide (0 < k) = false := decide_eq_false (by omega)
     have d4 : ¬ 0 < k := by omega
     have HN2 : Hid (0 < k → ¬ 0 < cmp (es.getD (k - 1) d0).1 u) := Lib.hid (fun h => by omega)
     go_wp2_with fail
     refine region_boxC (C := Below wr.heap.size wr) (by kernel_rfl) (by kernel_rfl) (Below.refl _ _).drew ?_
     repeat (go_big_quiet_step (fail))
     refine wpQuiet_nil ?_
     rintro w5 ⟨t5, rfl⟩
     have HB6 : Hid (Below wo.heap.size wo t5.W) := Lib.hid (HBW.out.trans (t5.h.mono hzr))
     clear d1 d3 nb
     clear HBW HS4r HOr
     generalize t5.W = W6 at HB6 ⊢
     obtain ⟨q, hsl, hq⟩ := slice_from g i cap k hk hic
     have hsl2 := slice_to g i cap k (by omega)
     have HQ := Lib.hid hq
     have HS6 := Lib.hid (HS4.out.next hgw (HB6.out.mono hzw))
     have HO6 := Lib.hid (own_below HSI.out.own HB6.out)
     have hz6 := HB6.out.size
     have HLT : Hid ((fourP (es.take k)).length = k * 4) := Lib.hid (by rw [fourP_len, List.length_take]; have := HLEN.out; omega)
     have HLD : Hid ((fourP (es.drop k)).length = (i - k) * 4) := Lib.hid (by rw [fourP_len, List.length_drop, ← HLEN.out])
     have hik : (0 : Int) ≤ (k : Int) := by omega
     have hikn : (k : Int) ≤ (i : Int) := by omega
     have hikc : (k : Int) ≤ (cap : Int) := by omega
     clear hq
     go_wp2_with (at_builtin; refine wpList_append_d rfl _ _ _ rfl W6.heap.size 34 j0 _ 4 56 Tryz.underlying32 hij hy0 hy1 hy2 rfl (by omega) W6.heap.size 0 0 [] rfl (World.ownsRow_lit (e := 34) (size := 4) W6 #[] 0 (Nat.le_refl _) (by unfold maxLen; omega) rfl) ⟨g, q, none⟩ (i - k) (cap - k) (fourP (es.drop k)) rfl HLD.out (src_dropP HO6.out HLEN.out HQ.out ((Below.refl _ _).alloc (Nat.le_refl _) _)) (fourP_one (fun p hp => HSI.out.el p (List.mem_of_mem_drop hp))) (by unfold maxLen; omega) (by omega) (by simp) ?_; intro g4 cap4 w7 hown hgr hg4 hlt4 hdr4)
     rw [List.nil_append, Nat.zero_add] at hown
     have hb67 : Below W6.heap.size W6 w7 := ((Below.refl W6.heap.size W6).alloc (Nat.le_refl _) _).grown hgr (by simp) (by intro x hx; cases hx; exact Nat.le_refl _)
     have HG4 : Hid (W6.heap.size ≤ g4 ∧ g4 < w7.heap.size) := Lib.hid ⟨(termsi.own_lt hown).1, hlt4⟩
     have HRE := Lib.hid hown
     have HB7 : Hid (Below w.heap.size w w7) := Lib.hid ((HSI.out.below.trans (HB6.out.mono hzw)).trans (hb67.mono (by omega)))
     have hz7 := hb67.size
     obtain ⟨⟨z0, z1, z2, z3⟩, _⟩ := (HS6.out.next hgw (hb67.mono (by omega)))
     have HO7 : Hid (w7.ownsRow w.heap.size 34 4 (.slice (some ⟨g, 0, none⟩) k cap) k (fourP (es.take k))) := Lib.hid (by
      have h := own_take (own_below HO6.out hb67) hk
      rwa [fourP_take] at h)
     have hgne : ¬ g = g4 := by have := HG4.out; omega
     clear hown hgr hg4 hdr4 hb67 HS6 HO6 HB6
     refine wp_region_noPanic ?_
     refine wp_region_held_drew (S := (S4n w gL (oL + i * 4) (.int .i64 u.op) (.string (bstr u.name)) (.int .i64 u.sort) (.slice A2 u.args.length c2))) (by kernel_rfl) ?_ (fun hHd0 => ?_)
     ·exact ⟨⟨z0, z1, z2, z3⟩, HB7.out.drew⟩
     refine wpAnyH_take (i := 0) (v := ?_) rfl (by kernel_rfl) (by kernel_rfl) (by kernel_rfl) (fun _ _ _ h => h) (Or.inl ⟨by rfl, ?_⟩) (by with_reducible assumption) ?_
     rotate_left
     ·intro w hSw; (try dsimp only at hSw); go_simp <;> with_reducible rfl
     (try simp only [Act.put]); (try simp only [List.setIfInBounds_toArray]); (try simp only [List.set_cons_succ, List.set_cons_zero])
     refine wpAnyH_take (i := 1) (v := ?_) rfl (by kernel_rfl) (by kernel_rfl) (by kernel_rfl) (fun _ _ _ h => h) (Or.inl ⟨by rfl, ?_⟩) (by with_reducible assumption) ?_
     rotate_left
     ·intro w hSw; (try dsimp only at hSw); go_simp <;> with_reducible rfl
     (try simp only [Act.put]); (try simp only [List.setIfInBounds_toArray]); (try simp only [List.set_cons_succ, List.set_cons_zero])
     refine wpAnyH_take (i := 2) (v := ?_) rfl (by kernel_rfl) (by kernel_rfl) (by kernel_rfl) (fun _ _ _ h => h) (Or.inl ⟨by rfl, ?_⟩) (by with_reducible assumption) ?_
     rotate_left
     ·intro w hSw; (try dsimp only at hSw); go_simp <;> with_reducible rfl
     (try simp only [Act.put]); (try simp only [List.setIfInBounds_toArray]); (try simp only [List.set_cons_succ, List.set_cons_zero])
     refine wpAnyH_take (i := 3) (v := ?_) rfl (by kernel_rfl) (by kernel_rfl) (by kernel_rfl) (fun _ _ _ h => h) (Or.inl ⟨by rfl, ?_⟩) (by with_reducible assumption) ?_
     rotate_left
     ·intro w hSw; (try dsimp only at hSw); go_simp <;> with_reducible rfl
     (try simp only [Act.put]); (try simp only [List.setIfInBounds_toArray]); (try simp only [List.set_cons_succ, List.set_cons_zero])
     refine wpAnyH_take (i := 4) (v := ?_) rfl (by kernel_rfl) (by kernel_rfl) (by kernel_rfl) (fun _ _ _ h => h) (Or.inl ⟨by rfl, ?_⟩) (by with_reducible assumption) ?_
     rotate_left
     ·intro w hSw; (try dsimp only at hSw); go_simp <;> with_reducible rfl
     (try simp only [Act.put]); (try simp only [List.setIfInBounds_toArray]); (try simp only [List.set_cons_succ, List.set_cons_zero])
     refine wpAnyH_take (i := 5) (v := ?_) rfl (by kernel_rfl) (by kernel_rfl) (by kernel_rfl) (fun _ _ _ h => h) (Or.inl ⟨by rfl, ?_⟩) (by with_reducible assumption) ?_
     rotate_left
     ·intro w hSw; (try dsimp only at hSw); go_simp <;> with_reducible rfl
     (try simp only [Act.put]); (try simp only [List.setIfInBounds_toArray]); (try simp only [List.set_cons_succ, List.set_cons_zero])
     refine wpAnyH_take (i := 6) (v := ?_) rfl (by kernel_rfl) (by kernel_rfl) (by kernel_rfl) (fun _ _ _ h => h) (Or.inl ⟨by rfl, ?_⟩) (by with_reducible assumption) ?_
     rotate_left
     ·intro w hSw; (try dsimp only at hSw); go_simp <;> with_reducible rfl
     (try simp only [Act.put]); (try simp only [List.setIfInBounds_toArray]); (try simp only [List.set_cons_succ, List.set_cons_zero])
     refine wpAnyH_take (i := 9) (v := ?_) rfl (by kernel_rfl) (by kernel_rfl) (by kernel_rfl) (fun _ _ _ h => h) (Or.inl ⟨by rfl, ?_⟩) (by with_reducible assumption) ?_
     rotate_left
     ·intro w hSw; (try dsimp only at hSw); go_simp <;> with_reducible rfl
     (try simp only [Act.put]); (try simp only [List.setIfInBounds_toArray]); (try simp only [List.set_cons_succ, List.set_cons_zero])
     refine wpAnyH_ready (rs := [7]) (by kernel_rfl) (by simp) ?_
     refine AllReadyH.cons (o := _) rfl (fun K hK => ?_) ?_
     ·go_simp
      refine hK.out _ _ ?_ (fun hHd1 => ?_)
      ·(try dsimp only); first | (with_reducible assumption) | ((with_reducible refine S4n.ald ?_ hgw); with_reducible assumption) | ((with_reducible refine S4n.al ?_ hgw); with_reducible assumption) | (exact ⟨⟨z0, z1, z2, z3⟩, HB7.out.drew⟩)
      clear hK K hHd0
      (try simp only [Act.put]); (try simp only [List.setIfInBounds_toArray]); (try simp only [List.set_cons_succ, List.set_cons_zero])
      refine wpAnyH_ready (rs := [8]) (by kernel_rfl) (by simp) ?_
      refine AllReadyH.cons (o := _) rfl (fun K hK => ?_) ?_
      ·(refine step_append_d (by rfl) _ _ _ (by rfl) w.heap.size 34 j0 _ 4 56 Tryz.underlying32 hij hy0 hy1 hy2 rfl (by omega) g k cap (fourP (es.take k)) (by rfl) (own_below HO7.out ((Below.refl _ _).alloc (Nat.le_refl _) _).drew) ⟨w7.heap.size, 0, none⟩ 1 1 (enc4 (u, .slice A2 u.args.length c2)) (by rfl) (by rfl) (fun q x hq => cells4_at w7 _ _ _ _ _ q x hq) (cells4_one rfl rfl rfl rfl) (by unfold maxLen; omega) (by omega) (by simp; omega) ?_; intro g8 cap8 w8 hown8 hgr8 hg8 hlt8 hdr8; have hB78 : Below w.heap.size w7 w8 := ((Below.refl w.heap.size w7).alloc (by omega) _).drew.grown hgr8 (by simp; omega) (by intro x hx; cases hx; exact hbg); have hS8 := S4n.next (by with_reducible assumption) hgw ((Below.refl w.heap.size _).grown hgr8 (by simp; omega) (by intro x hx; cases hx; exact hbg)); have HR8 := Lib.hid (own_grown_far (own_below HRE.out ((Below.refl _ w7).alloc (Nat.le_refl _) _).drew) hgr8 (fun x hx e => by simp [Value.ownBlock] at hx e; omega)); have hbg8 := (termsi.own_lt hown8).1; have hz8 := hB78.size)
       refine hK.out _ _ ?_ (fun hHd2 => ?_)
       ·(try dsimp only); first | (with_reducible assumption) | ((with_reducible refine S4n.ald ?_ hgw); with_reducible assumption) | ((with_reducible refine S4n.al ?_ hgw); with_reducible assumption) | (exact ⟨⟨z0, z1, z2, z3⟩, HB7.out.drew⟩)
       clear hK K hHd1
       (try simp only [Act.put]); (try simp only [List.setIfInBounds_toArray]); (try simp only [List.set_cons_succ, List.set_cons_zero])
       refine wpAnyH_ready (rs := [10]) (by kernel_rfl) (by simp) ?_
       refine AllReadyH.cons (o := _) rfl (fun K hK => ?_) ?_
       ·(refine step_append_d (by rfl) _ _ _ (by rfl) w.heap.size 34 j0 _ 4 56 Tryz.underlying32 hij hy0 hy1 hy2 rfl (by omega) g8 (k + 1) cap8 (fourP (es.take k) ++ enc4 (u, .slice A2 u.args.length c2)) (by rfl) hown8 ⟨g4, 0, none⟩ (i - k) cap4 (fourP (es.drop k)) (by rfl) HLD.out (src_row HR8.out) (fourP_one (fun p hp => HSI.out.el p (List.mem_of_mem_drop hp))) (by unfold maxLen; omega) (by omega) (by omega) ?_; intro g9 cap9 w9 hown9 hgr9 hg9 hlt9 hdr9; have hB89 : Below w.heap.size w8 w9 := (Below.refl w.heap.size w8).grown hgr9 (by omega) (by intro x hx; cases hx; exact hbg8); have hS9 := S4n.next (by with_reducible assumption) hgw hB89; have hB9 : Below w.heap.size w w9 := (HB7.out.trans hB78).trans hB89)
        refine hK.out _ _ ?_ (fun hHd3 => ?_)
        ·(try dsimp only); first | (with_reducible assumption) | ((with_reducible refine S4n.ald ?_ hgw); with_reducible assumption) | ((with_reducible refine S4n.al ?_ hgw); with_reducible assumption) | (exact ⟨⟨z0, z1, z2, z3⟩, HB7.out.drew⟩)
        clear hK K hHd2
        (try simp only [Act.put]); (try simp only [List.setIfInBounds_toArray]); (try simp only [List.set_cons_succ, List.set_cons_zero])
        refine wpAnyH_take (i := 11) (v := ?_) rfl (by kernel_rfl) (by kernel_rfl) (by kernel_rfl) (fun _ _ _ h => h) (Or.inl ⟨by rfl, ?_⟩) (by with_reducible assumption) ?_
        rotate_left
        ·intro w hSw; (try dsimp only at hSw); go_simp <;> with_reducible rfl
        (try simp only [Act.put]); (try simp only [List.setIfInBounds_toArray]); (try simp only [List.set_cons_succ, List.set_cons_zero])
        refine wpAnyH_done (by kernel_rfl) ?_ _
        refine NoPanic.normal ?_
        have HN := Lib.hid (SI.next HSI.out HU.out hltL HE.out hk HJ.out (fun h => by have := HN2.out h; omega) hB9 (by rw [show i + 1 = k + 1 + (i - k) by omega]; exact hown9))
        clear hown9 hgr9 hg9 hdr9 hown8 hgr8 hg8 hdr8 hsl hsl2 z0 z1 z2 z3 hB9
        obtain ⟨es', hes'⟩ := HN.out
        have HES := Lib.hid hes'
        clear hes' HN
        go_wp2
        go_roundw
        case rel => exact ⟨i + 1, g9, cap9, es', by rw [show k + 1 + (i - k) = i + 1 by omega], by go_num, by omega, HES⟩
        case measure => simp [intOf]; omega
       exact AllReadyH.nil
      exact AllReadyH.nil
     exact AllReadyH.nil
    ·obtain ⟨p, hp⟩ : ∃ p, p + 1 = k := ⟨k - 1, by omega⟩
     have d1 : decide ((0 : Int) < (k : Int)) = true := decide_eq_true (by omega)
     have d3 : decide (0 < k) = true := decide_eq_true (by omega)
     have d4 : 0 < k := by omega
     have hw : IntKind.i64.wrap ((k : Int) - 1) = (p : Int) := by rw [← hp, IntWalk.i64_in _ (by omega)]; omega
     have hpl : p < es.length := by have := HLEN.out; omega
     obtain ⟨c0, c1, c2', c3⟩ := fourP_at es p hpl
     have hel := HSI.out.el (es.getD p d0) (by rw [List.getD_eq_getElem?_getD, List.getElem?_eq_getElem hpl]; exact List.getElem_mem _)
     obtain ⟨⟨xt, xv⟩, hxe⟩ : ∃ x, x = es.getD p d0 := ⟨_, rfl⟩
     rw [← hxe] at c0 c1 c2' c3 hel
     obtain ⟨A7, c7, hxv, _⟩ := HasR.shape hel.1 rfl
     simp only [] at hxv
     subst hxv
     have HXE := Lib.hid hxe
     have q0 := (HOr.out.cellAt (p * 4) (by omega)).trans c0
     have q1 := (HOr.out.cellAt (p * 4 + 1) (by omega)).trans c1
     have q2 := (HOr.out.cellAt (p * 4 + 2) (by omega)).trans c2'
     have q3 := (HOr.out.cellAt (p * 4 + 3) (by omega)).trans c3
     simp only [] at q0 q1 q2 q3
     have hgr : g < wr.heap.size := by omega
     have hgLr : gL < wr.heap.size := by omega
     have r0 : ∀ t : BoxC (Below wr.heap.size wr), t.W.cell? ⟨g, p * 4, none⟩ = some (.int .i64 xt.op) := fun t => t.cell q0 hgr
     have r1 : ∀ t : BoxC (Below wr.heap.size wr), t.W.cell? ⟨g, p * 4 + 1, none⟩ = some (.string (bstr xt.name)) := fun t => t.cell q1 hgr
     have r2 : ∀ t : BoxC (Below wr.heap.size wr), t.W.cell? ⟨g, p * 4 + 2, none⟩ = some (.int .i64 xt.sort) := fun t => t.cell q2 hgr
     have r3 : ∀ t : BoxC (Below wr.heap.size wr), t.W.cell? ⟨g, p * 4 + 3, none⟩ = some (.slice A7 xt.args.length c7) := fun t => t.cell q3 hgr
     obtain ⟨⟨z0, z1, z2, z3⟩, _⟩ := HS4r.out
     have s0 : ∀ t : BoxC (Below wr.heap.size wr), t.W.cell? ⟨gL, oL + i * 4, none⟩ = some (.int .i64 u.op) := fun t => t.cell z0 hgLr
     have s1 : ∀ t : BoxC (Below wr.heap.size wr), t.W.cell? ⟨gL, oL + i * 4 + 1, none⟩ = some (.string (bstr u.name)) := fun t => t.cell z1 hgLr
     have s2 : ∀ t : BoxC (Below wr.heap.size wr), t.W.cell? ⟨gL, oL + i * 4 + 2, none⟩ = some (.int .i64 u.sort) := fun t => t.cell z2 hgLr
     have s3 : ∀ t : BoxC (Below wr.heap.size wr), t.W.cell? ⟨gL, oL + i * 4 + 3, none⟩ = some (.slice A2 u.args.length c2) := fun t => t.cell z3 hgLr
     have HC1 : Hid (∀ t : BoxC (Below wr.heap.size wr), Calls Tryz.prog 97 #[.agg #[.int .i64 xt.op, .string (bstr xt.name), .int .i64 xt.sort, .slice A7 xt.args.length c7], .agg #[.int .i64 u.op, .string (bstr u.name), .int .i64 u.sort, .slice A2 u.args.length c2]] t.W fun e w' => e = .returned (.int .i64 (cmp xt u)) ∧ Below t.W.heap.size t.W w') := Lib.hid (fun t => by
      have hb := (HSI.out.below.trans (HBW.out.mono hzw)).trans (t.h.mono (by omega))
      exact scmp_any xt u _ _ t.W (hel.1.below (Nat.le_refl _) hb) (HE.out.1.below (Nat.le_refl _) hb))
     have p1 : (0 : Int) ≤ (p : Int) := by omega
     have p2 : (p : Int) < (i : Int) := by omega
     obtain ⟨r, hr⟩ : ∃ r, r = cmp xt u := ⟨_, rfl⟩
     rw [← hr] at HC1
     have HRR := Lib.hid hr
     have HP := Lib.hid hp
     clear c0 c1 c2' c3 q0 q1 q2 q3 z0 z1 z2 z3 hxe hel hr hpl hp
     by_cases hr0 : 0 < r
     ·have d2 : decide (0 < r) = true := decide_eq_true hr0
      go_wp2_with fail
      refine region_boxC (C := Below wr.heap.size wr) (by kernel_rfl) (by kernel_rfl) (Below.refl _ _).drew ?_
      repeat (go_big_quiet_step ((go_at_call 97; exact (HC1.out _).mono (fun _ _ h => ⟨h.1, BoxC.step _ h.2⟩))))
      refine wpQuiet_nil ?_
      rintro w5 ⟨t5, rfl⟩
      have HB6 : Hid (Below wo.heap.size wo t5.W) := Lib.hid (HBW.out.trans (t5.h.mono hzr))
      clear r0 r1 r2 r3 s0 s1 s2 s3
      go_wp2
      go_roundw
      case measure => have := HP.out; simp [intOf]; omega
      case rel => exact ⟨p, by go_num, by have := HP.out; omega, Lib.hid (fun j hj1 hj2 => by
       by_cases e : j = p
       ·subst e; rw [← HXE.out]; show 0 < cmp xt u; rw [← HRR.out]; exact hr0
       ·exact HJ.out j (by have := HP.out; omega) hj2), HB6⟩
     ·have d2 : decide (0 < r) = false := decide_eq_false hr0
      have HN2 : Hid (0 < k → ¬ 0 < cmp (es.getD (k - 1) d0).1 u) := Lib.hid (fun _ => by
       have e : k - 1 = p := by have := HP.out; omega
       rw [e, ← HXE.out]; show ¬ 0 < cmp xt u; rw [← HRR.out]; exact hr0)
      go_wp2_with fail
      refine region_boxC (C := Below wr.heap.size wr) (by kernel_rfl) (by kernel_rfl) (Below.refl _ _).drew ?_
      repeat (go_big_quiet_step ((go_at_call 97; exact (HC1.out _).mono (fun _ _ h => ⟨h.1, BoxC.step _ h.2⟩))))
      refine wpQuiet_nil ?_
      rintro w5 ⟨t5, rfl⟩
      have HB6 : Hid (Below wo.heap.size wo t5.W) := Lib.hid (HBW.out.trans (t5.h.mono hzr))
      clear r0 r1 r2 r3 s0 s1 s2 s3 d1 d2 d3 nb HC1
      clear HBW HS4r HOr
      generalize t5.W = W6 at HB6 ⊢
      obtain ⟨q, hsl, hq⟩ := slice_from g i cap k hk hic
      have hsl2 := slice_to g i cap k (by omega)
      have HQ := Lib.hid hq
      have HS6 := Lib.hid (HS4.out.next hgw (HB6.out.mono hzw))
      have HO6 := Lib.hid (own_below HSI.out.own HB6.out)
      have hz6 := HB6.out.size
      have HLT : Hid ((fourP (es.take k)).length = k * 4) := Lib.hid (by rw [fourP_len, List.length_take]; have := HLEN.out; omega)
      have HLD : Hid ((fourP (es.drop k)).length = (i - k) * 4) := Lib.hid (by rw [fourP_len, List.length_drop, ← HLEN.out])
      have hik : (0 : Int) ≤ (k : Int) := by omega
      have hikn : (k : Int) ≤ (i : Int) := by omega
      have hikc : (k : Int) ≤ (cap : Int) := by omega
      clear hq
      go_wp2_with (at_builtin; refine wpList_append_d rfl _ _ _ rfl W6.heap.size 34 j0 _ 4 56 Tryz.underlying32 hij hy0 hy1 hy2 rfl (by omega) W6.heap.size 0 0 [] rfl (World.ownsRow_lit (e := 34) (size := 4) W6 #[] 0 (Nat.le_refl _) (by unfold maxLen; omega) rfl) ⟨g, q, none⟩ (i - k) (cap - k) (fourP (es.drop k)) rfl HLD.out (src_dropP HO6.out HLEN.out HQ.out ((Below.refl _ _).alloc (Nat.le_refl _) _)) (fourP_one (fun p hp => HSI.out.el p (List.mem_of_mem_drop hp))) (by unfold maxLen; omega) (by omega) (by simp) ?_; intro g4 cap4 w7 hown hgr hg4 hlt4 hdr4)
      rw [List.nil_append, Nat.zero_add] at hown
      have hb67 : Below W6.heap.size W6 w7 := ((Below.refl W6.heap.size W6).alloc (Nat.le_refl _) _).grown hgr (by simp) (by intro x hx; cases hx; exact Nat.le_refl _)
      have HG4 : Hid (W6.heap.size ≤ g4 ∧ g4 < w7.heap.size) := Lib.hid ⟨(termsi.own_lt hown).1, hlt4⟩
      have HRE := Lib.hid hown
      have HB7 : Hid (Below w.heap.size w w7) := Lib.hid ((HSI.out.below.trans (HB6.out.mono hzw)).trans (hb67.mono (by omega)))
      have hz7 := hb67.size
      obtain ⟨⟨z0, z1, z2, z3⟩, _⟩ := (HS6.out.next hgw (hb67.mono (by omega)))
      have HO7 : Hid (w7.ownsRow w.heap.size 34 4 (.slice (some ⟨g, 0, none⟩) k cap) k (fourP (es.take k))) := Lib.hid (by
       have h := own_take (own_below HO6.out hb67) hk
       rwa [fourP_take] at h)
      have hgne : ¬ g = g4 := by have := HG4.out; omega
      clear hown hgr hg4 hdr4 hb67 HS6 HO6 HB6
      refine wp_region_noPanic ?_
      refine wp_region_held_drew (S := (S4n w gL (oL + i * 4) (.int .i64 u.op) (.string (bstr u.name)) (.int .i64 u.sort) (.slice A2 u.args.length c2))) (by kernel_rfl) ?_ (fun hHd0 => ?_)
      ·exact ⟨⟨z0, z1, z2, z3⟩, HB7.out.drew⟩
      refine wpAnyH_take (i := 0) (v := ?_) rfl (by kernel_rfl) (by kernel_rfl) (by kernel_rfl) (fun _ _ _ h => h) (Or.inl ⟨by rfl, ?_⟩) (by with_reducible assumption) ?_
      rotate_left
      ·intro w hSw; (try dsimp only at hSw); go_simp <;> with_reducible rfl
      (try simp only [Act.put]); (try simp only [List.setIfInBounds_toArray]); (try simp only [List.set_cons_succ, List.set_cons_zero])
      refine wpAnyH_take (i := 1) (v := ?_) rfl (by kernel_rfl) (by kernel_rfl) (by kernel_rfl) (fun _ _ _ h => h) (Or.inl ⟨by rfl, ?_⟩) (by with_reducible assumption) ?_
      rotate_left
      ·intro w hSw; (try dsimp only at hSw); go_simp <;> with_reducible rfl
      (try simp only [Act.put]); (try simp only [List.setIfInBounds_toArray]); (try simp only [List.set_cons_succ, List.set_cons_zero])
      refine wpAnyH_take (i := 2) (v := ?_) rfl (by kernel_rfl) (by kernel_rfl) (by kernel_rfl) (fun _ _ _ h => h) (Or.inl ⟨by rfl, ?_⟩) (by with_reducible assumption) ?_
      rotate_left
      ·intro w hSw; (try dsimp only at hSw); go_simp <;> with_reducible rfl
      (try simp only [Act.put]); (try simp only [List.setIfInBounds_toArray]); (try simp only [List.set_cons_succ, List.set_cons_zero])
      refine wpAnyH_take (i := 3) (v := ?_) rfl (by kernel_rfl) (by kernel_rfl) (by kernel_rfl) (fun _ _ _ h => h) (Or.inl ⟨by rfl, ?_⟩) (by with_reducible assumption) ?_
      rotate_left
      ·intro w hSw; (try dsimp only at hSw); go_simp <;> with_reducible rfl
      (try simp only [Act.put]); (try simp only [List.setIfInBounds_toArray]); (try simp only [List.set_cons_succ, List.set_cons_zero])
      refine wpAnyH_take (i := 4) (v := ?_) rfl (by kernel_rfl) (by kernel_rfl) (by kernel_rfl) (fun _ _ _ h => h) (Or.inl ⟨by rfl, ?_⟩) (by with_reducible assumption) ?_
      rotate_left
      ·intro w hSw; (try dsimp only at hSw); go_simp <;> with_reducible rfl
      (try simp only [Act.put]); (try simp only [List.setIfInBounds_toArray]); (try simp only [List.set_cons_succ, List.set_cons_zero])
      refine wpAnyH_take (i := 5) (v := ?_) rfl (by kernel_rfl) (by kernel_rfl) (by kernel_rfl) (fun _ _ _ h => h) (Or.inl ⟨by rfl, ?_⟩) (by with_reducible assumption) ?_
      rotate_left
      ·intro w hSw; (try dsimp only at hSw); go_simp <;> with_reducible rfl
      (try simp only [Act.put]); (try simp only [List.setIfInBounds_toArray]); (try simp only [List.set_cons_succ, List.set_cons_zero])
      refine wpAnyH_take (i := 6) (v := ?_) rfl (by kernel_rfl) (by kernel_rfl) (by kernel_rfl) (fun _ _ _ h => h) (Or.inl ⟨by rfl, ?_⟩) (by with_reducible assumption) ?_
      rotate_left
      ·intro w hSw; (try dsimp only at hSw); go_simp <;> with_reducible rfl
      (try simp only [Act.put]); (try simp only [List.setIfInBounds_toArray]); (try simp only [List.set_cons_succ, List.set_cons_zero])
      refine wpAnyH_take (i := 9) (v := ?_) rfl (by kernel_rfl) (by kernel_rfl) (by kernel_rfl) (fun _ _ _ h => h) (Or.inl ⟨by rfl, ?_⟩) (by with_reducible assumption) ?_
      rotate_left
      ·intro w hSw; (try dsimp only at hSw); go_simp <;> with_reducible rfl
      (try simp only [Act.put]); (try simp only [List.setIfInBounds_toArray]); (try simp only [List.set_cons_succ, List.set_cons_zero])
      refine wpAnyH_ready (rs := [7]) (by kernel_rfl) (by simp) ?_
      refine AllReadyH.cons (o := _) rfl (fun K hK => ?_) ?_
      ·go_simp
       refine hK.out _ _ ?_ (fun hHd1 => ?_)
       ·(try dsimp only); first | (with_reducible assumption) | ((with_reducible refine S4n.ald ?_ hgw); with_reducible assumption) | ((with_reducible refine S4n.al ?_ hgw); with_reducible assumption) | (exact ⟨⟨z0, z1, z2, z3⟩, HB7.out.drew⟩)
       clear hK K hHd0
       (try simp only [Act.put]); (try simp only [List.setIfInBounds_toArray]); (try simp only [List.set_cons_succ, List.set_cons_zero])
       refine wpAnyH_ready (rs := [8]) (by kernel_rfl) (by simp) ?_
       refine AllReadyH.cons (o := _) rfl (fun K hK => ?_) ?_
       ·(refine step_append_d (by rfl) _ _ _ (by rfl) w.heap.size 34 j0 _ 4 56 Tryz.underlying32 hij hy0 hy1 hy2 rfl (by omega) g k cap (fourP (es.take k)) (by rfl) (own_below HO7.out ((Below.refl _ _).alloc (Nat.le_refl _) _).drew) ⟨w7.heap.size, 0, none⟩ 1 1 (enc4 (u, .slice A2 u.args.length c2)) (by rfl) (by rfl) (fun q x hq => cells4_at w7 _ _ _ _ _ q x hq) (cells4_one rfl rfl rfl rfl) (by unfold maxLen; omega) (by omega) (by simp; omega) ?_; intro g8 cap8 w8 hown8 hgr8 hg8 hlt8 hdr8; have hB78 : Below w.heap.size w7 w8 := ((Below.refl w.heap.size w7).alloc (by omega) _).drew.grown hgr8 (by simp; omega) (by intro x hx; cases hx; exact hbg); have hS8 := S4n.next (by with_reducible assumption) hgw ((Below.refl w.heap.size _).grown hgr8 (by simp; omega) (by intro x hx; cases hx; exact hbg)); have HR8 := Lib.hid (own_grown_far (own_below HRE.out ((Below.refl _ w7).alloc (Nat.le_refl _) _).drew) hgr8 (fun x hx e => by simp [Value.ownBlock] at hx e; omega)); have hbg8 := (termsi.own_lt hown8).1; have hz8 := hB78.size)
        refine hK.out _ _ ?_ (fun hHd2 => ?_)
        ·(try dsimp only); first | (with_reducible assumption) | ((with_reducible refine S4n.ald ?_ hgw); with_reducible assumption) | ((with_reducible refine S4n.al ?_ hgw); with_reducible assumption) | (exact ⟨⟨z0, z1, z2, z3⟩, HB7.out.drew⟩)
        clear hK K hHd1
        (try simp only [Act.put]); (try simp only [List.setIfInBounds_toArray]); (try simp only [List.set_cons_succ, List.set_cons_zero])
        refine wpAnyH_ready (rs := [10]) (by kernel_rfl) (by simp) ?_
        refine AllReadyH.cons (o := _) rfl (fun K hK => ?_) ?_
        ·(refine step_append_d (by rfl) _ _ _ (by rfl) w.heap.size 34 j0 _ 4 56 Tryz.underlying32 hij hy0 hy1 hy2 rfl (by omega) g8 (k + 1) cap8 (fourP (es.take k) ++ enc4 (u, .slice A2 u.args.length c2)) (by rfl) hown8 ⟨g4, 0, none⟩ (i - k) cap4 (fourP (es.drop k)) (by rfl) HLD.out (src_row HR8.out) (fourP_one (fun p hp => HSI.out.el p (List.mem_of_mem_drop hp))) (by unfold maxLen; omega) (by omega) (by omega) ?_; intro g9 cap9 w9 hown9 hgr9 hg9 hlt9 hdr9; have hB89 : Below w.heap.size w8 w9 := (Below.refl w.heap.size w8).grown hgr9 (by omega) (by intro x hx; cases hx; exact hbg8); have hS9 := S4n.next (by with_reducible assumption) hgw hB89; have hB9 : Below w.heap.size w w9 := (HB7.out.trans hB78).trans hB89)
         refine hK.out _ _ ?_ (fun hHd3 => ?_)
         ·(try dsimp only); first | (with_reducible assumption) | ((with_reducible refine S4n.ald ?_ hgw); with_reducible assumption) | ((with_reducible refine S4n.al ?_ hgw); with_reducible assumption) | (exact ⟨⟨z0, z1, z2, z3⟩, HB7.out.drew⟩)
         clear hK K hHd2
         (try simp only [Act.put]); (try simp only [List.setIfInBounds_toArray]); (try simp only [List.set_cons_succ, List.set_cons_zero])
         refine wpAnyH_take (i := 11) (v := ?_) rfl (by kernel_rfl) (by kernel_rfl) (by kernel_rfl) (fun _ _ _ h => h) (Or.inl ⟨by rfl, ?_⟩) (by with_reducible assumption) ?_
         rotate_left
         ·intro w hSw; (try dsimp only at hSw); go_simp <;> with_reducible rfl
         (try simp only [Act.put]); (try simp only [List.setIfInBounds_toArray]); (try simp only [List.set_cons_succ, List.set_cons_zero])
         refine wpAnyH_done (by kernel_rfl) ?_ _
         refine NoPanic.normal ?_
         have HN := Lib.hid (SI.next HSI.out HU.out hltL HE.out hk HJ.out (fun h => by have := HN2.out h; omega) hB9 (by rw [show i + 1 = k + 1 + (i - k) by omega]; exact hown9))
         clear hown9 hgr9 hg9 hdr9 hown8 hgr8 hg8 hdr8 hsl hsl2 z0 z1 z2 z3 hB9
         obtain ⟨es', hes'⟩ := HN.out
         have HES := Lib.hid hes'
         clear hes' HN
         go_wp2
         go_roundw
         case rel => exact ⟨i + 1, g9, cap9, es', by rw [show k + 1 + (i - k) = i + 1 by omega], by go_num, by omega, HES⟩
         case measure => simp [intOf]; omega
        exact AllReadyH.nil
       exact AllReadyH.nil
      exact AllReadyH.nil
  ·obtain rfl : i = m := by omega
   have HR := Lib.hid (HFIN.out g cap es wr HSI.out)
   go_wp2_with fail
   refine HR.out.mono ?_
   rintro e w' ⟨v', rfl, h1, h2⟩
   obtain ⟨A9, c9, rfl, _⟩ := HasR.shape h1 rfl
   have HP : Hid (SSortP n L w (.returned (.slice A9 (sortM L).length c9)) w') := Lib.hid ⟨_, rfl, h1, h2⟩
   clear h1 h2
   go_wp2
   go_ret
   exact HP.out
end Go.Proofs.YtkkmjaggebjcbaaGreat.termsi
