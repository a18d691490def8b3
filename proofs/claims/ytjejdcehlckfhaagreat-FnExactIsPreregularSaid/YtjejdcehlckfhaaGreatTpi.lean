/-
  AT MOST ONE LEAST SORT: mathematics; the program's haveOneLeast, IsPreregular.
-/
import Derived.Test.YtjejdcehlckfhaaGreatTsl
import Derived.Test.YtjejdcehlckfhaaGreatTsh
import Derived.Test.YtjejdcehlckfhaaGreatSigv
import Derived.Lib.SliceRun
namespace Go.Proofs.YtjejdcehlckfhaaGreat.tpi
open Go.ChangeShapes Go.WideShapes Go.ChangeAt Go.RowKit
open mem dec split strl subs sortn setm sets sortm sortp sorti rowl sigm sigs sigk sigv termb rowg gram gramo tsa tsm tsi tsj tsk tsl tso

/-- for all choices of the sorts of the arguments behind the first ones, there is at most one least sort -/
def oneL (U : List Nat) (D : List (List Int × Int)) (ass com : Bool) : Nat → List Nat → Bool
  | 0, A => decide ((els (leastU U (sortsA U D ass com A))).length ≤ 1)
  | f + 1, A => (List.range U.length).all fun k => oneL U D ass com f (A ++ [U.getD k 0])
theorem oneL_bad {U : List Nat} {D : List (List Int × Int)} {ass com : Bool} {f : Nat} {A : List Nat} {k : Nat} (hk : k < U.length) (h : oneL U D ass com f (A ++ [U.getD k 0]) = false) : oneL U D ass com (f + 1) A = false := by
  rw [oneL, List.all_eq_false]
  exact ⟨k, List.mem_range.2 hk, by rw [h]; simp⟩
theorem oneL_all {U : List Nat} {D : List (List Int × Int)} {ass com : Bool} {f : Nat} {A : List Nat} (h : ∀ k, k < U.length → oneL U D ass com f (A ++ [U.getD k 0]) = true) : oneL U D ass com (f + 1) A = true := by
  rw [oneL, List.all_eq_true]
  exact fun k hk => h k (List.mem_range.1 hk)
def preB (P : List (List UInt8)) (Q : List (Int × Int)) (O : List OpM) : Bool := sigOk P Q O && O.all fun o => oneL (clo P.length (prs Q)) o.decls o.ass o.com (ar o) []
theorem snoc_lt {A : List Nat} {x n : Nat} (hA : ∀ i, A.getD i 0 < n) (hx : x < n) (i : Nat) : (A ++ [x]).getD i 0 < n := by
  rw [List.getD_eq_getElem?_getD]
  by_cases h : i < A.length
  · rw [List.getElem?_append_left h, ← List.getD_eq_getElem?_getD]; exact hA i
  · rw [List.getElem?_append_right (by omega)]
    by_cases h2 : i - A.length = 0
    · rw [h2]; exact hx
    · rw [List.getElem?_eq_none (by simp; omega)]
      show 0 < n
      omega
theorem info_ns' : (Tryz.prog.info? 75).map (fun i => (i.zero, i.size, i.bytes)) = some (some (.int .u16 0), 1, 2) := by kernel_rfl
theorem u16s_one (A : List Nat) : ∀ v ∈ u16s A, v.oneCell' = true := by
  intro v hv
  simp only [u16s, List.mem_map] at hv
  obtain ⟨a, _, rfl⟩ := hv
  rfl
set_option maxRecDepth 50000 in
set_option maxHeartbeats 4000000 in
/-- slices.Clone at sets: a row of the call's own -/
theorem clone16_any (A : List Nat) (hl : A.length ≤ 1048576) (v : Value) (w : World) (h : Has w v (u16s A)) :
    Calls Tryz.prog 105 #[v] w fun e w' => ∃ v', e = .returned v' ∧ w'.ownsRow w.heap.size 75 1 v' A.length (u16s A) ∧ Below w.heap.size w w' := by
  obtain ⟨q, hq⟩ : ∃ q, q = A.length := ⟨_, rfl⟩
  obtain ⟨Aa, c, rfl, h⟩ := h.shape (n := q) (by rw [u16s_len, hq])
  obtain ⟨j0, hij, hy0, hy1, hy2⟩ := info_parts info_ns'
  rw [← hq] at hl ⊢
  have HLN : Hid ((u16s A).length = q * 1) := Lib.hid (by rw [u16s_len, hq, Nat.mul_one])
  have HO := Lib.hid (u16s_one A)
  cases Aa with
  | none =>
    have h0 : q = 0 := by
      by_cases hz : q = 0
      · exact hz
      · obtain ⟨g, o, e, _⟩ := h.cellAt (j := 0) (by omega)
        cases e
    have HR : Hid (w.ownsRow w.heap.size 75 1 (.slice none 0 0) q (u16s A)) := Lib.hid (by
      have : A = [] := List.eq_nil_of_length_eq_zero (by omega)
      subst this
      rw [h0]
      exact ⟨rfl, .inl ⟨rfl, rfl⟩⟩)
    have he : ∀ W, (binOp .eql 153 (.slice none q c) (.slice none 0 0)).run Tryz.prog W = .ok (.bool true) W := fun W => Lib.run_eql_slice_nil W 153 75 none q c 0 0 Tryz.underlying153
    clear h hq h0
    go_enter Tryz.func105, Tryz.ntmps105
    go_wp2
    go_ret
    exact ⟨_, rfl, HR.out, Below.refl _ _⟩
  | some a =>
    obtain ⟨g, o, sp⟩ := a
    have hsp : q ≠ 0 → sp = none := fun hz => by
      obtain ⟨g', o', e, _⟩ := h.cellAt (j := 0) (by omega)
      simp only [Option.some.injEq, Addr.mk.injEq] at e
      exact e.2.2
    have H2 : Hid (∀ (j : Nat) (x : Value), (u16s A)[j]? = some x → w.cell? ((⟨g, o, sp⟩ : Addr).add j) = some x) := Lib.hid (fun j x hx => by
      have hlt := (List.getElem?_eq_some_iff.1 hx).1
      rw [u16s_len, ← hq] at hlt
      obtain rfl := hsp (by omega)
      obtain ⟨g', o', e, _, hc⟩ := h.cellAt hlt
      simp only [Option.some.injEq, Addr.mk.injEq, and_true] at e
      obtain ⟨rfl, rfl⟩ := e
      rw [Addr.add_lit, hc]
      rw [List.getD_eq_getElem?_getD, hx]
      rfl)
    have he : ∀ W, (binOp .eql 153 (.slice (some ⟨g, o, sp⟩) q c) (.slice none 0 0)).run Tryz.prog W = .ok (.bool false) W := fun W => Lib.run_eql_slice_nil W 153 75 (some ⟨g, o, sp⟩) q c 0 0 Tryz.underlying153
    have hfr : (w.alloc (.cells #[] 75)).ownsRow w.heap.size 75 1 (.slice (some ⟨w.heap.size, 0, none⟩) 0 0) 0 [] := World.ownsRow_lit (e := 75) (size := 1) w #[] 0 (Nat.le_refl _) (by unfold maxLen; omega) rfl
    have HF := Lib.hid hfr
    clear h hq hsp hfr
    go_enter Tryz.func105, Tryz.ntmps105
    go_wp2_with (at_builtin; refine wpList_append_d rfl _ _ _ rfl w.heap.size 75 j0 _ 1 2 Tryz.underlying153 hij hy0 hy1 hy2 rfl (by omega) w.heap.size 0 0 [] rfl HF.out ⟨g, o, sp⟩ q c (u16s A) rfl HLN.out (fun j x hx => by
      have hc := H2.out j x hx
      exact (((Below.refl w.heap.size w).alloc (Nat.le_refl _) _).cell (World.block_lt_of_cell? w _ hc)).trans hc) HO.out (by unfold maxLen; omega) (by omega) (by simp) ?_; intro g4 cap4 w4 hown4 hgr4 hg4 hlt4 hdr4)
    have HR : Hid (w4.ownsRow w.heap.size 75 1 (.slice (some ⟨g4, 0, none⟩) (0 + q) cap4) q (u16s A) ∧ Below w.heap.size w w4) := Lib.hid (by
      refine ⟨?_, ((Below.refl _ _).alloc (Nat.le_refl _) _).grown hgr4 (by simp) (by intro k hk; cases hk; exact Nat.le_refl _)⟩
      rw [Nat.zero_add] at hown4 ⊢
      exact hown4)
    clear hown4 hgr4 hg4 hdr4
    rw [Nat.zero_add] at HR
    go_wp2
    go_ret
    exact ⟨_, rfl, HR.out.1, HR.out.2⟩
abbrev SOne (x y : Nat) (mm um : Option Nat) (Ao : Option Addr) (no co : Nat) (nm : List UInt8) (A : Option Addr) (n c : Nat) (a b : Bool) (u : Int) (i s0 s1 s2 s3 s4 : Nat) (w : World) : Prop :=
  (w.cell? ⟨x, 0, none⟩ = some (.map mm) ∧ w.cell? ⟨x, 1, none⟩ = some (.slice Ao no co) ∧ w.cell? ⟨x, 2, none⟩ = some (.map um)) ∧ C11 y nm A n c a b u i s0 s1 s2 s3 s4 w
theorem SOne.below {x y : Nat} {mm um : Option Nat} {Ao : Option Addr} {no co : Nat} {nm : List UInt8} {A : Option Addr} {n c : Nat} {a b : Bool} {u : Int} {i s0 s1 s2 s3 s4 : Nat} {W w : World} (h : SOne x y mm um Ao no co nm A n c a b u i s0 s1 s2 s3 s4 W) (hb : Below W.heap.size W w) : SOne x y mm um Ao no co nm A n c a b u i s0 s1 s2 s3 s4 w := by
  have k : ∀ {a : Addr} {v : Value}, W.cell? a = some v → w.cell? a = some v := fun {a v} h => (hb.cell (p := a) (block_lt_of_cell h)).trans h
  exact ⟨⟨k h.1.1, k h.1.2.1, k h.1.2.2⟩, C11.below h.2 hb⟩
/-- the contract of haveOneLeast for f places that are left -/
def OneC (U : List Nat) (mm um : Option Nat) (Ao : Option Addr) (no co : Nat) (nm : List UInt8) (Ad : Option Addr) (dn cd : Nat) (a com : Bool) (u : Int) (i s0 s1 s2 s3 s4 : Nat) (D : List (List Int × Int)) (f : Nat) : Prop :=
  ∀ (A : List Nat) (va : Value) (w : World), A.length + f = s0 → (∀ i, A.getD i 0 < 2 ^ U.length) → MapU w (.map um) U → HasD 0 w (.slice Ad dn cd) D → Has w va (u16s A) → ∀ r, oneL U D a com f A = r →
  Calls Tryz.prog 53 #[.agg #[.map mm, .slice Ao no co, .map um], aggE nm Ad dn cd a com u i s0 s1 s2 s3 s4, va] w fun e w' => e = .returned (.bool r) ∧ Below w.heap.size w w'
set_option maxRecDepth 20000 in
set_option maxHeartbeats 8000000 in
theorem oneC_step (U : List Nat) (hU : Lim U) (mm um : Option Nat) (Ao : Option Addr) (no co : Nat) (nm : List UInt8) (Ad : Option Addr) (dn cd : Nat) (a com : Bool) (u : Int) (i s0 s1 s2 s3 s4 : Nat) (D : List (List Int × Int)) (hDN : DeclN U.length s0 D) (hq : (a || com) = true → s0 = 2) (hs0 : s0 ≤ 3) (f : Nat)
    (hS : ∀ f', f = f' + 1 → OneC U mm um Ao no co nm Ad dn cd a com u i s0 s1 s2 s3 s4 D f') : OneC U mm um Ao no co nm Ad dn cd a com u i s0 s1 s2 s3 s4 D f := by
  intro A va w hAf hA hM hD hva r hr
  obtain ⟨q, hqe⟩ : ∃ q, q = A.length := ⟨_, rfl⟩
  have hp8 := pow8 hU.1
  have HRS := Lib.hid (fun (hf : f = 0) W (hW : Below w.heap.size w W) => resultSorts_any U hU mm um Ao no co nm Ad dn cd a com u i s0 s1 s2 s3 s4 D A s0 hDN (fun h => ⟨hq h, by have := hq h; omega, by omega⟩) (by omega) hA va W (hM.below hW) (hD.below RD_steady (Nat.le_refl _) hW) (hva.below (Nat.le_refl _) hW))
  have hsl := sortsA_lt hU D a com hA
  have HLE := Lib.hid (fun W (hW : Below w.heap.size w W) => least_any U hU (sortsA U D a com A) (by omega) (.map um) W (hM.below hW))
  rw [leastL_eq (Nat.le_trans hU.1 (by decide)) hsl] at HLE
  have hll := Nat.lt_of_lt_of_le (leastU_lt U (sortsA U D a com A)) hp8
  have HR0 : Hid (f = 0 → r = decide ((els (leastU U (sortsA U D a com A))).length ≤ 1)) := Lib.hid (fun hf => by rw [← hr, hf, oneL])
  have HCL := Lib.hid (fun W (hW : Below w.heap.size w W) => clone16_any A (by omega) va W (hva.below (Nat.le_refl _) hW))
  have HMU := Lib.hid (fun W (hW : Below w.heap.size w W) => hM.below hW)
  have HREC := Lib.hid (fun f' (e : f = f' + 1) (A' : List Nat) va' W (hl : A'.length + f' = s0) (hA' : ∀ i, A'.getD i 0 < 2 ^ U.length) (hW : Below w.heap.size w W) (hv : Has W va' (u16s A')) r' (hr' : oneL U D a com f' A' = r') => hS f' e A' va' W hl hA' (hM.below hW) (hD.below RD_steady (Nat.le_refl _) hW) hv r' hr')
  have HBAD := Lib.hid (fun f' (e : f = f' + 1) k (hk : k < U.length) (h : oneL U D a com f' (A ++ [U.getD k 0]) = false) => show r = false by rw [← hr, e]; exact oneL_bad hk h)
  have HALL := Lib.hid (fun f' (e : f = f' + 1) (h : ∀ k, k < U.length → oneL U D a com f' (A ++ [U.getD k 0]) = true) => show r = true by rw [← hr, e]; exact oneL_all h)
  obtain ⟨ss, hss⟩ : ∃ q, q = sortsA U D a com A := ⟨_, rfl⟩
  rw [← hss] at HRS HLE HR0 hll
  obtain ⟨ls, hls⟩ : ∃ q, q = leastU U ss := ⟨_, rfl⟩
  rw [← hls] at HLE HR0 hll
  have HCN := Lib.hid (fun W => ncount_any ls (by omega) W)
  obtain ⟨ce, hce⟩ : ∃ q, q = (els ls).length := ⟨_, rfl⟩
  rw [← hce] at HCN HR0
  obtain ⟨Aa, ca, rfl, hva⟩ := hva.shape (n := q) (by rw [u16s_len, hqe])
  rw [← hqe] at hAf
  have hql := hva.len.2
  obtain ⟨n, hn⟩ : ∃ n, n = U.length := ⟨_, rfl⟩
  have hn8 : n ≤ 8 := by rw [hn]; exact hU.1
  obtain ⟨W, hW⟩ : ∃ W, W = (w.alloc (.cells #[.map mm, .slice Ao no co, .map um] 82)).alloc (.cells #[.string (bstr nm), .slice Ad dn cd, .bool a, .bool com, .int .i64 u, .int .i64 (i : Int), .int .i64 (s0 : Int), .int .u16 (s1 : Int), .int .u16 (s2 : Int), .int .u16 (s3 : Int), .int .u16 (s4 : Int)] 102) := ⟨_, rfl⟩
  have hb0 : Below w.heap.size w W := by
    rw [hW]
    repeat (first | exact Below.refl _ _ | refine Below.alloc ?_ (by first | (simp; done) | (simp; omega)) _)
  have hX0 : SOne w.heap.size (w.heap.size + 1) mm um Ao no co nm Ad dn cd a com u i s0 s1 s2 s3 s4 W := by
    rw [hW]
    exact ⟨box3 (heap2a _ _ _), box11 (termt.heap_at _ _ _ (by simp))⟩
  have hlen := (hM.below hb0).len 3
  rw [← hn] at hlen
  have HB0 := Lib.hid hb0
  have HX0 := Lib.hid hX0
  have HN := Lib.hid hn
  have HUL := Lib.hid hU
  have HAL := Lib.hid hA
  have HQE := Lib.hid hqe
  obtain ⟨j0, hij, hy0, hy1, hy2⟩ := info_parts info_ns'
  obtain ⟨⟨z0, z1, z2⟩, y0, y1, y2, y3, y4, y5, y6, y7, y8, y9, y10⟩ := hX0
  clear hM hD hDN hva hA hb0 hr hS hq hss hls hce hsl hn hqe
  by_cases hf : f = 0
  · have hq0 : q = s0 := by omega
    have HRS1 := Lib.hid (HRS.out hf)
    have HR1 := Lib.hid (HR0.out hf)
    have e1 : ((q : Int) == (s0 : Int)) = true := by rw [hq0]; simp
    have HRL : Hid (decide ((ce : Int) ≤ 1) = r) := Lib.hid (by rw [HR1.out]; exact decide_eq_decide.2 (by omega))
    subst hq0
    clear HREC HBAD HALL hf
    go_enter Tryz.func53, Tryz.ntmps53
    go_wp2_with fail
    rw [← hW]
    clear hW
    go_wp2_with fail
    refine wp_region_noPanic ?_
    refine wp_region_held_drew (S := (SOne w.heap.size (w.heap.size + 1) mm um Ao no co nm Ad dn cd a com u i q s1 s2 s3 s4)) (by kernel_rfl) ?_ (fun hHd0 => ?_)
    · exact SOne.below HX0.out (by first | exact (Below.refl _ _).drew | exact HB1.out | exact HB2.out | exact HB3.out)
    refine wpAnyH_take (i := 0) (v := ?_) rfl (by kernel_rfl) (by kernel_rfl) (by kernel_rfl) (fun _ _ _ h => h) (Or.inl ⟨by rfl, ?_⟩) (by with_reducible assumption) ?_
    rotate_left
    · intro w hSw; (try dsimp only at hSw); go_simp <;> with_reducible rfl
    (try simp only [Act.put]); (try simp only [List.setIfInBounds_toArray]); (try simp only [List.set_cons_succ, List.set_cons_zero])
    refine wpAnyH_take (i := 1) (v := ?_) rfl (by kernel_rfl) (by kernel_rfl) (by kernel_rfl) (fun _ _ _ h => h) (Or.inl ⟨by rfl, ?_⟩) (by with_reducible assumption) ?_
    rotate_left
    · intro w hSw; (try dsimp only at hSw); go_simp <;> with_reducible rfl
    (try simp only [Act.put]); (try simp only [List.setIfInBounds_toArray]); (try simp only [List.set_cons_succ, List.set_cons_zero])
    refine wpAnyH_take (i := 2) (v := ?_) rfl (by kernel_rfl) (by kernel_rfl) (by kernel_rfl) (fun _ _ _ h => h) (Or.inl ⟨by rfl, ?_⟩) (by with_reducible assumption) ?_
    rotate_left
    · intro w hSw; (try dsimp only at hSw); go_simp <;> with_reducible rfl
    (try simp only [Act.put]); (try simp only [List.setIfInBounds_toArray]); (try simp only [List.set_cons_succ, List.set_cons_zero])
    refine wpAnyH_take (i := 3) (v := ?_) rfl (by kernel_rfl) (by kernel_rfl) (by kernel_rfl) (fun _ _ _ h => h) (Or.inl ⟨by rfl, ?_⟩) (by with_reducible assumption) ?_
    rotate_left
    · intro w hSw; (try dsimp only at hSw); go_simp <;> with_reducible rfl
    (try simp only [Act.put]); (try simp only [List.setIfInBounds_toArray]); (try simp only [List.set_cons_succ, List.set_cons_zero])
    refine wpAnyH_take (i := 4) (v := ?_) rfl (by kernel_rfl) (by kernel_rfl) (by kernel_rfl) (fun _ _ _ h => h) (Or.inl ⟨by rfl, ?_⟩) (by with_reducible assumption) ?_
    rotate_left
    · intro w hSw; (try dsimp only at hSw); go_simp <;> with_reducible rfl
    (try simp only [Act.put]); (try simp only [List.setIfInBounds_toArray]); (try simp only [List.set_cons_succ, List.set_cons_zero])
    refine wpAnyH_ready (rs := [5]) (by kernel_rfl) (by simp) ?_
    refine AllReadyH.cons (o := _) rfl (fun K hK => ?_) ?_
    · (go_simp; refine (HRS1.out W.drew HB0.out.drew).mono ?_; rintro e w1 ⟨rfl, hb1⟩; have HB1 : Hid (Below W.heap.size W w1) := Lib.hid ((Below.refl _ _).drew.trans hb1); clear hb1; (try dsimp only))
      refine hK.out _ _ ?_ (fun hHd1 => ?_)
      · (try dsimp only); exact SOne.below HX0.out (by first | exact (Below.refl _ _).drew | exact HB1.out | exact HB2.out | exact HB3.out)
      clear hK K hHd0
      (try simp only [Act.put]); (try simp only [List.setIfInBounds_toArray]); (try simp only [List.set_cons_succ, List.set_cons_zero])
      refine wpAnyH_ready (rs := [6]) (by kernel_rfl) (by simp) ?_
      refine AllReadyH.cons (o := _) rfl (fun K hK => ?_) ?_
      · (go_simp; refine (HLE.out w1 (HB0.out.trans (HB1.out.mono HB0.out.size))).mono ?_; rintro e w2 ⟨rfl, hb2⟩; have HB2 : Hid (Below W.heap.size W w2) := Lib.hid (HB1.out.trans (hb2.mono HB1.out.size)); clear hb2; (try dsimp only))
        refine hK.out _ _ ?_ (fun hHd2 => ?_)
        · (try dsimp only); exact SOne.below HX0.out (by first | exact (Below.refl _ _).drew | exact HB1.out | exact HB2.out | exact HB3.out)
        clear hK K hHd1
        (try simp only [Act.put]); (try simp only [List.setIfInBounds_toArray]); (try simp only [List.set_cons_succ, List.set_cons_zero])
        refine wpAnyH_ready (rs := [7]) (by kernel_rfl) (by simp) ?_
        refine AllReadyH.cons (o := _) rfl (fun K hK => ?_) ?_
        · (go_simp; refine (HCN.out w2).mono ?_; rintro e w3 ⟨rfl, nq, rfl⟩; have HB3 : Hid (Below W.heap.size W (w2.drewN nq)) := Lib.hid (below_drewN HB2.out nq); (try dsimp only))
          refine hK.out _ _ ?_ (fun hHd3 => ?_)
          · (try dsimp only); exact SOne.below HX0.out (by first | exact (Below.refl _ _).drew | exact HB1.out | exact HB2.out | exact HB3.out)
          clear hK K hHd2
          (try simp only [Act.put]); (try simp only [List.setIfInBounds_toArray]); (try simp only [List.set_cons_succ, List.set_cons_zero])
          refine wpAnyH_ready (rs := [8]) (by kernel_rfl) (by simp) ?_
          refine AllReadyH.cons (o := _) rfl (fun K hK => ?_) ?_
          · go_simp
            refine hK.out _ _ ?_ (fun hHd4 => ?_)
            · (try dsimp only); exact SOne.below HX0.out (by first | exact (Below.refl _ _).drew | exact HB1.out | exact HB2.out | exact HB3.out)
            clear hK K hHd3
            (try simp only [Act.put]); (try simp only [List.setIfInBounds_toArray]); (try simp only [List.set_cons_succ, List.set_cons_zero])
            refine wpAnyH_ready (rs := [9]) (by kernel_rfl) (by simp) ?_
            refine AllReadyH.cons (o := _) rfl (fun K hK => ?_) ?_
            · go_simp
              refine hK.out _ _ ?_ (fun hHd5 => ?_)
              · (try dsimp only); exact SOne.below HX0.out (by first | exact (Below.refl _ _).drew | exact HB1.out | exact HB2.out | exact HB3.out)
              clear hK K hHd4
              (try simp only [Act.put]); (try simp only [List.setIfInBounds_toArray]); (try simp only [List.set_cons_succ, List.set_cons_zero])
              refine wpAnyH_done (by kernel_rfl) ?_ _
              refine NoPanic.normal ?_
              go_wp2
              go_ret
              exact ⟨ret_bool HRL.out, HB0.out.trans (HB3.out.mono HB0.out.size)⟩
            exact AllReadyH.nil
          exact AllReadyH.nil
        exact AllReadyH.nil
      exact AllReadyH.nil
    exact AllReadyH.nil
  · obtain ⟨f', hf'⟩ : ∃ f', f = f' + 1 := ⟨f - 1, by omega⟩
    have hq0 : q ≠ s0 := by omega
    have hqs : q + 1 + f' = s0 := by omega
    have e1 : ((q : Int) == (s0 : Int)) = false := by simp; omega
    have e2 : decide ((q : Int) = (s0 : Int)) = false := decide_eq_false (by omega)
    have HREC2 := Lib.hid (HREC.out f' hf')
    have HBAD2 := Lib.hid (HBAD.out f' hf')
    have HALL2 := Lib.hid (HALL.out f' hf')
    clear HREC HBAD HALL HRS HR0 HLE HCN hf hf'
    go_enter Tryz.func53, Tryz.ntmps53
    go_wp2_with fail
    rw [← hW]
    clear hW
    go_wp2
    rw [hlen]
    go_wp2
    clear hlen
    go_loopw [7, 26] (fun _ v26 wr => ∃ k : Nat, v26 = .int .i64 k ∧ k ≤ n ∧ Hid (∀ j, j < k → oneL U D a com f' (A ++ [U.getD j 0]) = true) ∧ Hid (Below W.heap.size W wr)) (fun _ i _ => n - (intOf i).toNat)
    case atStart => exact ⟨0, rfl, Nat.zero_le _, Lib.hid (fun j hj => absurd hj (Nat.not_lt_zero _)), Lib.hid (Below.refl _ _)⟩
    case round =>
      obtain ⟨k, rfl, hk, HT, HB⟩ := hrel
      clear z0 z1 z2 y0 y1 y2 y3 y4 y5 y6 y7 y8 y9 y10
      by_cases hlt : k < n
      · have HBW := Lib.hid (HB0.out.trans (HB.out.mono HB0.out.size))
        have HX := Lib.hid (HX0.out.below HB.out)
        obtain ⟨⟨z0, z1, z2⟩, y0, y1, y2, y3, y4, y5, y6, y7, y8, y9, y10⟩ := HX.out
        have hul := HUL.out.2 k
        have HLK : Hid (∀ W', Below wr.heap.size wr W' → (Instr.lookup 77 (.map um) (.int .i64 (k : Int)) false).run Tryz.prog W' = .ok (.int .u16 ((U.getD k 0 : Nat) : Int)) W') := Lib.hid (fun W' hW' => by
          have := (HMU.out W' (HBW.out.trans (hW'.mono HBW.out.size))).look (x := (k : Int)) (by omega) (by omega)
          rw [atU_nat] at this
          exact this)
        have hkU : k < U.length := by rw [← HN.out]; exact hlt
        have HB2 := Lib.hid (HBAD2.out k hkU)
        have hA2 := snoc_lt HAL.out hul
        have HT2 : Hid (oneL U D a com f' (A ++ [U.getD k 0]) = true → ∀ j, j < k + 1 → oneL U D a com f' (A ++ [U.getD j 0]) = true) := Lib.hid (fun h j hj => by
          by_cases e : j = k
          · subst e; exact h
          · exact HT.out j (by omega))
        have HRC := Lib.hid (fun va' W' hW' hv r' hr' => HREC2.out (A ++ [U.getD k 0]) va' W' (by rw [List.length_append, ← HQE.out]; exact hqs) hA2 hW' hv r' hr')
        have HSN := Lib.hid (u16s_snoc A (U.getD k 0))
        obtain ⟨x, hx⟩ : ∃ x, x = U.getD k 0 := ⟨_, rfl⟩
        rw [← hx] at HLK HB2 HT2 HRC HSN hul
        obtain ⟨rb, hrb⟩ : ∃ rb, rb = oneL U D a com f' (A ++ [x]) := ⟨_, rfl⟩
        have HRC2 := Lib.hid (fun va' W' hW' hv => HRC.out va' W' hW' hv rb hrb.symm)
        rw [← hrb] at HB2 HT2
        clear hx hrb hA2 HRC
        have HKS : Hid (∀ w', Below wr.heap.size wr w' → SOne w.heap.size (w.heap.size + 1) mm um Ao no co nm Ad dn cd a com u i s0 s1 s2 s3 s4 w' ∧ (Instr.lookup 77 (.map um) (.int .i64 (k : Int)) false).run Tryz.prog w' = .ok (.int .u16 (x : Int)) w') := Lib.hid (fun w' hw' => ⟨SOne.below HX.out hw', HLK.out w' hw'⟩)
        have HAL1 : Hid (∀ ob, Below wr.heap.size wr (wr.alloc ob).drew) := Lib.hid (fun ob => ((Below.refl _ _).alloc (Nat.le_refl _) ob).drew)
        have HAZ : Hid (∀ ob, wr.heap.size < (wr.alloc ob).drew.heap.size) := Lib.hid (fun ob => by simp)
        have HAS : Hid (∀ ob v (w2 : World), w2.ownsRow (wr.alloc ob).drew.heap.size 75 1 v A.length (u16s A) → w2.ownsRow (wr.heap.size + 1) 75 1 v A.length (u16s A)) := Lib.hid (fun ob v w2 h => by
          have e : (wr.alloc ob).drew.heap.size = wr.heap.size + 1 := by simp
          rw [e] at h; exact h)
        have HC8 : Hid ((wr.alloc (.cells #[.int .u16 (x : Int)] 75)).drew.cell? ⟨wr.heap.size, 0, none⟩ = some (.int .u16 (x : Int))) := Lib.hid (by simp)
        have HC9 : Hid (∀ (w2 : World), w2.cell? ⟨wr.heap.size, 0, none⟩ = some (.int .u16 (x : Int)) → ∀ j v, [Value.int .u16 (x : Int)][j]? = some v → w2.cell? ((⟨wr.heap.size, 0, none⟩ : Addr).add j) = some v) := Lib.hid (fun w2 h j v hv => by
          match j, hv with
          | 0, hv => simp at hv; subst hv; exact h)
        go_wp2_with fail
        refine wp_region_noPanic ?_
        refine wp_region_held_drew (S := (fun w' => SOne w.heap.size (w.heap.size + 1) mm um Ao no co nm Ad dn cd a com u i s0 s1 s2 s3 s4 w' ∧ (Instr.lookup 77 (.map um) (.int .i64 (k : Int)) false).run Tryz.prog w' = .ok (.int .u16 (x : Int)) w')) (by kernel_rfl) ?_ (fun hHd0 => ?_)
        · first | exact HKS.out _ (Below.refl _ _).drew | exact HKS.out _ HB6.out | exact HKS.out _ HB5.out | exact HKS.out _ HB2w.out | exact HKS.out _ (HAL1.out _) | exact HKS.out _ (HA2.out _)
        refine wpAnyH_take (i := 0) (v := ?_) rfl (by kernel_rfl) (by kernel_rfl) (by kernel_rfl) (fun _ _ _ h => h) (Or.inl ⟨by rfl, ?_⟩) (by with_reducible assumption) ?_
        rotate_left
        · intro w hSw; (try dsimp only at hSw); go_simp <;> with_reducible rfl
        (try simp only [Act.put]); (try simp only [List.setIfInBounds_toArray]); (try simp only [List.set_cons_succ, List.set_cons_zero])
        refine wpAnyH_take (i := 1) (v := ?_) rfl (by kernel_rfl) (by kernel_rfl) (by kernel_rfl) (fun _ _ _ h => h) (Or.inl ⟨by rfl, ?_⟩) (by with_reducible assumption) ?_
        rotate_left
        · intro w hSw; (try dsimp only at hSw); go_simp <;> with_reducible rfl
        (try simp only [Act.put]); (try simp only [List.setIfInBounds_toArray]); (try simp only [List.set_cons_succ, List.set_cons_zero])
        refine wpAnyH_take (i := 2) (v := ?_) rfl (by kernel_rfl) (by kernel_rfl) (by kernel_rfl) (fun _ _ _ h => h) (Or.inl ⟨by rfl, ?_⟩) (by with_reducible assumption) ?_
        rotate_left
        · intro w hSw; (try dsimp only at hSw); go_simp <;> with_reducible rfl
        (try simp only [Act.put]); (try simp only [List.setIfInBounds_toArray]); (try simp only [List.set_cons_succ, List.set_cons_zero])
        refine wpAnyH_take (i := 4) (v := ?_) rfl (by kernel_rfl) (by kernel_rfl) (by kernel_rfl) (fun _ _ _ h => h) (Or.inl ⟨by rfl, ?_⟩) (by with_reducible assumption) ?_
        rotate_left
        · intro w hSw; (try dsimp only at hSw); go_simp <;> with_reducible rfl
        (try simp only [Act.put]); (try simp only [List.setIfInBounds_toArray]); (try simp only [List.set_cons_succ, List.set_cons_zero])
        refine wpAnyH_take (i := 5) (v := ?_) rfl (by kernel_rfl) (by kernel_rfl) (by kernel_rfl) (fun _ _ _ h => h) (Or.inl ⟨by rfl, ?_⟩) (by with_reducible assumption) ?_
        rotate_left
        · intro w hSw; (try dsimp only at hSw); go_simp <;> with_reducible rfl
        (try simp only [Act.put]); (try simp only [List.setIfInBounds_toArray]); (try simp only [List.set_cons_succ, List.set_cons_zero])
        refine wpAnyH_take (i := 6) (v := ?_) rfl (by kernel_rfl) (by kernel_rfl) (by kernel_rfl) (fun _ _ _ h => h) (Or.inl ⟨by rfl, ?_⟩) (by with_reducible assumption) ?_
        rotate_left
        · intro w hSw; (try dsimp only at hSw); go_simp <;> with_reducible rfl
        (try simp only [Act.put]); (try simp only [List.setIfInBounds_toArray]); (try simp only [List.set_cons_succ, List.set_cons_zero])
        refine wpAnyH_take (i := 7) (v := ?_) rfl (by kernel_rfl) (by kernel_rfl) (by kernel_rfl) (fun _ _ _ h => h) (Or.inl ⟨by rfl, ?_⟩) (by with_reducible assumption) ?_
        rotate_left
        · intro w hSw; (try dsimp only at hSw); go_simp <;> with_reducible rfl
        (try simp only [Act.put]); (try simp only [List.setIfInBounds_toArray]); (try simp only [List.set_cons_succ, List.set_cons_zero])
        refine wpAnyH_ready (rs := [3, 8]) (by kernel_rfl) (by simp) ?_
        refine AllReadyH.cons (o := _) rfl (fun K hK => ?_) ?_
        · (go_simp; refine (HCL.out wr.drew HBW.out.drew).mono ?_; rintro e w2 ⟨v2, rfl, hown2, hb2⟩; have HB2w : Hid (Below wr.heap.size wr w2) := Lib.hid ((Below.refl _ _).drew.trans hb2); have HO2 : Hid (w2.ownsRow wr.heap.size 75 1 v2 A.length (u16s A)) := Lib.hid hown2; have HA2 : Hid (∀ ob, Below wr.heap.size wr (w2.alloc ob)) := Lib.hid (fun ob => HB2w.out.alloc HB2w.out.size ob); have HA3 : Hid (∀ ob, Below w2.heap.size w2 (w2.alloc ob)) := Lib.hid (fun ob => (Below.refl _ _).alloc (Nat.le_refl _) ob); clear hown2 hb2; (try dsimp only))
          refine hK.out _ _ ?_ (fun hHd1 => ?_)
          · (try dsimp only); first | exact HKS.out _ (Below.refl _ _).drew | exact HKS.out _ HB6.out | exact HKS.out _ HB5.out | exact HKS.out _ HB2w.out | exact HKS.out _ (HAL1.out _) | exact HKS.out _ (HA2.out _)
          clear hK K hHd0
          (try simp only [Act.put]); (try simp only [List.setIfInBounds_toArray]); (try simp only [List.set_cons_succ, List.set_cons_zero])
          refine wpAnyH_ready (rs := [8]) (by kernel_rfl) (by simp) ?_
          refine AllReadyH.cons (o := _) rfl (fun K hK => ?_) ?_
          · go_simp
            refine hK.out _ _ ?_ (fun hHd2 => ?_)
            · (try dsimp only); first | exact HKS.out _ (Below.refl _ _).drew | exact HKS.out _ HB6.out | exact HKS.out _ HB5.out | exact HKS.out _ HB2w.out | exact HKS.out _ (HAL1.out _) | exact HKS.out _ (HA2.out _)
            clear hK K hHd1
            (try simp only [Act.put]); (try simp only [List.setIfInBounds_toArray]); (try simp only [List.set_cons_succ, List.set_cons_zero])
            refine wpAnyH_ready (rs := [9]) (by kernel_rfl) (by simp) ?_
            refine AllReadyH.cons (o := _) rfl (fun K hK => ?_) ?_
            · (refine step_append_any (by rfl) _ _ _ (by rfl) wr.heap.size 75 j0 (.int .u16 0) 1 2 Tryz.underlying153 hij hy0 hy1 hy2 rfl (by omega) _ A.length _ (by rfl) (own_below HO2.out (HA3.out _)) ⟨w2.heap.size, 0, none⟩ 1 1 [.int .u16 (x : Int)] (by rfl) (by omega) (by rfl) (one_cell _ _ _) (one_one _ rfl) (by unfold maxLen; have := HQE.out; omega) (by have := HQE.out; omega) ((HA2.out _).size) ?_; intro g4 cap4 w5 hown5 hgr5 hg5 hlt5; have HB5 : Hid (Below wr.heap.size wr w5) := Lib.hid ((HA2.out _).grown hgr5 (HA2.out _).size (own_block HO2.out)); have HH5 : Hid (Has w5 (.slice (some ⟨g4, 0, none⟩) (A.length + 1) cap4) (u16s (A ++ [x]))) := Lib.hid (by rw [HSN.out]; exact Has.of_own hown5); clear hown5 hgr5 hg5 hlt5)
              refine hK.out _ _ ?_ (fun hHd3 => ?_)
              · (try dsimp only); first | exact HKS.out _ (Below.refl _ _).drew | exact HKS.out _ HB6.out | exact HKS.out _ HB5.out | exact HKS.out _ HB2w.out | exact HKS.out _ (HAL1.out _) | exact HKS.out _ (HA2.out _)
              clear hK K hHd2
              (try simp only [Act.put]); (try simp only [List.setIfInBounds_toArray]); (try simp only [List.set_cons_succ, List.set_cons_zero])
              refine wpAnyH_ready (rs := [10]) (by kernel_rfl) (by simp) ?_
              refine AllReadyH.cons (o := _) rfl (fun K hK => ?_) ?_
              · (go_simp; refine (HRC2.out _ w5 (HBW.out.trans (HB5.out.mono HBW.out.size)) HH5.out).mono ?_; rintro e w6 ⟨rfl, hb6⟩; have HB6 : Hid (Below wr.heap.size wr w6) := Lib.hid (HB5.out.trans (hb6.mono HB5.out.size)); clear hb6; (try dsimp only))
                refine hK.out _ _ ?_ (fun hHd4 => ?_)
                · (try dsimp only); first | exact HKS.out _ (Below.refl _ _).drew | exact HKS.out _ HB6.out | exact HKS.out _ HB5.out | exact HKS.out _ HB2w.out | exact HKS.out _ (HAL1.out _) | exact HKS.out _ (HA2.out _)
                clear hK K hHd3
                (try simp only [Act.put]); (try simp only [List.setIfInBounds_toArray]); (try simp only [List.set_cons_succ, List.set_cons_zero])
                refine wpAnyH_ready (rs := [11]) (by kernel_rfl) (by simp) ?_
                refine AllReadyH.cons (o := _) rfl (fun K hK => ?_) ?_
                · go_simp
                  refine hK.out _ _ ?_ (fun hHd5 => ?_)
                  · (try dsimp only); first | exact HKS.out _ (Below.refl _ _).drew | exact HKS.out _ HB6.out | exact HKS.out _ HB5.out | exact HKS.out _ HB2w.out | exact HKS.out _ (HAL1.out _) | exact HKS.out _ (HA2.out _)
                  clear hK K hHd4
                  (try simp only [Act.put]); (try simp only [List.setIfInBounds_toArray]); (try simp only [List.set_cons_succ, List.set_cons_zero])
                  refine wpAnyH_done (by kernel_rfl) ?_ _
                  refine NoPanic.normal ?_
                  have HBF := Lib.hid (HB.out.trans (HB6.out.mono HB.out.size))
                  cases rb with
                  | true =>
                    have HT3 := Lib.hid (HT2.out (by first | rfl | trivial))
                    go_wp2
                    go_roundw
                    case rel => exact ⟨k + 1, by go_num, by omega, HT3, HBF⟩
                    case measure => simp [intOf]; omega
                  | false =>
                    have HQ := Lib.hid (HB2.out (by first | rfl | trivial))
                    go_wp2
                    go_ret
                    exact ⟨ret_bool HQ.out.symm, HB0.out.trans (HBF.out.mono HB0.out.size)⟩
                exact AllReadyH.nil
              exact AllReadyH.nil
            exact AllReadyH.nil
          exact AllReadyH.nil
        refine AllReadyH.cons (o := _) rfl (fun K hK => ?_) ?_
        · go_simp
          refine hK.out _ _ ?_ (fun hHd6 => ?_)
          · (try dsimp only); first | exact HKS.out _ (Below.refl _ _).drew | exact HKS.out _ HB6.out | exact HKS.out _ HB5.out | exact HKS.out _ HB2w.out | exact HKS.out _ (HAL1.out _) | exact HKS.out _ (HA2.out _)
          clear hK K hHd0
          (try simp only [Act.put]); (try simp only [List.setIfInBounds_toArray]); (try simp only [List.set_cons_succ, List.set_cons_zero])
          refine wpAnyH_ready (rs := [3]) (by kernel_rfl) (by simp) ?_
          refine AllReadyH.cons (o := _) rfl (fun K hK => ?_) ?_
          · (go_simp; refine (HCL.out _ (HBW.out.trans ((HAL1.out _).mono HBW.out.size))).mono ?_; rintro e w2 ⟨v2, rfl, hown2, hb2⟩; have HB2w : Hid (Below wr.heap.size wr w2) := Lib.hid ((HAL1.out (.cells #[.int .u16 (x : Int)] 75)).trans (hb2.mono (HAL1.out _).size)); have HO2 : Hid (w2.ownsRow (wr.heap.size + 1) 75 1 v2 A.length (u16s A)) := Lib.hid (HAS.out _ _ _ hown2); have HX8 : Hid (w2.cell? ⟨wr.heap.size, 0, none⟩ = some (.int .u16 (x : Int))) := Lib.hid ((hb2.cell (p := ⟨wr.heap.size, 0, none⟩) (HAZ.out _)).trans HC8.out); clear hown2 hb2; (try dsimp only))
            refine hK.out _ _ ?_ (fun hHd7 => ?_)
            · (try dsimp only); first | exact HKS.out _ (Below.refl _ _).drew | exact HKS.out _ HB6.out | exact HKS.out _ HB5.out | exact HKS.out _ HB2w.out | exact HKS.out _ (HAL1.out _) | exact HKS.out _ (HA2.out _)
            clear hK K hHd6
            (try simp only [Act.put]); (try simp only [List.setIfInBounds_toArray]); (try simp only [List.set_cons_succ, List.set_cons_zero])
            refine wpAnyH_ready (rs := [9]) (by kernel_rfl) (by simp) ?_
            refine AllReadyH.cons (o := _) rfl (fun K hK => ?_) ?_
            · (refine step_append_any (by rfl) _ _ _ (by rfl) (wr.heap.size + 1) 75 j0 (.int .u16 0) 1 2 Tryz.underlying153 hij hy0 hy1 hy2 rfl (by omega) _ A.length _ (by rfl) (HO2.out) ⟨wr.heap.size, 0, none⟩ 1 1 [.int .u16 (x : Int)] (by rfl) (by omega) (by rfl) (HC9.out _ HX8.out) (one_one _ rfl) (by unfold maxLen; have := HQE.out; omega) (by have := HQE.out; omega) (by have h9 := block_lt_of_cell HX8.out; exact h9) ?_; intro g4 cap4 w5 hown5 hgr5 hg5 hlt5; have HB5 : Hid (Below wr.heap.size wr w5) := Lib.hid (HB2w.out.grown hgr5 HB2w.out.size (fun k hk => Nat.le_of_succ_le (own_block HO2.out k hk))); have HH5 : Hid (Has w5 (.slice (some ⟨g4, 0, none⟩) (A.length + 1) cap4) (u16s (A ++ [x]))) := Lib.hid (by rw [HSN.out]; exact Has.of_own hown5); clear hown5 hgr5 hg5 hlt5)
              refine hK.out _ _ ?_ (fun hHd8 => ?_)
              · (try dsimp only); first | exact HKS.out _ (Below.refl _ _).drew | exact HKS.out _ HB6.out | exact HKS.out _ HB5.out | exact HKS.out _ HB2w.out | exact HKS.out _ (HAL1.out _) | exact HKS.out _ (HA2.out _)
              clear hK K hHd7
              (try simp only [Act.put]); (try simp only [List.setIfInBounds_toArray]); (try simp only [List.set_cons_succ, List.set_cons_zero])
              refine wpAnyH_ready (rs := [10]) (by kernel_rfl) (by simp) ?_
              refine AllReadyH.cons (o := _) rfl (fun K hK => ?_) ?_
              · (go_simp; refine (HRC2.out _ w5 (HBW.out.trans (HB5.out.mono HBW.out.size)) HH5.out).mono ?_; rintro e w6 ⟨rfl, hb6⟩; have HB6 : Hid (Below wr.heap.size wr w6) := Lib.hid (HB5.out.trans (hb6.mono HB5.out.size)); clear hb6; (try dsimp only))
                refine hK.out _ _ ?_ (fun hHd9 => ?_)
                · (try dsimp only); first | exact HKS.out _ (Below.refl _ _).drew | exact HKS.out _ HB6.out | exact HKS.out _ HB5.out | exact HKS.out _ HB2w.out | exact HKS.out _ (HAL1.out _) | exact HKS.out _ (HA2.out _)
                clear hK K hHd8
                (try simp only [Act.put]); (try simp only [List.setIfInBounds_toArray]); (try simp only [List.set_cons_succ, List.set_cons_zero])
                refine wpAnyH_ready (rs := [11]) (by kernel_rfl) (by simp) ?_
                refine AllReadyH.cons (o := _) rfl (fun K hK => ?_) ?_
                · go_simp
                  refine hK.out _ _ ?_ (fun hHd10 => ?_)
                  · (try dsimp only); first | exact HKS.out _ (Below.refl _ _).drew | exact HKS.out _ HB6.out | exact HKS.out _ HB5.out | exact HKS.out _ HB2w.out | exact HKS.out _ (HAL1.out _) | exact HKS.out _ (HA2.out _)
                  clear hK K hHd9
                  (try simp only [Act.put]); (try simp only [List.setIfInBounds_toArray]); (try simp only [List.set_cons_succ, List.set_cons_zero])
                  refine wpAnyH_done (by kernel_rfl) ?_ _
                  refine NoPanic.normal ?_
                  have HBF := Lib.hid (HB.out.trans (HB6.out.mono HB.out.size))
                  cases rb with
                  | true =>
                    have HT3 := Lib.hid (HT2.out (by first | rfl | trivial))
                    go_wp2
                    go_roundw
                    case rel => exact ⟨k + 1, by go_num, by omega, HT3, HBF⟩
                    case measure => simp [intOf]; omega
                  | false =>
                    have HQ := Lib.hid (HB2.out (by first | rfl | trivial))
                    go_wp2
                    go_ret
                    exact ⟨ret_bool HQ.out.symm, HB0.out.trans (HBF.out.mono HB0.out.size)⟩
                exact AllReadyH.nil
              exact AllReadyH.nil
            exact AllReadyH.nil
          exact AllReadyH.nil
        exact AllReadyH.nil
      · obtain rfl : k = n := by omega
        have HQ : Hid (r = true) := Lib.hid (HALL2.out (fun j hj => HT.out j (by rw [HN.out]; exact hj)))
        go_wp2
        go_ret
        exact ⟨ret_bool HQ.out.symm, HB0.out.trans (HB.out.mono HB0.out.size)⟩
theorem oneC_all (U : List Nat) (hU : Lim U) (mm um : Option Nat) (Ao : Option Addr) (no co : Nat) (nm : List UInt8) (Ad : Option Addr) (dn cd : Nat) (a com : Bool) (u : Int) (i s0 s1 s2 s3 s4 : Nat) (D : List (List Int × Int)) (hDN : DeclN U.length s0 D) (hq : (a || com) = true → s0 = 2) (hs0 : s0 ≤ 3) : ∀ f, OneC U mm um Ao no co nm Ad dn cd a com u i s0 s1 s2 s3 s4 D f
  | 0 => oneC_step U hU mm um Ao no co nm Ad dn cd a com u i s0 s1 s2 s3 s4 D hDN hq hs0 0 (fun f' h => by omega)
  | f + 1 => oneC_step U hU mm um Ao no co nm Ad dn cd a com u i s0 s1 s2 s3 s4 D hDN hq hs0 (f + 1) (fun f' h => Nat.succ.inj h ▸ oneC_all U hU mm um Ao no co nm Ad dn cd a com u i s0 s1 s2 s3 s4 D hDN hq hs0 f)
set_option maxRecDepth 50000 in
set_option maxHeartbeats 8000000 in
/-- impl.IsPreregular -/
theorem iPre_any (P : List (List UInt8)) (Q : List (Int × Int)) (O : List OpM) (va vb vc : Value) (R : Bool) (hR : preB P Q O = R) (w : World) (h : HasG w va vb vc P Q O) :
    Calls Tryz.prog 19 #[.agg #[va, vb, vc]] w fun e w' => e = .returned (.bool R) ∧ Below w.heap.size w w' := by
  have HIS := Lib.hid (fun s (hs : sigOk P Q O = s) W (hW : Below w.heap.size w W) => sigv.iIsSig_any P Q O va vb vc s hs W (h.below (Nat.le_refl _) hW))
  have HRU := Lib.hid (fun W (hW : Below w.heap.size w W) => rules_any P Q O va vb vc W (h.below (Nat.le_refl _) hW))
  obtain ⟨A1, c1, A2, c2, A3, c3, rfl, rfl, rfl, _, _, h3l, _⟩ := h.shape
  obtain ⟨m1, hm1⟩ : ∃ q, q = P.length := ⟨_, rfl⟩
  obtain ⟨m2, hm2⟩ : ∃ q, q = Q.length := ⟨_, rfl⟩
  obtain ⟨m3, hm3⟩ : ∃ q, q = O.length := ⟨_, rfl⟩
  rw [← hm3] at h3l
  rw [← hm1, ← hm2, ← hm3] at HIS HRU ⊢
  obtain ⟨W, hW⟩ : ∃ W, W = w.alloc (.cells #[.slice A1 m1 c1, .slice A2 m2 c2, .slice A3 m3 c3] 40) := ⟨_, rfl⟩
  have hb0 : Below w.heap.size w W := by rw [hW]; exact (Below.refl _ _).alloc (Nat.le_refl _) _
  have hX0 : SRul w.heap.size (.slice A1 m1 c1) (.slice A2 m2 c2) (.slice A3 m3 c3) W.heap.size W W := by
    rw [hW]
    exact ⟨tsl.box3 (termt.heap_at _ _ _ rfl), Below.refl _ _⟩
  have hzW : w.heap.size < W.heap.size := by rw [hW]; simp
  have HB0 := Lib.hid hb0
  have HX0 := Lib.hid hX0
  obtain ⟨x0, x1, x2⟩ := hX0.1
  clear h hb0 hX0
  cases hok : sigOk P Q O with
  | false =>
    have HI1 := Lib.hid (HIS.out false hok)
    have HQ : Hid (R = false) := Lib.hid (by rw [← hR, preB, hok]; rfl)
    clear hR hok HIS hm1 hm2 hm3
    go_enter Tryz.func19, Tryz.ntmps19
    go_wp2_with fail
    rw [← hW]
    clear hW
    refine (HI1.out W HB0.out).mono ?_
    rintro e w1 ⟨rfl, hb1⟩
    go_wp2
    go_ret
    exact ⟨ret_bool HQ.out.symm, HB0.out.trans (hb1.mono HB0.out.size)⟩
  | true =>
    have HI1 := Lib.hid (HIS.out true hok)
    have hokS := (sigOk_parts hok).1
    have hlim := lim_clo hokS
    have hcl := clo_len P.length (prs Q)
    have hoU := ordU_yes hokS
    rw [hoU] at HRU
    have HRA : Hid (∀ k, k < O.length → oneL (clo P.length (prs Q)) (O.getD k default).decls (O.getD k default).ass (O.getD k default).com (ar (O.getD k default)) [] = false → R = false) := Lib.hid (fun k hk h9 => by
      rw [← hR, preB, hok, Bool.true_and, List.all_eq_false]
      exact ⟨_, op_mem' hk, by rw [h9]; simp⟩)
    have HRB : Hid ((∀ k, k < O.length → oneL (clo P.length (prs Q)) (O.getD k default).decls (O.getD k default).ass (O.getD k default).com (ar (O.getD k default)) [] = true) → R = true) := Lib.hid (fun h9 => by
      rw [← hR, preB, hok, Bool.true_and, List.all_eq_true]
      intro o ho
      obtain ⟨k, hk, rfl⟩ := List.getElem_of_mem ho
      have := h9 k hk
      rw [List.getD_eq_getElem?_getD, List.getElem?_eq_getElem hk] at this
      exact this)
    have HON : Hid (∀ (k : Nat), k < O.length → ∀ (x : OpE), x = (grM P Q O).E.getD k default → ∀ (mm um : Option Nat) (Ao : Option Addr) (no co : Nat) (Ad : Option Addr) (cd : Nat) (W' : World), MapU W' (.map um) (clo P.length (prs Q)) → HasD 0 W' (.slice Ad x.1.decls.length cd) x.1.decls → Calls Tryz.prog 53 #[.agg #[.map mm, .slice Ao no co, .map um], aggE x.1.name Ad x.1.decls.length cd x.1.ass x.1.com x.1.unt x.2.1 x.2.2.1 x.2.2.2.1 x.2.2.2.2.1 x.2.2.2.2.2.1 x.2.2.2.2.2.2, .slice none 0 0] W' fun e w' => e = .returned (.bool (oneL (clo P.length (prs Q)) (O.getD k default).decls (O.getD k default).ass (O.getD k default).com (ar (O.getD k default)) [])) ∧ Below W'.heap.size W' w') := Lib.hid (fun k hk x hx mm um Ao no co Ad cd W' hU' hD' => by
      rw [grE_at' hok hk] at hx
      subst hx
      have h3 := (okD_parts (hd_ok' hok hk)).1
      have hdn := declN hok hk
      rw [← hcl] at hdn
      exact oneC_all (clo P.length (prs Q)) hlim mm um Ao no co _ Ad _ cd _ _ _ _ _ _ _ _ _ (O.getD k default).decls hdn (fun h9 => ar_two hok hk h9) h3 (ar (O.getD k default)) [] (.slice none 0 0) W' (Nat.zero_add _) (fun i => by simp; exact Nat.two_pow_pos _) hU' hD' (HasL.has (HasL.of_has ⟨none, 0, rfl, Nat.le_refl _, by unfold maxLen; omega, fun j v hv => by simp [u16s] at hv⟩)) _ rfl)
    have HEL := Lib.hid (grE_len hok)
    rw [← hm3] at HRA HRB HON HEL
    obtain ⟨G, hG⟩ : ∃ G, G = grM P Q O := ⟨_, rfl⟩
    rw [← hG] at HRU HON HEL
    rw [HEL.out] at HRU
    obtain ⟨U, hU⟩ : ∃ U, U = clo P.length (prs Q) := ⟨_, rfl⟩
    rw [← hU] at HRU HON HRA HRB
    clear hR hok hokS hlim hcl hoU hm1 hm2 hm3 hG hU HIS
    go_enter Tryz.func19, Tryz.ntmps19
    go_wp2_with fail
    rw [← hW]
    clear hW
    refine (HI1.out W HB0.out).mono ?_
    rintro e w1 ⟨rfl, hb1⟩
    have HB1 := Lib.hid (HB0.out.trans (hb1.mono HB0.out.size))
    have hX1 := HX0.out.of hzW hb1
    clear hb1 x0 x1 x2
    obtain ⟨x0, x1, x2⟩ := hX1.1
    clear hX1
    go_wp2_with fail
    refine (HRU.out w1 HB1.out).mono ?_
    rintro e w2 ⟨mm, A4, c4, um, rfl, hM, hUm, hb2⟩
    have HB2 := Lib.hid (HB1.out.trans (hb2.mono HB1.out.size))
    have HM2 := Lib.hid hM
    have HU2 := Lib.hid hUm
    clear hb2 hM hUm x0 x1 x2
    obtain ⟨W3, hW3⟩ : ∃ W3, W3 = w2.alloc (.cells #[.map mm, .slice A4 m3 c4, .map um] 82) := ⟨_, rfl⟩
    have hb3 : Below w2.heap.size w2 W3 := by rw [hW3]; exact (Below.refl _ _).alloc (Nat.le_refl _) _
    have hR3 : SRul w2.heap.size (.map mm) (.slice A4 m3 c4) (.map um) W3.heap.size W3 W3 := by
      rw [hW3]
      exact ⟨tsl.box3 (termt.heap_at _ _ _ rfl), Below.refl _ _⟩
    have hz3 : w2.heap.size < W3.heap.size := by rw [hW3]; simp
    have HB3 := Lib.hid (HB2.out.trans (hb3.mono HB2.out.size))
    have HM3 := Lib.hid (HM2.out.below hb3)
    have HU3 := Lib.hid (HU2.out.below hb3)
    have HR3 := Lib.hid hR3
    clear hb3 hR3
    go_wp2_with fail
    rw [← hW3]
    clear hW3
    go_loopw [5, 15] (fun _ v15 wr => ∃ k : Nat, v15 = .int .i64 k ∧ k ≤ m3 ∧ Hid (∀ j, j < k → oneL U (O.getD j default).decls (O.getD j default).ass (O.getD j default).com (ar (O.getD j default)) [] = true) ∧ Hid (Below W3.heap.size W3 wr)) (fun _ i _ => m3 - (intOf i).toNat)
    case atStart => exact ⟨0, rfl, Nat.zero_le _, Lib.hid (fun j hj => absurd hj (Nat.not_lt_zero _)), Lib.hid (Below.refl _ _)⟩
    case round =>
      obtain ⟨k, rfl, hk, HT, HB⟩ := hrel
      by_cases hlt : k < m3
      · have hME := (HM3.out.below HB.out).e
        obtain ⟨ge, oe, A5, c5, hA, hge, hcs, hDD, _, _⟩ := ope_at hME (j := k) hlt
        have HON2 := Lib.hid (HON.out k hlt (G.E.getD k default) rfl mm um A4 m3 c4 A5 c5)
        have HRA2 := Lib.hid (HRA.out k hlt)
        have hT2 : oneL U (O.getD k default).decls (O.getD k default).ass (O.getD k default).com (ar (O.getD k default)) [] = true → ∀ j, j < k + 1 → oneL U (O.getD j default).decls (O.getD j default).ass (O.getD j default).com (ar (O.getD j default)) [] = true := fun h j hj => by
          by_cases e : j = k
          · subst e; exact h
          · exact HT.out j (by omega)
        have HT2 := Lib.hid hT2
        obtain ⟨rb, hrb⟩ : ∃ rb, rb = oneL U (O.getD k default).decls (O.getD k default).ass (O.getD k default).com (ar (O.getD k default)) [] := ⟨_, rfl⟩
        rw [← hrb] at HON2 HRA2 HT2
        have HDD := Lib.hid (fun W' (hW' : Below wr.heap.size wr W') => hDD.below RD_steady (Nat.le_refl _) hW')
        have HUU := Lib.hid (fun W' (hW' : Below wr.heap.size wr W') => HU3.out.below (HB.out.trans (hW'.mono HB.out.size)))
        obtain ⟨⟨⟨nm, ds, a, b, un⟩, i, s0, s1, s2, s3, s4⟩, hx⟩ : ∃ x, x = G.E.getD k default := ⟨_, rfl⟩
        rw [← hx] at hcs HON2 HDD
        simp only [] at HON2 HDD
        obtain ⟨dl, hdl⟩ : ∃ q, q = ds.length := ⟨_, rfl⟩
        rw [← hdl] at HON2 HDD
        subst hA
        have e0 : wr.cell? ⟨ge, oe + k * 11, none⟩ = some (.string (bstr nm)) := hcs 0 (by omega)
        have e1 : wr.cell? ⟨ge, oe + k * 11 + 1, none⟩ = some (.slice A5 dl c5) := by rw [hdl]; exact hcs 1 (by omega)
        have e2 : wr.cell? ⟨ge, oe + k * 11 + 2, none⟩ = some (.bool a) := hcs 2 (by omega)
        have e3 : wr.cell? ⟨ge, oe + k * 11 + 3, none⟩ = some (.bool b) := hcs 3 (by omega)
        have e4 : wr.cell? ⟨ge, oe + k * 11 + 4, none⟩ = some (.int .i64 un) := hcs 4 (by omega)
        have e5 : wr.cell? ⟨ge, oe + k * 11 + 5, none⟩ = some (.int .i64 (i : Int)) := hcs 5 (by omega)
        have e6 : wr.cell? ⟨ge, oe + k * 11 + 6, none⟩ = some (.int .i64 (s0 : Int)) := hcs 6 (by omega)
        have e7 : wr.cell? ⟨ge, oe + k * 11 + 7, none⟩ = some (.int .u16 (s1 : Int)) := hcs 7 (by omega)
        have e8 : wr.cell? ⟨ge, oe + k * 11 + 8, none⟩ = some (.int .u16 (s2 : Int)) := hcs 8 (by omega)
        have e9 : wr.cell? ⟨ge, oe + k * 11 + 9, none⟩ = some (.int .u16 (s3 : Int)) := hcs 9 (by omega)
        have e10 : wr.cell? ⟨ge, oe + k * 11 + 10, none⟩ = some (.int .u16 (s4 : Int)) := hcs 10 (by omega)
        have hRr := (HR3.out.of hz3 HB.out).1
        have hzr : w2.heap.size < wr.heap.size := Nat.lt_of_lt_of_le hz3 HB.out.size
        have hbA : ∀ ob, Below wr.heap.size wr (wr.alloc ob) := fun ob => (Below.refl _ _).alloc (Nat.le_refl _) ob
        have HBA := Lib.hid hbA
        have r0 : ∀ ob, (wr.alloc ob).cell? ⟨w2.heap.size, 0, none⟩ = some (.map mm) := fun ob => ((hbA ob).cell (p := ⟨w2.heap.size, 0, none⟩) hzr).trans hRr.1
        have r1 : ∀ ob, (wr.alloc ob).cell? ⟨w2.heap.size, 1, none⟩ = some (.slice (some ⟨ge, oe, none⟩) m3 c4) := fun ob => ((hbA ob).cell (p := ⟨w2.heap.size, 1, none⟩) hzr).trans hRr.2.1
        have r2 : ∀ ob, (wr.alloc ob).cell? ⟨w2.heap.size, 2, none⟩ = some (.map um) := fun ob => ((hbA ob).cell (p := ⟨w2.heap.size, 2, none⟩) hzr).trans hRr.2.2
        have i1 : (0 : Int) ≤ (k : Int) := by omega
        have i2 : (k : Int) < (m3 : Int) := by omega
        clear hcs hx hdl hrb hbA hRr hME hDD hT2 hge
        go_wp2_with fail
        refine (HON2.out _ (HUU.out _ (HBA.out _)) (HDD.out _ (HBA.out _))).mono ?_
        rintro e w5 ⟨rfl, hb5⟩
        have HB5 : Hid (Below W3.heap.size W3 w5) := Lib.hid (HB.out.trans (((HBA.out _).trans (hb5.mono (HBA.out _).size)).mono HB.out.size))
        clear hb5 e0 e1 e2 e3 e4 e5 e6 e7 e8 e9 e10 r0 r1 r2
        cases rb with
        | true =>
          have HT3 := Lib.hid (HT2.out (by first | rfl | trivial))
          go_wp2
          go_roundw
          case rel => exact ⟨k + 1, by go_num, by omega, HT3, HB5⟩
          case measure => simp [intOf]; omega
        | false =>
          have HQ := Lib.hid (HRA2.out (by first | rfl | trivial))
          go_wp2
          go_ret
          exact ⟨ret_bool HQ.out.symm, HB3.out.trans (HB5.out.mono HB3.out.size)⟩
      · obtain rfl : k = m3 := by omega
        have HQ : Hid (R = true) := Lib.hid (HRB.out HT.out)
        go_wp2
        go_ret
        exact ⟨ret_bool HQ.out.symm, HB3.out.trans (HB.out.mono HB3.out.size)⟩
end Go.Proofs.YtjejdcehlckfhaaGreat.tpi
