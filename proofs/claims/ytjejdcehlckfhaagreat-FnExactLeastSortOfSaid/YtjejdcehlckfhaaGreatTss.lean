/-
  THE MODEL's SORTS OF A TERM: l7Sorts, spec.SortsOf.
-/
import Derived.Test.YtjejdcehlckfhaaGreatGt
import Derived.Test.YtjejdcehlckfhaaGreatTsr
namespace Go.Proofs.YtjejdcehlckfhaaGreat.tss
open Go.ChangeShapes Go.WideShapes Go.ChangeAt Go.RowKit
open mem dec split strl subs sortn setm sets sortm sortp sorti sortf sortu sortg rowl sigm sigs sigk trm trmv terml termb termt termx termro rowg gram gramn grami formnd formk formr formf formt formm frm tsa tsm tsi tsj tsk tsn tso tsp tsq tsr

/-- two boxes, and a row's four cells -/
abbrev STrm (x y gx ox : Nat) (v0 v1 v2 u0 u1 u2 u3 a0 a1 a2 a3 : Value) (W w : World) : Prop := (Box34 x y v0 v1 v2 u0 u1 u2 u3 w ∧ w.cell? ⟨gx, ox, none⟩ = some a0 ∧ w.cell? ⟨gx, ox + 1, none⟩ = some a1 ∧ w.cell? ⟨gx, ox + 2, none⟩ = some a2 ∧ w.cell? ⟨gx, ox + 3, none⟩ = some a3) ∧ Below W.heap.size W w
theorem STrm.of {x y gx ox : Nat} {v0 v1 v2 u0 u1 u2 u3 a0 a1 a2 a3 : Value} {W w : World} (h : STrm x y gx ox v0 v1 v2 u0 u1 u2 u3 a0 a1 a2 a3 W W) (hb : Below W.heap.size W w) : STrm x y gx ox v0 v1 v2 u0 u1 u2 u3 a0 a1 a2 a3 W w := by
  have k : ∀ {a : Addr} {v : Value}, W.cell? a = some v → w.cell? a = some v := fun {a v} h => (hb.cell (p := a) (block_lt_of_cell h)).trans h
  exact ⟨⟨Box34.below h.1.1 hb, k h.1.2.1, k h.1.2.2.1, k h.1.2.2.2.1, k h.1.2.2.2.2⟩, hb⟩
abbrev STwo (x y : Nat) (v0 v1 v2 u0 u1 u2 u3 : Value) (gr : Nat) (a0 a1 : Nat) (W w : World) : Prop := (Box34 x y v0 v1 v2 u0 u1 u2 u3 w ∧ w.cell? ⟨gr, 0, none⟩ = some (.int .i64 (a0 : Int)) ∧ w.cell? ⟨gr, 1, none⟩ = some (.int .i64 (a1 : Int))) ∧ Below W.heap.size W w
theorem STwo.of {x y : Nat} {v0 v1 v2 u0 u1 u2 u3 : Value} {gr a0 a1 : Nat} {W w : World} (h : STwo x y v0 v1 v2 u0 u1 u2 u3 gr a0 a1 W W) (hb : Below W.heap.size W w) : STwo x y v0 v1 v2 u0 u1 u2 u3 gr a0 a1 W w := by
  have k : ∀ {a : Addr} {v : Value}, W.cell? a = some v → w.cell? a = some v := fun {a v} h => (hb.cell (p := a) (block_lt_of_cell h)).trans h
  exact ⟨⟨Box34.below h.1.1 hb, k h.1.2.1, k h.1.2.2⟩, hb⟩
theorem len_two {l : List Nat} (h : l.length = 2) : ∃ a b, l = [a, b] := by
  match l, h with
  | [a, b], _ => exact ⟨a, b, rfl⟩
theorem nats_snoc' (L : List Nat) (x : Nat) : ivs (nats (L ++ [x])) = ivs (nats L) ++ [.int .i64 (x : Int)] := by rw [nats_snoc, ivs_append]; rfl
def SrtC (P : List (List UInt8)) (Q : List (Int × Int)) (O : List OpM) (n : Nat) : Prop := ∀ (va vb vc : Value) (t : TermM) (v : Value) (w : World) (lo : Nat), HasG w va vb vc P Q O → HasTs n lo w v t.args → Bnd t → FormS P Q O t →
  Calls Tryz.prog 36 #[.agg #[va, vb, vc], aggT t v] w fun e w' => e = .returned (.int .i64 ((sortsT (clo P.length (prs Q)) O t : Nat) : Int)) ∧ Below w.heap.size w w'
set_option maxRecDepth 50000 in
set_option maxHeartbeats 16000000 in
theorem srtC_step (P : List (List UInt8)) (Q : List (Int × Int)) (O : List OpM) (hok : sigOk P Q O = true) {N : Nat} (hS : ∀ k, N = k + 1 → SrtC P Q O k) : SrtC P Q O N := by
  intro va vb vc t v w lo h ht hB hF
  have hokS := (sigOk_parts hok).1
  obtain ⟨p1, p2, p3, p4, _⟩ := okS_parts hokS
  have hlim := lim_clo hokS
  have hcl := clo_len P.length (prs Q)
  have hpn := pow8 p2
  obtain ⟨hnode, hargs, _⟩ := (formS_eta P Q O t).1 hF
  have HSV := Lib.hid (sortsT_eta (clo P.length (prs Q)) O t)
  have HLT := Lib.hid (sortsT_lt hlim O)
  rw [hcl] at HLT
  obtain ⟨sv, hsv⟩ : ∃ q, q = sortsT (clo P.length (prs Q)) O t := ⟨_, rfl⟩
  rw [← hsv] at HSV ⊢
  have HUP := Lib.hid (fun W (hW : Below w.heap.size w W) => l3Up_any P Q p1 p2 (by omega) p3 va vb W (h.s.below (Nat.le_refl _) hW))
  have HSS : Hid (∀ kn, N = kn + 1 → ∀ (x : TermM) (vx : Value) (W : World), Below w.heap.size w W → HasTs kn lo W vx x.args → Bnd x → FormS P Q O x → Calls Tryz.prog 36 #[.agg #[va, vb, vc], aggT x vx] W fun e w' => e = .returned (.int .i64 ((sortsT (clo P.length (prs Q)) O x : Nat) : Int)) ∧ Below W.heap.size W w') := Lib.hid (fun kn e x vx W hW hx hBx hFx => hS kn e va vb vc x vx W lo (h.below (Nat.le_refl _) hW) hx hBx hFx)
  obtain ⟨B, cb, rfl, _⟩ := HasR.shape ht rfl
  have HBAG : Hid (∀ k : Nat, t.op = (k : Int) → (O.getD k default).ass = true → (O.getD k default).com = true → ∀ W vs, Below w.heap.size w W → Has W vs (ivs (nats (t.args.map (sortsT (clo P.length (prs Q)) O)))) → Calls Tryz.prog 78 #[.agg #[va, vb, vc], .int .i64 (k : Int), vs] W fun e w' => e = .returned (.int .i64 (sv : Int)) ∧ Below W.heap.size W w') := Lib.hid (fun k hk ha hc W vs hW hv => by
    have hvv : t.op ≠ -1 := by omega
    obtain ⟨n1, _, n3, _, n5, _⟩ := node_num hok hnode hvv
    rw [hk, Int.toNat_natCast] at n1 n5
    have n6 := n5 (by rw [ha]; rfl)
    have hr := l7Bag_any P Q O hok k n1 (t.args.map (sortsT (clo P.length (prs Q)) O)) n6.1 (by rw [List.length_map]; exact n6.2) (by rw [List.length_map]; exact n3) (map_getD_lt (_U := []) (fun a _ => HLT.out a)) va vb vc vs W (h.below (Nat.le_refl _) hW) hv
    have e : sv = V true (clo P.length (prs Q)) (O.getD k default).decls (t.args.map (sortsT (clo P.length (prs Q)) O)) (2 ^ (t.args.map (sortsT (clo P.length (prs Q)) O)).length - 1) := by
      rw [HSV.out, if_neg hvv, hk, Int.toNat_natCast, sortsA, ha, hc]
      rfl
    rw [← e] at hr
    exact hr)
  have HCHN : Hid (∀ k : Nat, t.op = (k : Int) → (O.getD k default).ass = true → (O.getD k default).com = false → ∀ W vs, Below w.heap.size w W → Has W vs (ivs (nats (t.args.map (sortsT (clo P.length (prs Q)) O)))) → Calls Tryz.prog 79 #[.agg #[va, vb, vc], .int .i64 (k : Int), vs] W fun e w' => e = .returned (.int .i64 (sv : Int)) ∧ Below W.heap.size W w') := Lib.hid (fun k hk ha hc W vs hW hv => by
    have hvv : t.op ≠ -1 := by omega
    obtain ⟨n1, _, n3, _, n5, _⟩ := node_num hok hnode hvv
    rw [hk, Int.toNat_natCast] at n1 n5
    have n6 := n5 (by rw [ha]; rfl)
    have hr := l7Chain_any P Q O hok k n1 (t.args.map (sortsT (clo P.length (prs Q)) O)) n6.1 (by rw [List.length_map]; exact n6.2) (by rw [List.length_map]; exact n3) (map_getD_lt (_U := []) (fun a _ => HLT.out a)) va vb vc vs W (h.below (Nat.le_refl _) hW) hv
    have e : sv = V false (clo P.length (prs Q)) (O.getD k default).decls (t.args.map (sortsT (clo P.length (prs Q)) O)) (2 ^ (t.args.map (sortsT (clo P.length (prs Q)) O)).length - 1) := by
      rw [HSV.out, if_neg hvv, hk, Int.toNat_natCast, sortsA, ha, hc]
      rfl
    rw [← e] at hr
    exact hr)
  have HAPP : Hid (∀ k : Nat, t.op = (k : Int) → (O.getD k default).ass = false → ∀ (A : List Nat), A.length = t.args.length → (∀ i, A.getD i 0 < 2 ^ P.length) → ∀ W vs, Below w.heap.size w W → Has W vs (ivs (nats A)) → Calls Tryz.prog 80 #[.agg #[va, vb, vc], .int .i64 (k : Int), vs] W fun e w' => e = .returned (.int .i64 ((upC (clo P.length (prs Q)) (giveR (O.getD k default).decls A) : Nat) : Int)) ∧ Below W.heap.size W w') := Lib.hid (fun k hk ha A hA hAl W vs hW hv => by
    have hvv : t.op ≠ -1 := by omega
    obtain ⟨n1, _, _, _, _, n6⟩ := node_num hok hnode hvv
    rw [hk, Int.toNat_natCast] at n1 n6
    exact l7Apply_any P Q O hok k n1 A (by rw [hA]; exact n6 ha) (fun i => Nat.lt_of_lt_of_le (hAl i) (by omega)) va vb vc vs W (h.below (Nat.le_refl _) hW) hv)
  have HSA : Hid (∀ k : Nat, t.op = (k : Int) → (O.getD k default).ass = false → (O.getD k default).com = false → sv = upC (clo P.length (prs Q)) (giveR (O.getD k default).decls (t.args.map (sortsT (clo P.length (prs Q)) O)))) := Lib.hid (fun k hk ha hc => by
    rw [HSV.out, if_neg (by omega), hk, Int.toNat_natCast, sortsA, ha, hc]
    rfl)
  have HSC : Hid (∀ k : Nat, t.op = (k : Int) → (O.getD k default).ass = false → (O.getD k default).com = true → t.args.length = 2 ∧ ∀ a b, t.args.map (sortsT (clo P.length (prs Q)) O) = [a, b] → sv = upC (clo P.length (prs Q)) (giveR (O.getD k default).decls [a, b]) ||| upC (clo P.length (prs Q)) (giveR (O.getD k default).decls [b, a])) := Lib.hid (fun k hk ha hc => by
    have hvv : t.op ≠ -1 := by omega
    obtain ⟨_, _, _, _, n5, n6⟩ := node_num hok hnode hvv
    rw [hk, Int.toNat_natCast] at n5 n6
    refine ⟨by rw [n6 ha]; exact (n5 (by rw [hc]; simp)).1, fun a b e => ?_⟩
    rw [HSV.out, if_neg hvv, hk, Int.toNat_natCast, sortsA, ha, hc, e]
    exact V_two _ _ a b)
  obtain ⟨A1, c1, A2, c2, A3, c3, rfl, rfl, rfl, _, _, _, h'⟩ := h.shape
  have HH0 := Lib.hid ht
  have HAF := Lib.hid hargs
  have HTK := Lib.hid (takeS (clo P.length (prs Q)) O t.args)
  have HGO := Lib.hid h'.o
  have HVR : Hid (t.op = -1 → (0 ≤ t.sort ∧ t.sort < P.length) ∧ sv = (clo P.length (prs Q)).getD t.sort.toNat 0) := Lib.hid (fun e => by
    have h9 := hnode
    unfold NodeS at h9
    rw [if_pos e] at h9
    exact ⟨h9.2.1, by rw [HSV.out, if_pos e]⟩)
  have HNN : Hid (t.op ≠ -1 → ∃ k : Nat, t.op = (k : Int) ∧ k < O.length ∧ t.args.length ≤ 7) := Lib.hid (fun e => by
    obtain ⟨n1, n2, n3, _⟩ := node_num hok hnode e
    exact ⟨t.op.toNat, by omega, n1, n3⟩)
  obtain ⟨L, hL⟩ : ∃ L, L = t.args := ⟨_, rfl⟩
  obtain ⟨q, hq⟩ : ∃ q, q = t.args.length := ⟨_, rfl⟩
  have HQL : Hid (q = L.length) := Lib.hid (by rw [hq, hL])
  obtain ⟨to, hto⟩ : ∃ q, q = t.op := ⟨_, rfl⟩
  obtain ⟨tn, htn⟩ : ∃ q, q = t.name := ⟨_, rfl⟩
  obtain ⟨ts, hts⟩ : ∃ q, q = t.sort := ⟨_, rfl⟩
  obtain ⟨m1, hm1⟩ : ∃ q, q = P.length := ⟨_, rfl⟩
  obtain ⟨m2, hm2⟩ : ∃ q, q = Q.length := ⟨_, rfl⟩
  obtain ⟨m3, hm3⟩ : ∃ q, q = O.length := ⟨_, rfl⟩
  unfold aggT
  rw [← hq, ← hto, ← htn, ← hts, ← hm1, ← hm2, ← hm3]
  rw [← hm1] at HLT hpn
  rw [← hm1, ← hm2] at HUP
  rw [← hm1, ← hm2, ← hm3] at HSS
  rw [← hto, ← hm1, ← hm2, ← hm3, ← hL] at HBAG HCHN
  rw [← hto, ← hm1, ← hm2, ← hm3, ← hq] at HAPP
  rw [← hto, ← hm1, ← hL] at HSA
  rw [← hto, ← hm1, ← hq, ← hL] at HSC
  rw [← hto, ← hts, ← hm1] at HVR
  rw [← hto, ← hm3, ← hq] at HNN
  rw [← hq, ← hL] at HH0
  rw [← hL] at HAF HTK
  rw [← hm1] at HTK
  rw [← hm3] at HGO
  obtain ⟨U, hU⟩ : ∃ q, q = clo m1 (prs Q) := ⟨_, rfl⟩
  have HUL : Hid (U.length = m1) := Lib.hid (by rw [hU]; exact clo_len _ _)
  have HLM : Hid (Lim U) := Lib.hid (by rw [hU, hm1]; exact hlim)
  rw [← hU] at HLT HUP HSS HBAG HCHN HAPP HSA HSC HVR HTK
  clear h h' ht hB hF hnode hargs hokS p1 p2 p3 p4 hlim hcl HSV hsv hq hL hto htn hts hm1 hm2 hm3 hS hok hU
  obtain ⟨W, hW⟩ : ∃ W, W = (w.alloc (.cells #[.slice A1 m1 c1, .slice A2 m2 c2, .slice A3 m3 c3] 40)).alloc (.cells #[.int .i64 to, .string (bstr tn), .int .i64 ts, .slice B q cb] 44) := ⟨_, rfl⟩
  have hb0 : Below w.heap.size w W := by
    rw [hW]
    repeat (first | exact Below.refl _ _ | refine Below.alloc ?_ (by first | (simp; done) | (simp; omega)) _)
  have hX0 : Box34 w.heap.size (w.heap.size + 1) (.slice A1 m1 c1) (.slice A2 m2 c2) (.slice A3 m3 c3) (.int .i64 to) (.string (bstr tn)) (.int .i64 ts) (.slice B q cb) W := by
    rw [hW]
    exact ⟨tsl.box3 (tsl.heap2a _ _ _), box4 (termt.heap_at _ _ _ (by simp))⟩
  have HX := Lib.hid hX0
  have HB0 := Lib.hid hb0
  have HZ : Hid (W.heap.size = w.heap.size + 1 + 1) := Lib.hid (by rw [hW]; simp)
  obtain ⟨⟨x0, x1, x2⟩, y0, y1, y2, y3⟩ := hX0
  clear hb0
  obtain ⟨j0, hij, hy0, hy1, hy2⟩ := info_parts info_int
  by_cases hv : to = -1
  · obtain ⟨⟨hs0, hs1⟩, hsv⟩ := HVR.out hv
    obtain ⟨s, rfl⟩ : ∃ s : Nat, ts = (s : Int) := ⟨ts.toNat, by omega⟩
    rw [Int.toNat_natCast] at hsv
    have hsm : s < m1 := by omega
    have HSV := Lib.hid hsv
    subst hv
    clear hsv HVR HNN
    go_enter Tryz.func36, Tryz.ntmps36
    go_wp2_with fail
    rw [← hW]
    clear hW
    go_wp2_with fail
    refine wp_region_noPanic ?_
    refine wp_region_held_drew (S := (Box34 w.heap.size (w.heap.size + 1) (.slice A1 m1 c1) (.slice A2 m2 c2) (.slice A3 m3 c3) (.int .i64 (-1)) (.string (bstr tn)) (.int .i64 (s : Int)) (.slice B q cb))) (by kernel_rfl) ?_ (fun hHd0 => ?_)
    · exact HX.out
    refine wpAnyH_take (i := 0) (v := ?_) rfl (by kernel_rfl) (by kernel_rfl) (by kernel_rfl) (fun _ _ _ h => h) (Or.inl ⟨by rfl, ?_⟩) (by with_reducible assumption) ?_
    rotate_left
    · intro w hSw; (try dsimp only at hSw); go_simp <;> with_reducible rfl
    (try simp only [Act.put]); (try simp only [List.setIfInBounds_toArray]); (try simp only [List.set_cons_succ, List.set_cons_zero])
    refine wpAnyH_take (i := 1) (v := ?_) rfl (by kernel_rfl) (by kernel_rfl) (by kernel_rfl) (fun _ _ _ h => h) (Or.inl ⟨by rfl, ?_⟩) (by with_reducible assumption) ?_
    rotate_left
    · intro w hSw; (try dsimp only at hSw); go_simp <;> with_reducible rfl
    (try simp only [Act.put]); (try simp only [List.setIfInBounds_toArray]); (try simp only [List.set_cons_succ, List.set_cons_zero])
    refine wpAnyH_take (i := 3) (v := ?_) rfl (by kernel_rfl) (by kernel_rfl) (by kernel_rfl) (fun _ _ _ h => h) (Or.inl ⟨by rfl, ?_⟩) (by with_reducible assumption) ?_
    rotate_left
    · intro w hSw; (try dsimp only at hSw); go_simp <;> with_reducible rfl
    (try simp only [Act.put]); (try simp only [List.setIfInBounds_toArray]); (try simp only [List.set_cons_succ, List.set_cons_zero])
    refine wpAnyH_take (i := 4) (v := ?_) rfl (by kernel_rfl) (by kernel_rfl) (by kernel_rfl) (fun _ _ _ h => h) (Or.inl ⟨by rfl, ?_⟩) (by with_reducible assumption) ?_
    rotate_left
    · intro w hSw; (try dsimp only at hSw); go_simp <;> with_reducible rfl
    (try simp only [Act.put]); (try simp only [List.setIfInBounds_toArray]); (try simp only [List.set_cons_succ, List.set_cons_zero])
    refine wpAnyH_ready (rs := [2]) (by kernel_rfl) (by simp) ?_
    refine AllReadyH.cons (o := _) rfl (fun K hK => ?_) ?_
    · (go_simp; refine (HUP.out W.drew HB0.out.drew).mono ?_; rintro e w1 ⟨uv1, rfl, hown, hb1⟩; obtain ⟨gu, cu, rfl, hgu, hgs⟩ := own_shape hown (by intro e; have := hown.1; rw [e] at this; simp at this; omega); obtain ⟨d0, _⟩ := in_cell hown hsm; rw [← HSV.out] at d0; have hX1 := Box34.below (w := W.drew) HX.out hb1; have HB1 : Hid (Below w.heap.size w w1) := Lib.hid (HB0.out.drew.trans (hb1.mono HB0.out.size)); have j1 : (0 : Int) ≤ (s : Int) := (by omega); have j2 : (s : Int) < (m1 : Int) := (by omega); clear hown hb1; (try dsimp only))
      refine hK.out _ _ ?_ (fun hHd1 => ?_)
      · (try dsimp only); first | (with_reducible assumption) | (exact hX1)
      clear hK K hHd0
      (try simp only [Act.put]); (try simp only [List.setIfInBounds_toArray]); (try simp only [List.set_cons_succ, List.set_cons_zero])
      refine wpAnyH_ready (rs := [5]) (by kernel_rfl) (by simp) ?_
      refine AllReadyH.cons (o := _) rfl (fun K hK => ?_) ?_
      · go_simp
        refine hK.out _ _ ?_ (fun hHd2 => ?_)
        · (try dsimp only); first | (with_reducible assumption) | (exact hX1)
        clear hK K hHd1
        (try simp only [Act.put]); (try simp only [List.setIfInBounds_toArray]); (try simp only [List.set_cons_succ, List.set_cons_zero])
        refine wpAnyH_ready (rs := [6]) (by kernel_rfl) (by simp) ?_
        refine AllReadyH.cons (o := _) rfl (fun K hK => ?_) ?_
        · go_simp
          refine hK.out _ _ ?_ (fun hHd3 => ?_)
          · (try dsimp only); first | (with_reducible assumption) | (exact hX1)
          clear hK K hHd2
          (try simp only [Act.put]); (try simp only [List.setIfInBounds_toArray]); (try simp only [List.set_cons_succ, List.set_cons_zero])
          refine wpAnyH_ready (rs := [7]) (by kernel_rfl) (by simp) ?_
          refine AllReadyH.cons (o := _) rfl (fun K hK => ?_) ?_
          · go_simp
            refine hK.out _ _ ?_ (fun hHd4 => ?_)
            · (try dsimp only); first | (with_reducible assumption) | (exact hX1)
            clear hK K hHd3
            (try simp only [Act.put]); (try simp only [List.setIfInBounds_toArray]); (try simp only [List.set_cons_succ, List.set_cons_zero])
            refine wpAnyH_done (by kernel_rfl) ?_ _
            refine NoPanic.normal ?_
            go_wp2
            go_ret
            exact ⟨rfl, HB1.out⟩
          exact AllReadyH.nil
        exact AllReadyH.nil
      exact AllReadyH.nil
    exact AllReadyH.nil
  · obtain ⟨k, hk, hkm, hq7⟩ := HNN.out hv
    have v1 : (to == -1) = false := by simp [hv]
    have v2 : decide (to = -1) = false := decide_eq_false hv
    have HV := Lib.hid hv
    have HK := Lib.hid hk
    obtain ⟨go', oo, Ad, cd, hA3, _, hgo, e0, e1, e2, e3, e4, _, _, _⟩ := op_at HGO.out hkm
    have HEO := Lib.hid (And.intro e0 (And.intro e1 (And.intro e2 (And.intro e3 e4))))
    subst hA3
    clear HVR HNN hv hk e0 e1 e2 e3 e4 HGO
    go_enter Tryz.func36, Tryz.ntmps36
    go_wp2_with fail
    rw [← hW]
    clear hW
    go_wp2
    have HINI : Hid ((W.alloc (.cells #[] 3)).ownsRow W.heap.size 3 1 (.slice (some ⟨w.heap.size + 1 + 1, 0, none⟩) 0 0) 0 (ivs (nats ([] : List Nat)))) := Lib.hid (by
      rw [← HZ.out]
      have := World.ownsRow_lit (e := 3) (size := 1) W #[] 0 (Nat.le_refl _) (by unfold maxLen; omega) rfl
      simpa [ivs, nats] using this)
    clear x0 x1 x2 y0 y1 y2 y3
    go_loopw [5, 6] (fun v5 v6 wr => ∃ p : Nat, v6 = .int .i64 p ∧ p ≤ q ∧ Hid (wr.ownsRow W.heap.size 3 1 v5 p (ivs (nats ((L.take p).map (sortsT U O))))) ∧ Hid (Below W.heap.size W wr)) (fun _ i _ => q - (intOf i).toNat)
    case atStart => exact ⟨0, rfl, Nat.zero_le _, Lib.hid (by simpa using HINI.out), Lib.hid ((Below.refl _ _).alloc (Nat.le_refl _) _)⟩
    case round =>
      obtain ⟨p, rfl, hp, HO, HB⟩ := hrel
      clear HINI
      have hsz := HB.out.size
      have hbx := Box34.below HX.out HB.out
      have HBX := Lib.hid hbx
      obtain ⟨⟨x0, x1, x2⟩, y0, y1, y2, y3⟩ := hbx
      have HBW := Lib.hid (HB0.out.trans (HB.out.mono HB0.out.size))
      by_cases hlt : p < q
      · obtain ⟨kn, gx, ox, B2, cx, hNk, rfl, _, hgx, f0, f1, f2, f3, hxx, hbb⟩ := term_at HH0.out hlt
        have hbw := HBW.out
        have hmem : L.getD p default ∈ L := by rw [List.getD_eq_getElem?_getD, List.getElem?_eq_getElem (by have := HQL.out; omega)]; exact List.getElem_mem _
        have hfx := HAF.out _ hmem
        have HTK2 := Lib.hid (HTK.out p (by have := HQL.out; omega))
        have g0 := (hbw.cell (p := ⟨gx, ox + p * 4, none⟩) hgx).trans f0
        have g1 := (hbw.cell (p := ⟨gx, ox + p * 4 + 1, none⟩) hgx).trans f1
        have g2 := (hbw.cell (p := ⟨gx, ox + p * 4 + 2, none⟩) hgx).trans f2
        have g3 := (hbw.cell (p := ⟨gx, ox + p * 4 + 3, none⟩) hgx).trans f3
        obtain ⟨x, hx⟩ : ∃ x, x = L.getD p default := ⟨_, rfl⟩
        rw [← hx] at g0 g1 g2 g3 hxx hbb hfx HTK2
        have HC1 : Hid (∀ W', Below w.heap.size w W' → Calls Tryz.prog 36 #[.agg #[.slice A1 m1 c1, .slice A2 m2 c2, .slice (some ⟨go', oo, none⟩) m3 c3], .agg #[.int .i64 x.op, .string (bstr x.name), .int .i64 x.sort, .slice B2 x.args.length cx]] W' fun e w' => e = .returned (.int .i64 ((sortsT U O x : Nat) : Int)) ∧ Below W'.heap.size W' w') := Lib.hid (fun W' hW' => HSS.out kn hNk x (.slice B2 x.args.length cx) W' hW' (hxx.below (Nat.le_refl _) hW') hbb hfx)
        obtain ⟨xv, hxv⟩ : ∃ xv, xv = sortsT U O x := ⟨_, rfl⟩
        rw [← hxv] at HC1 HTK2
        have HSK : Hid (∀ w', Below W.heap.size W w' → (Box34 w.heap.size (w.heap.size + 1) (.slice A1 m1 c1) (.slice A2 m2 c2) (.slice (some ⟨go', oo, none⟩) m3 c3) (.int .i64 to) (.string (bstr tn)) (.int .i64 ts) (.slice (some ⟨gx, ox, none⟩) q cb) w' ∧ w'.cell? ⟨gx, ox + p * 4, none⟩ = some (.int .i64 x.op) ∧ w'.cell? ⟨gx, ox + p * 4 + 1, none⟩ = some (.string (bstr x.name)) ∧ w'.cell? ⟨gx, ox + p * 4 + 2, none⟩ = some (.int .i64 x.sort) ∧ w'.cell? ⟨gx, ox + p * 4 + 3, none⟩ = some (.slice B2 x.args.length cx)) ∧ Below W.heap.size W w') := Lib.hid (fun w' hw' => by
          have hb9 := HB0.out.trans (hw'.mono HB0.out.size)
          rw [hx]
          exact ⟨⟨Box34.below HX.out hw', (hb9.cell (p := ⟨gx, ox + p * 4, none⟩) hgx).trans f0, (hb9.cell (p := ⟨gx, ox + p * 4 + 1, none⟩) hgx).trans f1, (hb9.cell (p := ⟨gx, ox + p * 4 + 2, none⟩) hgx).trans f2, (hb9.cell (p := ⟨gx, ox + p * 4 + 3, none⟩) hgx).trans f3⟩, hw'⟩)
        have i1 : (0 : Int) ≤ (p : Int) := by omega
        have i2 : (p : Int) < (q : Int) := by omega
        have d1 : decide ((p : Int) < (q : Int)) = true := decide_eq_true (by omega)
        obtain ⟨wo, rfl⟩ : ∃ wo, wo = wr := ⟨wr, rfl⟩
        clear f0 f1 f2 f3 hxx hbb hfx hmem hx hxv hbw
        go_wp2_with fail
        refine wp_region_noPanic ?_
        refine wp_region_held_drew (S := (fun w' => (Box34 w.heap.size (w.heap.size + 1) (.slice A1 m1 c1) (.slice A2 m2 c2) (.slice (some ⟨go', oo, none⟩) m3 c3) (.int .i64 to) (.string (bstr tn)) (.int .i64 ts) (.slice (some ⟨gx, ox, none⟩) q cb) w' ∧ w'.cell? ⟨gx, ox + p * 4, none⟩ = some (.int .i64 x.op) ∧ w'.cell? ⟨gx, ox + p * 4 + 1, none⟩ = some (.string (bstr x.name)) ∧ w'.cell? ⟨gx, ox + p * 4 + 2, none⟩ = some (.int .i64 x.sort) ∧ w'.cell? ⟨gx, ox + p * 4 + 3, none⟩ = some (.slice B2 x.args.length cx)) ∧ Below W.heap.size W w')) (by kernel_rfl) ?_ (fun hHd0 => ?_)
        · exact HSK.out _ (by first | exact HB.out.drew | exact HB2W.out | exact HQ1.out _ | exact HB5.out)
        refine wpAnyH_take (i := 0) (v := ?_) rfl (by kernel_rfl) (by kernel_rfl) (by kernel_rfl) (fun _ _ _ h => h) (Or.inl ⟨by rfl, ?_⟩) (by with_reducible assumption) ?_
        rotate_left
        · intro w hSw; (try dsimp only at hSw); go_simp <;> with_reducible rfl
        (try simp only [Act.put]); (try simp only [List.setIfInBounds_toArray]); (try simp only [List.set_cons_succ, List.set_cons_zero])
        refine wpAnyH_take (i := 1) (v := ?_) rfl (by kernel_rfl) (by kernel_rfl) (by kernel_rfl) (fun _ _ _ h => h) (Or.inl ⟨by rfl, ?_⟩) (by with_reducible assumption) ?_
        rotate_left
        · intro w hSw; (try dsimp only at hSw); go_simp <;> with_reducible rfl
        (try simp only [Act.put]); (try simp only [List.setIfInBounds_toArray]); (try simp only [List.set_cons_succ, List.set_cons_zero])
        refine wpAnyH_take (i := 2) (v := ?_) rfl (by kernel_rfl) (by kernel_rfl) (by kernel_rfl) (fun _ _ _ h => h) (Or.inl ⟨by rfl, ?_⟩) (by with_reducible assumption) ?_
        rotate_left
        · intro w hSw; (try dsimp only at hSw); go_simp <;> with_reducible rfl
        (try simp only [Act.put]); (try simp only [List.setIfInBounds_toArray]); (try simp only [List.set_cons_succ, List.set_cons_zero])
        refine wpAnyH_take (i := 3) (v := ?_) rfl (by kernel_rfl) (by kernel_rfl) (by kernel_rfl) (fun _ _ _ h => h) (Or.inl ⟨by rfl, ?_⟩) (by with_reducible assumption) ?_
        rotate_left
        · intro w hSw; (try dsimp only at hSw); go_simp <;> with_reducible rfl
        (try simp only [Act.put]); (try simp only [List.setIfInBounds_toArray]); (try simp only [List.set_cons_succ, List.set_cons_zero])
        refine wpAnyH_take (i := 4) (v := ?_) rfl (by kernel_rfl) (by kernel_rfl) (by kernel_rfl) (fun _ _ _ h => h) (Or.inl ⟨by rfl, ?_⟩) (by with_reducible assumption) ?_
        rotate_left
        · intro w hSw; (try dsimp only at hSw); go_simp <;> with_reducible rfl
        (try simp only [Act.put]); (try simp only [List.setIfInBounds_toArray]); (try simp only [List.set_cons_succ, List.set_cons_zero])
        refine wpAnyH_take (i := 5) (v := ?_) rfl (by kernel_rfl) (by kernel_rfl) (by kernel_rfl) (fun _ _ _ h => h) (Or.inl ⟨by rfl, ?_⟩) (by with_reducible assumption) ?_
        rotate_left
        · intro w hSw; (try dsimp only at hSw); go_simp <;> with_reducible rfl
        (try simp only [Act.put]); (try simp only [List.setIfInBounds_toArray]); (try simp only [List.set_cons_succ, List.set_cons_zero])
        refine wpAnyH_take (i := 6) (v := ?_) rfl (by kernel_rfl) (by kernel_rfl) (by kernel_rfl) (fun _ _ _ h => h) (Or.inl ⟨by rfl, ?_⟩) (by with_reducible assumption) ?_
        rotate_left
        · intro w hSw; (try dsimp only at hSw); go_simp <;> with_reducible rfl
        (try simp only [Act.put]); (try simp only [List.setIfInBounds_toArray]); (try simp only [List.set_cons_succ, List.set_cons_zero])
        refine wpAnyH_ready (rs := [7]) (by kernel_rfl) (by simp) ?_
        refine AllReadyH.cons (o := _) rfl (fun K hK => ?_) ?_
        · (go_simp; refine (HC1.out _ HBW.out.drew).mono ?_; rintro e w2 ⟨rfl, hb2⟩; have HB2 : Hid (Below wo.heap.size wo w2) := Lib.hid ((Below.refl _ _).drew.trans hb2); have HB2W : Hid (Below W.heap.size W w2) := Lib.hid (HB.out.trans (HB2.out.mono hsz)); have HO2 := Lib.hid (own_below HO.out HB2.out); have HQ1 : Hid (∀ ob, Below W.heap.size W (w2.alloc ob)) := Lib.hid (fun ob => HB2W.out.alloc HB2W.out.size ob); have HQ1o : Hid (∀ ob, Below wo.heap.size wo (w2.alloc ob)) := Lib.hid (fun ob => HB2.out.alloc HB2.out.size ob); have HQ2 : Hid (∀ ob, Below w2.heap.size w2 (w2.alloc ob)) := Lib.hid (fun ob => (Below.refl _ _).alloc (Nat.le_refl _) ob); have HQ3 : Hid (∀ ob, W.heap.size ≤ (w2.alloc ob).heap.size) := Lib.hid (fun ob => (HQ1.out ob).size); clear hb2; (try dsimp only))
          refine hK.out _ _ ?_ (fun hHd1 => ?_)
          · (try dsimp only); exact HSK.out _ (by first | exact HB.out.drew | exact HB2W.out | exact HQ1.out _ | exact HB5.out)
          clear hK K hHd0
          (try simp only [Act.put]); (try simp only [List.setIfInBounds_toArray]); (try simp only [List.set_cons_succ, List.set_cons_zero])
          refine wpAnyH_ready (rs := [8]) (by kernel_rfl) (by simp) ?_
          refine AllReadyH.cons (o := _) rfl (fun K hK => ?_) ?_
          · go_simp
            refine hK.out _ _ ?_ (fun hHd2 => ?_)
            · (try dsimp only); exact HSK.out _ (by first | exact HB.out.drew | exact HB2W.out | exact HQ1.out _ | exact HB5.out)
            clear hK K hHd1
            (try simp only [Act.put]); (try simp only [List.setIfInBounds_toArray]); (try simp only [List.set_cons_succ, List.set_cons_zero])
            refine wpAnyH_ready (rs := [9]) (by kernel_rfl) (by simp) ?_
            refine AllReadyH.cons (o := _) rfl (fun K hK => ?_) ?_
            · (refine step_append_any (by rfl) _ _ _ (by rfl) W.heap.size 3 j0 (.int .i64 0) 1 8 Tryz.underlying88 hij hy0 hy1 hy2 rfl (by omega) _ p _ (by rfl) (own_below HO2.out (HQ2.out _)) ⟨w2.heap.size, 0, none⟩ 1 1 [.int .i64 (xv : Int)] (by rfl) (by omega) (by rfl) (one_cell _ _ _) (one_one _ rfl) (by unfold maxLen; omega) (by omega) (HQ3.out _) ?_; intro g4 cap4 w5 hown5 hgr5 hg5 hlt5; have HB5 : Hid (Below W.heap.size W w5) := Lib.hid ((HQ1.out _).grown hgr5 (HQ3.out _) (own_block HO2.out)); clear hgr5 hg5 hlt5)
              refine hK.out _ _ ?_ (fun hHd3 => ?_)
              · (try dsimp only); exact HSK.out _ (by first | exact HB.out.drew | exact HB2W.out | exact HQ1.out _ | exact HB5.out)
              clear hK K hHd2
              (try simp only [Act.put]); (try simp only [List.setIfInBounds_toArray]); (try simp only [List.set_cons_succ, List.set_cons_zero])
              refine wpAnyH_take (i := 10) (v := ?_) rfl (by kernel_rfl) (by kernel_rfl) (by kernel_rfl) (fun _ _ _ h => h) (Or.inl ⟨by rfl, ?_⟩) (by with_reducible assumption) ?_
              rotate_left
              · intro w hSw; (try dsimp only at hSw); go_simp <;> with_reducible rfl
              (try simp only [Act.put]); (try simp only [List.setIfInBounds_toArray]); (try simp only [List.set_cons_succ, List.set_cons_zero])
              refine wpAnyH_done (by kernel_rfl) ?_ _
              refine NoPanic.normal ?_
              have HO6 : Hid (w5.ownsRow W.heap.size 3 1 (.slice (some ⟨g4, 0, none⟩) (p + 1) cap4) (p + 1) (ivs (nats ((L.take (p + 1)).map (sortsT U O))))) := Lib.hid (by rw [HTK2.out, nats_snoc']; exact hown5)
              clear hown5
              go_wp2
              go_roundw
              case rel => exact ⟨p + 1, by go_num, by omega, HO6, HB5⟩
              case measure => simp [intOf]; omega
            exact AllReadyH.nil
          exact AllReadyH.nil
        exact AllReadyH.nil
      · obtain rfl : p = q := by omega
        have d1 : decide ((p : Int) < (p : Int)) = false := decide_eq_false (by omega)
        have HLL : Hid ((L.take p).map (sortsT U O) = L.map (sortsT U O)) := Lib.hid (by rw [HQL.out, List.take_length])
        have ho := HO.out
        rw [HLL.out] at ho
        have HOW := Lib.hid ho
        obtain ⟨Ar, cr, rfl, _⟩ := own_slice ho
        have HHA := Lib.hid (Has.of_own ho)
        obtain ⟨e0, e1, e2, e3, e4⟩ := HEO.out
        have c0 := (HBW.out.cell (p := ⟨go', oo + k * 5, none⟩) hgo).trans e0
        have c1' := (HBW.out.cell (p := ⟨go', oo + k * 5 + 1, none⟩) hgo).trans e1
        have c2' := (HBW.out.cell (p := ⟨go', oo + k * 5 + 2, none⟩) hgo).trans e2
        have c3' := (HBW.out.cell (p := ⟨go', oo + k * 5 + 3, none⟩) hgo).trans e3
        have c4 := (HBW.out.cell (p := ⟨go', oo + k * 5 + 4, none⟩) hgo).trans e4
        have HBG := Lib.hid (HBAG.out k HK.out)
        have HCG := Lib.hid (HCHN.out k HK.out)
        have HAG := Lib.hid (HAPP.out k HK.out)
        have HSAG := Lib.hid (HSA.out k HK.out)
        have HSCG := Lib.hid (HSC.out k HK.out)
        obtain ⟨⟨nm, ds, ass, com, un⟩, hop⟩ : ∃ op, op = O.getD k default := ⟨_, rfl⟩
        rw [← hop] at c0 c1' c2' c3' c4 HBG HCG HAG HSAG HSCG
        simp only [] at c0 c1' c2' c3' c4
        obtain ⟨dl, hdl⟩ : ∃ q, q = ds.length := ⟨_, rfl⟩
        rw [← hdl] at c1'
        have i1 : (0 : Int) ≤ (k : Int) := by omega
        have i2 : (k : Int) < (m3 : Int) := by omega
        have hk := HK.out
        subst hk
        clear e0 e1 e2 e3 e4 hop hdl ho HO
        obtain ⟨WA, hWA⟩ : ∃ WA, WA = wr.alloc (.cells #[.string (bstr nm), .slice Ad dl cd, .bool ass, .bool com, .int .i64 un] 97) := ⟨_, rfl⟩
        have hbA : Below wr.heap.size wr WA := by rw [hWA]; exact (Below.refl _ _).alloc (Nat.le_refl _) _
        have hop5 : WA.heap[wr.heap.size]? = some (.cells #[.string (bstr nm), .slice Ad dl cd, .bool ass, .bool com, .int .i64 un] 97 (0, 0)) := by rw [hWA]; exact termt.heap_at _ _ _ rfl
        have HWA := Lib.hid hbA
        have HBA := Lib.hid (HBW.out.trans (hbA.mono HBW.out.size))
        have HBXA := Lib.hid (Box34.below HBX.out hbA)
        have HHAA := Lib.hid (HHA.out.below (Nat.le_refl _) hbA)
        have HOWA := Lib.hid (own_below HOW.out hbA)
        have kA : ∀ {g y : Nat} {v : Value}, wr.cell? ⟨g, y, none⟩ = some v → ∀ ob, (wr.alloc ob).cell? ⟨g, y, none⟩ = some v := fun {g y v} h ob => (((Below.refl wr.heap.size wr).alloc (Nat.le_refl _) ob).cell (p := ⟨g, y, none⟩) (block_lt_of_cell h)).trans h
        have xa0 := kA x0
        have xa1 := kA x1
        have xa2 := kA x2
        have ya0 := kA y0
        have ya1 := kA y1
        have ya2 := kA y2
        have ya3 := kA y3
        clear hbA hop5 kA
        cases ass with
        | true =>
          cases com with
          | true =>
            go_wp2_with fail
            rw [← hWA]
            refine (HBG.out (by first | rfl | trivial) (by first | rfl | trivial) WA _ HBA.out HHAA.out).mono ?_
            rintro e w5 ⟨rfl, hb5⟩
            have HBF := Lib.hid (HBA.out.trans (hb5.mono HBA.out.size))
            clear hb5
            go_wp2
            go_ret
            exact ⟨rfl, HBF.out⟩
          | false =>
            go_wp2_with fail
            rw [← hWA]
            refine (HCG.out (by first | rfl | trivial) (by first | rfl | trivial) WA _ HBA.out HHAA.out).mono ?_
            rintro e w5 ⟨rfl, hb5⟩
            have HBF := Lib.hid (HBA.out.trans (hb5.mono HBA.out.size))
            clear hb5
            go_wp2
            go_ret
            exact ⟨rfl, HBF.out⟩
        | false =>
          have hAl : ∀ i, (L.map (sortsT U O)).getD i 0 < 2 ^ m1 := map_getD_lt (_U := []) (fun a _ => HLT.out a)
          have hAn : (L.map (sortsT U O)).length = p := by rw [List.length_map]; exact HQL.out.symm
          cases com with
          | true =>
            obtain ⟨hp2, hsum⟩ := HSCG.out (by first | rfl | trivial) (by first | rfl | trivial)
            obtain ⟨a, b, hab⟩ := len_two (hAn.trans hp2)
            rw [hab] at hAl
            have ha := hAl 0
            have hb := hAl 1
            simp only [List.getD_cons_zero, List.getD_cons_succ] at ha hb
            have hs := hsum a b hab
            have HP1 := Lib.hid (HAG.out (by first | rfl | trivial) [a, b] (by rw [hp2]; rfl) hAl)
            have HP2 := Lib.hid (HAG.out (by first | rfl | trivial) [b, a] (by rw [hp2]; rfl) (fun i => by
              match i with
              | 0 => exact hb
              | 1 => exact ha
              | i + 2 => simp; exact Nat.two_pow_pos _))
            have HHAB : Hid (Has WA (.slice Ar p cr) (ivs (nats [a, b]))) := Lib.hid (hab ▸ HHAA.out)
            have hown2 : WA.ownsRow W.heap.size 3 1 (.slice Ar p cr) p (ivs (nats [a, b])) := hab ▸ HOWA.out
            obtain ⟨gr, cap, hge, hgr1, hgr2⟩ := own_shape hown2 (by simp [ivs, nats])
            simp only [Value.slice.injEq] at hge
            obtain ⟨rfl, _, rfl⟩ := hge
            obtain ⟨r0, _⟩ := in_cell hown2 (show 0 < p by omega)
            obtain ⟨r1, _⟩ := in_cell hown2 (show 1 < p by omega)
            simp only [List.getD_cons_zero, List.getD_cons_succ] at r0 r1
            subst hp2
            have hu1 : upC U (giveR ds [a, b]) < 256 := by
              have := upC_lt (U := U) HLM.out (giveR ds [a, b])
              rw [HUL.out] at this
              omega
            have hu2 : upC U (giveR ds [b, a]) < 256 := by
              have := upC_lt (U := U) HLM.out (giveR ds [b, a])
              rw [HUL.out] at this
              omega
            obtain ⟨u1, hu1e⟩ : ∃ q, q = upC U (giveR ds [a, b]) := ⟨_, rfl⟩
            obtain ⟨u2, hu2e⟩ : ∃ q, q = upC U (giveR ds [b, a]) := ⟨_, rfl⟩
            simp only [] at HP1 HP2 hs
            rw [← hu1e] at HP1 hs hu1
            rw [← hu2e] at HP2 hs hu2
            have hor := or_i64 u1 u2 (by omega) (by omega)
            rw [← hs] at hor
            have HS : Hid (STwo w.heap.size (w.heap.size + 1) (.slice A1 m1 c1) (.slice A2 m2 c2) (.slice (some ⟨go', oo, none⟩) m3 c3) (.int .i64 (k : Int)) (.string (bstr tn)) (.int .i64 ts) (.slice B 2 cb) gr a b WA WA) := Lib.hid ⟨⟨HBXA.out, r0, r1⟩, Below.refl _ _⟩
            have hmid : ∀ ob, Below WA.heap.size WA (WA.alloc ob).drew := fun ob => ((Below.refl _ _).alloc (Nat.le_refl _) ob).drew
            have HMID := Lib.hid hmid
            clear hmid hu1e hu2e hs hsum hab ha hb hAl hAn hown2 hgr1 hgr2
            go_wp2_with fail
            rw [← hWA]
            clear hWA xa0 xa1 xa2 ya0 ya1 ya2 ya3 x0 x1 x2 y0 y1 y2 y3
            refine wp_region_noPanic ?_
            refine wp_region_held_drew (S := (STwo w.heap.size (w.heap.size + 1) (.slice A1 m1 c1) (.slice A2 m2 c2) (.slice (some ⟨go', oo, none⟩) m3 c3) (.int .i64 (k : Int)) (.string (bstr tn)) (.int .i64 ts) (.slice B 2 cb) gr a b WA)) (by kernel_rfl) ?_ (fun hHd0 => ?_)
            · exact HS.out.of (by first | exact (Below.refl _ _).drew | exact HMID.out _ | exact HB5.out | exact HB5a.out _ | exact HB6.out)
            refine wpAnyH_take (i := 0) (v := ?_) rfl (by kernel_rfl) (by kernel_rfl) (by kernel_rfl) (fun _ _ _ h => h) (Or.inl ⟨by rfl, ?_⟩) (by with_reducible assumption) ?_
            rotate_left
            · intro w hSw; (try dsimp only at hSw); go_simp <;> with_reducible rfl
            (try simp only [Act.put]); (try simp only [List.setIfInBounds_toArray]); (try simp only [List.set_cons_succ, List.set_cons_zero])
            refine wpAnyH_take (i := 1) (v := ?_) rfl (by kernel_rfl) (by kernel_rfl) (by kernel_rfl) (fun _ _ _ h => h) (Or.inl ⟨by rfl, ?_⟩) (by with_reducible assumption) ?_
            rotate_left
            · intro w hSw; (try dsimp only at hSw); go_simp <;> with_reducible rfl
            (try simp only [Act.put]); (try simp only [List.setIfInBounds_toArray]); (try simp only [List.set_cons_succ, List.set_cons_zero])
            refine wpAnyH_take (i := 2) (v := ?_) rfl (by kernel_rfl) (by kernel_rfl) (by kernel_rfl) (fun _ _ _ h => h) (Or.inl ⟨by rfl, ?_⟩) (by with_reducible assumption) ?_
            rotate_left
            · intro w hSw; (try dsimp only at hSw); go_simp <;> with_reducible rfl
            (try simp only [Act.put]); (try simp only [List.setIfInBounds_toArray]); (try simp only [List.set_cons_succ, List.set_cons_zero])
            refine wpAnyH_take (i := 3) (v := ?_) rfl (by kernel_rfl) (by kernel_rfl) (by kernel_rfl) (fun _ _ _ h => h) (Or.inl ⟨by rfl, ?_⟩) (by with_reducible assumption) ?_
            rotate_left
            · intro w hSw; (try dsimp only at hSw); go_simp <;> with_reducible rfl
            (try simp only [Act.put]); (try simp only [List.setIfInBounds_toArray]); (try simp only [List.set_cons_succ, List.set_cons_zero])
            refine wpAnyH_take (i := 5) (v := ?_) rfl (by kernel_rfl) (by kernel_rfl) (by kernel_rfl) (fun _ _ _ h => h) (Or.inl ⟨by rfl, ?_⟩) (by with_reducible assumption) ?_
            rotate_left
            · intro w hSw; (try dsimp only at hSw); go_simp <;> with_reducible rfl
            (try simp only [Act.put]); (try simp only [List.setIfInBounds_toArray]); (try simp only [List.set_cons_succ, List.set_cons_zero])
            refine wpAnyH_take (i := 6) (v := ?_) rfl (by kernel_rfl) (by kernel_rfl) (by kernel_rfl) (fun _ _ _ h => h) (Or.inl ⟨by rfl, ?_⟩) (by with_reducible assumption) ?_
            rotate_left
            · intro w hSw; (try dsimp only at hSw); go_simp <;> with_reducible rfl
            (try simp only [Act.put]); (try simp only [List.setIfInBounds_toArray]); (try simp only [List.set_cons_succ, List.set_cons_zero])
            refine wpAnyH_take (i := 7) (v := ?_) rfl (by kernel_rfl) (by kernel_rfl) (by kernel_rfl) (fun _ _ _ h => h) (Or.inl ⟨by rfl, ?_⟩) (by with_reducible assumption) ?_
            rotate_left
            · intro w hSw; (try dsimp only at hSw); go_simp <;> with_reducible rfl
            (try simp only [Act.put]); (try simp only [List.setIfInBounds_toArray]); (try simp only [List.set_cons_succ, List.set_cons_zero])
            refine wpAnyH_take (i := 8) (v := ?_) rfl (by kernel_rfl) (by kernel_rfl) (by kernel_rfl) (fun _ _ _ h => h) (Or.inl ⟨by rfl, ?_⟩) (by with_reducible assumption) ?_
            rotate_left
            · intro w hSw; (try dsimp only at hSw); go_simp <;> with_reducible rfl
            (try simp only [Act.put]); (try simp only [List.setIfInBounds_toArray]); (try simp only [List.set_cons_succ, List.set_cons_zero])
            refine wpAnyH_take (i := 9) (v := ?_) rfl (by kernel_rfl) (by kernel_rfl) (by kernel_rfl) (fun _ _ _ h => h) (Or.inl ⟨by rfl, ?_⟩) (by with_reducible assumption) ?_
            rotate_left
            · intro w hSw; (try dsimp only at hSw); go_simp <;> with_reducible rfl
            (try simp only [Act.put]); (try simp only [List.setIfInBounds_toArray]); (try simp only [List.set_cons_succ, List.set_cons_zero])
            refine wpAnyH_take (i := 10) (v := ?_) rfl (by kernel_rfl) (by kernel_rfl) (by kernel_rfl) (fun _ _ _ h => h) (Or.inl ⟨by rfl, ?_⟩) (by with_reducible assumption) ?_
            rotate_left
            · intro w hSw; (try dsimp only at hSw); go_simp <;> with_reducible rfl
            (try simp only [Act.put]); (try simp only [List.setIfInBounds_toArray]); (try simp only [List.set_cons_succ, List.set_cons_zero])
            refine wpAnyH_take (i := 11) (v := ?_) rfl (by kernel_rfl) (by kernel_rfl) (by kernel_rfl) (fun _ _ _ h => h) (Or.inl ⟨by rfl, ?_⟩) (by with_reducible assumption) ?_
            rotate_left
            · intro w hSw; (try dsimp only at hSw); go_simp <;> with_reducible rfl
            (try simp only [Act.put]); (try simp only [List.setIfInBounds_toArray]); (try simp only [List.set_cons_succ, List.set_cons_zero])
            refine wpAnyH_take (i := 12) (v := ?_) rfl (by kernel_rfl) (by kernel_rfl) (by kernel_rfl) (fun _ _ _ h => h) (Or.inl ⟨by rfl, ?_⟩) (by with_reducible assumption) ?_
            rotate_left
            · intro w hSw; (try dsimp only at hSw); go_simp <;> with_reducible rfl
            (try simp only [Act.put]); (try simp only [List.setIfInBounds_toArray]); (try simp only [List.set_cons_succ, List.set_cons_zero])
            refine wpAnyH_take (i := 13) (v := ?_) rfl (by kernel_rfl) (by kernel_rfl) (by kernel_rfl) (fun _ _ _ h => h) (Or.inl ⟨by rfl, ?_⟩) (by with_reducible assumption) ?_
            rotate_left
            · intro w hSw; (try dsimp only at hSw); go_simp <;> with_reducible rfl
            (try simp only [Act.put]); (try simp only [List.setIfInBounds_toArray]); (try simp only [List.set_cons_succ, List.set_cons_zero])
            refine wpAnyH_ready (rs := [4, 14]) (by kernel_rfl) (by simp) ?_
            refine AllReadyH.cons (o := _) rfl (fun K hK => ?_) ?_
            · (go_simp; refine (HP1.out WA.drew _ HBA.out.drew HHAB.out).mono ?_; rintro e w5 ⟨rfl, hb5⟩; have HB5 : Hid (Below WA.heap.size WA w5) := Lib.hid ((Below.refl _ _).drew.trans hb5); have HB5a : Hid (∀ ob, Below WA.heap.size WA (w5.alloc ob)) := Lib.hid (fun ob => HB5.out.alloc HB5.out.size ob); clear hb5; (try dsimp only))
              refine hK.out _ _ ?_ (fun hHd1 => ?_)
              · (try dsimp only); exact HS.out.of (by first | exact (Below.refl _ _).drew | exact HMID.out _ | exact HB5.out | exact HB5a.out _ | exact HB6.out)
              clear hK K hHd0
              (try simp only [Act.put]); (try simp only [List.setIfInBounds_toArray]); (try simp only [List.set_cons_succ, List.set_cons_zero])
              refine wpAnyH_ready (rs := [14]) (by kernel_rfl) (by simp) ?_
              refine AllReadyH.cons (o := _) rfl (fun K hK => ?_) ?_
              · go_simp
                refine hK.out _ _ ?_ (fun hHd2 => ?_)
                · (try dsimp only); exact HS.out.of (by first | exact (Below.refl _ _).drew | exact HMID.out _ | exact HB5.out | exact HB5a.out _ | exact HB6.out)
                clear hK K hHd1
                (try simp only [Act.put]); (try simp only [List.setIfInBounds_toArray]); (try simp only [List.set_cons_succ, List.set_cons_zero])
                refine wpAnyH_ready (rs := [15]) (by kernel_rfl) (by simp) ?_
                refine AllReadyH.cons (o := _) rfl (fun K hK => ?_) ?_
                · (go_simp; refine (HP2.out _ _ (HBA.out.trans ((HB5a.out _).mono HBA.out.size)) (i64_lit2 _ b a)).mono ?_; rintro e w6 ⟨rfl, hb6⟩; have HB6 : Hid (Below WA.heap.size WA w6) := Lib.hid ((HB5a.out (.cells #[.int .i64 (b : Int), .int .i64 (a : Int)] 3)).trans (hb6.mono (HB5a.out _).size)); clear hb6; (try dsimp only))
                  refine hK.out _ _ ?_ (fun hHd3 => ?_)
                  · (try dsimp only); exact HS.out.of (by first | exact (Below.refl _ _).drew | exact HMID.out _ | exact HB5.out | exact HB5a.out _ | exact HB6.out)
                  clear hK K hHd2
                  (try simp only [Act.put]); (try simp only [List.setIfInBounds_toArray]); (try simp only [List.set_cons_succ, List.set_cons_zero])
                  refine wpAnyH_take (i := 16) (v := ?_) rfl (by kernel_rfl) (by kernel_rfl) (by kernel_rfl) (fun _ _ _ h => h) (Or.inl ⟨by rfl, ?_⟩) (by with_reducible assumption) ?_
                  rotate_left
                  · intro w hSw; (try dsimp only at hSw); go_simp <;> with_reducible rfl
                  (try simp only [Act.put]); (try simp only [List.setIfInBounds_toArray]); (try simp only [List.set_cons_succ, List.set_cons_zero])
                  refine wpAnyH_ready (rs := [17]) (by kernel_rfl) (by simp) ?_
                  refine AllReadyH.cons (o := _) rfl (fun K hK => ?_) ?_
                  · go_simp
                    refine hK.out _ _ ?_ (fun hHd4 => ?_)
                    · (try dsimp only); exact HS.out.of (by first | exact (Below.refl _ _).drew | exact HMID.out _ | exact HB5.out | exact HB5a.out _ | exact HB6.out)
                    clear hK K hHd3
                    (try simp only [Act.put]); (try simp only [List.setIfInBounds_toArray]); (try simp only [List.set_cons_succ, List.set_cons_zero])
                    refine wpAnyH_done (by kernel_rfl) ?_ _
                    refine NoPanic.normal ?_
                    go_wp2
                    go_ret
                    exact ⟨rfl, HBA.out.trans (HB6.out.mono HBA.out.size)⟩
                  exact AllReadyH.nil
                exact AllReadyH.nil
              exact AllReadyH.nil
            refine AllReadyH.cons (o := _) rfl (fun K hK => ?_) ?_
            · go_simp
              refine hK.out _ _ ?_ (fun hHd5 => ?_)
              · (try dsimp only); exact HS.out.of (by first | exact (Below.refl _ _).drew | exact HMID.out _ | exact HB5.out | exact HB5a.out _ | exact HB6.out)
              clear hK K hHd0
              (try simp only [Act.put]); (try simp only [List.setIfInBounds_toArray]); (try simp only [List.set_cons_succ, List.set_cons_zero])
              refine wpAnyH_ready (rs := [4]) (by kernel_rfl) (by simp) ?_
              refine AllReadyH.cons (o := _) rfl (fun K hK => ?_) ?_
              · (go_simp; refine (HP1.out _ _ (HBA.out.trans ((HMID.out _).mono HBA.out.size)) (HHAB.out.below (Nat.le_refl _) (HMID.out _))).mono ?_; rintro e w5 ⟨rfl, hb5⟩; have HB5 : Hid (Below WA.heap.size WA w5) := Lib.hid ((HMID.out (.cells #[.int .i64 (b : Int), .int .i64 (a : Int)] 3)).trans (hb5.mono (HMID.out _).size)); have HL5 := Lib.hid ((show Has (WA.alloc (.cells #[.int .i64 (b : Int), .int .i64 (a : Int)] 3)).drew _ _ from i64_lit2 WA.drew b a).below (Nat.le_refl _) hb5); clear hb5; (try dsimp only))
                refine hK.out _ _ ?_ (fun hHd6 => ?_)
                · (try dsimp only); exact HS.out.of (by first | exact (Below.refl _ _).drew | exact HMID.out _ | exact HB5.out | exact HB5a.out _ | exact HB6.out)
                clear hK K hHd5
                (try simp only [Act.put]); (try simp only [List.setIfInBounds_toArray]); (try simp only [List.set_cons_succ, List.set_cons_zero])
                refine wpAnyH_ready (rs := [15]) (by kernel_rfl) (by simp) ?_
                refine AllReadyH.cons (o := _) rfl (fun K hK => ?_) ?_
                · (go_simp; refine (HP2.out w5 _ (HBA.out.trans (HB5.out.mono HBA.out.size)) HL5.out).mono ?_; rintro e w6 ⟨rfl, hb6⟩; have HB6 : Hid (Below WA.heap.size WA w6) := Lib.hid (HB5.out.trans (hb6.mono HB5.out.size)); clear hb6; (try dsimp only))
                  refine hK.out _ _ ?_ (fun hHd7 => ?_)
                  · (try dsimp only); exact HS.out.of (by first | exact (Below.refl _ _).drew | exact HMID.out _ | exact HB5.out | exact HB5a.out _ | exact HB6.out)
                  clear hK K hHd6
                  (try simp only [Act.put]); (try simp only [List.setIfInBounds_toArray]); (try simp only [List.set_cons_succ, List.set_cons_zero])
                  refine wpAnyH_take (i := 16) (v := ?_) rfl (by kernel_rfl) (by kernel_rfl) (by kernel_rfl) (fun _ _ _ h => h) (Or.inl ⟨by rfl, ?_⟩) (by with_reducible assumption) ?_
                  rotate_left
                  · intro w hSw; (try dsimp only at hSw); go_simp <;> with_reducible rfl
                  (try simp only [Act.put]); (try simp only [List.setIfInBounds_toArray]); (try simp only [List.set_cons_succ, List.set_cons_zero])
                  refine wpAnyH_ready (rs := [17]) (by kernel_rfl) (by simp) ?_
                  refine AllReadyH.cons (o := _) rfl (fun K hK => ?_) ?_
                  · go_simp
                    refine hK.out _ _ ?_ (fun hHd8 => ?_)
                    · (try dsimp only); exact HS.out.of (by first | exact (Below.refl _ _).drew | exact HMID.out _ | exact HB5.out | exact HB5a.out _ | exact HB6.out)
                    clear hK K hHd7
                    (try simp only [Act.put]); (try simp only [List.setIfInBounds_toArray]); (try simp only [List.set_cons_succ, List.set_cons_zero])
                    refine wpAnyH_done (by kernel_rfl) ?_ _
                    refine NoPanic.normal ?_
                    go_wp2
                    go_ret
                    exact ⟨rfl, HBA.out.trans (HB6.out.mono HBA.out.size)⟩
                  exact AllReadyH.nil
                exact AllReadyH.nil
              exact AllReadyH.nil
            exact AllReadyH.nil
          | false =>
            have HQ := Lib.hid (HSAG.out (by first | rfl | trivial) (by first | rfl | trivial))
            have HP1 := Lib.hid (HAG.out (by first | rfl | trivial) (L.map (sortsT U O)) hAn hAl)
            clear hAl hAn
            go_wp2_with fail
            rw [← hWA]
            refine (HP1.out WA _ HBA.out HHAA.out).mono ?_
            rintro e w5 ⟨rfl, hb5⟩
            have HBF := Lib.hid (HBA.out.trans (hb5.mono HBA.out.size))
            clear hb5
            go_wp2
            go_ret
            exact ⟨ret_int (by rw [HQ.out]), HBF.out⟩
theorem srtC_all (P : List (List UInt8)) (Q : List (Int × Int)) (O : List OpM) (hok : sigOk P Q O = true) : ∀ n, SrtC P Q O n
  | 0 => srtC_step P Q O hok (fun k h => by omega)
  | n + 1 => srtC_step P Q O hok (fun k h => Nat.succ.inj h ▸ srtC_all P Q O hok n)
end Go.Proofs.YtjejdcehlckfhaaGreat.tss
