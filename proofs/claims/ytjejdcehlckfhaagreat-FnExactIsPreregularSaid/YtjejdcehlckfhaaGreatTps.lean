/-
  THE MODEL's l7Regular, IsPreregular.
-/
import Derived.Test.YtjejdcehlckfhaaGreatTpi
import Derived.Test.YtjejdcehlckfhaaGreatTsp
import Derived.Test.YtjejdcehlckfhaaGreatSigl
import Derived.Test.YtjejdcehlckfhaaGreatSigb
import Derived.Test.YtjejdcehlckfhaaGreatRowg
namespace Go.Proofs.YtjejdcehlckfhaaGreat.tps
open Go.ChangeShapes Go.WideShapes Go.ChangeAt Go.RowKit
open mem dec split strl subs sortn setm sets sortm sortp sorti sortf sortu sortg rowl sigm sigs sigk sigl sigb rowg tsa tsm tsi tsj tsp tso tpi

section
variable {P : Program} {w : World}
theorem run_append_none (w : World) (t ty e : TypeId) (i : TypeInfo) (ht : P.underlying t = some (.slice e)) (hi : P.info? e = some i) (ad : Addr) :
    (Builtin.append_ #[t, t] ty #[.slice (some ad) 0 0, .slice none 0 0]).run P w = .ok (.slice (some ad) 0 0) w := by
  simp [Builtin.append_, run_underlying ht, sizeOf, typeInfo, hi, Builtin.lenOf, Builtin.firstCells, storeCells]
/-- append(x, s...), x a new empty slice, s any slice of one-cell elements (nil where it is empty) -/
theorem step_append_has {ops : Array Oper} {o : Oper} {a : Act} {K : Act → World → Prop} {Q : Exit → Act → World → Prop} {E : Prop} (hgd : o.guard = none) (s x : Operand) (t : TypeId)
    (ho : o.op = .call { callee := .builtin .append, args := #[s, x], argTypes := #[t, t] })
    (base : Nat) (e : TypeId) (i : TypeInfo) (z : Value) (bytes : Nat) (ht : P.underlying t = some (.slice e)) (hi : P.info? e = some i) (hz : i.zero = some z)
    (hsize : i.size = 1) (hby : i.bytes = bytes) (hzs : z.cells.size = 1) (g : Nat) (hs : a.eval s = .slice (some ⟨g, 0, none⟩) 0 0) (hown : w.ownsRow base e 1 (.slice (some ⟨g, 0, none⟩) 0 0) 0 [])
    (vs : Value) (ys : List Value) (hx : a.eval x = vs) (hv : Has w vs ys) (hn : ys = [] → vs = .slice none 0 0) (h1 : ∀ u ∈ ys, u.oneCell' = true)
    (h63 : ys.length ≤ maxLen) (hbytes : ys.length * bytes ≤ 140737488355328) (hbase : base ≤ w.heap.size)
    (h : ∀ v' w', w'.ownsRow base e 1 v' ys.length ys → w.grownBy w' (some g) → K (a.put o.dst v') w') :
    if Region.wanted o (yielded ops a.tmps) = true then Oper.wp P o a w K Q else E := by
  have hw : Region.wanted o (yielded ops a.tmps) = true := by simp [Region.wanted, hgd]
  rw [if_pos hw]
  by_cases hy : ys = []
  · subst hy
    obtain rfl := hn rfl
    have hr := run_append_none (P := P) w t o.type e i ht hi ⟨g, 0, none⟩
    unfold Oper.wp execOp
    simp only [ho, resolve, invoke, builtin, Sem.run_bind, Sem.run_pure, Result.andThen_ok, List.map_toArray, List.map_cons, List.map_nil, hs, hx, hr]
    exact h _ _ hown ⟨rfl, rfl, rfl, Nat.le_refl _, fun _ _ _ => rfl⟩
  · have hl0 : 0 < ys.length := by
      cases ys with
      | nil => exact absurd rfl hy
      | cons _ _ => simp
    obtain ⟨A, c, rfl, hv⟩ := hv.shape rfl
    obtain ⟨g2, o2, rfl, _, _⟩ := hv.cellAt hl0
    have hnews : ∀ j u, ys[j]? = some u → w.cell? ((⟨g2, o2, none⟩ : Addr).add j) = some u := fun j u hu => by
      obtain ⟨g', o', e', _, hc⟩ := hv.cellAt ((List.getElem?_eq_some_iff.1 hu).1)
      simp only [Option.some.injEq, Addr.mk.injEq, and_true] at e'
      obtain ⟨rfl, rfl⟩ := e'
      rw [Addr.add_lit, hc, List.getD_eq_getElem?_getD, hu]
      rfl
    obtain ⟨v', w', hr, h2, h3, h4, h5⟩ := run_append_own_at (P := P) (w := w) base t o.type e i z 1 bytes ht hi hz hsize hby hzs (by omega) _ 0 [] hown ⟨g2, o2, none⟩ ys.length c ys (by rw [Nat.mul_one]) hnews h1 (by omega) (by rw [Nat.zero_add]; exact hbytes) hbase
    unfold Oper.wp execOp
    simp only [ho, resolve, invoke, builtin, Sem.run_bind, Sem.run_pure, Result.andThen_ok, List.map_toArray, List.map_cons, List.map_nil, hs, hx, hr]
    rw [Nat.zero_add, List.nil_append] at h2
    exact h _ _ h2 h3
end
theorem ivs_one (L : List Int) : ∀ v ∈ ivs L, v.oneCell' = true := by
  intro v hv
  simp only [ivs, List.mem_map] at hv
  obtain ⟨a, _, rfl⟩ := hv
  rfl
theorem nats_snoc2 (L : List Nat) (x : Nat) : ivs (nats (L ++ [x])) = ivs (nats L) ++ [.int .i64 (x : Int)] := by rw [nats_snoc, ivs_append]; rfl
theorem i64_lit2 (w : World) (x y : Nat) : Has (w.alloc (.cells #[.int .i64 (x : Int), .int .i64 (y : Int)] 3)) (.slice (some ⟨w.heap.size, 0, none⟩) 2 2) (ivs (nats [x, y])) := by
  refine ⟨_, 2, rfl, by simp [ivs, nats], by unfold maxLen; omega, fun j v hv => ⟨w.heap.size, 0, rfl, by simp, ?_⟩⟩
  match j, hv with
  | 0, hv => simp [ivs, nats] at hv; subst hv; simp
  | 1, hv => simp [ivs, nats] at hv; subst hv; simp
theorem len_two' {l : List Nat} (h : l.length = 2) : ∃ a b, l = [a, b] := by
  match l, h with
  | [a, b], _ => exact ⟨a, b, rfl⟩
/-- the contract of l7Regular for f places that are left -/
def RegC (P : List (List UInt8)) (Q : List (Int × Int)) (O : List OpM) (k f : Nat) : Prop :=
  ∀ (A : List Nat) (va vb vc vs : Value) (w : World), A.length + f = ar (O.getD k default) → (∀ i, A.getD i 0 < 2 ^ P.length) → HasG w va vb vc P Q O → Has w vs (ivs (nats A)) → (A = [] → vs = .slice none 0 0) → ∀ r, oneL (clo P.length (prs Q)) (O.getD k default).decls (O.getD k default).ass (O.getD k default).com f A = r →
  Calls Tryz.prog 51 #[.agg #[va, vb, vc], .int .i64 (k : Int), vs] w fun e w' => e = .returned (.bool r) ∧ Below w.heap.size w w'
abbrev SReg (x g o : Nat) (v0 v1 v2 : Value) (nm : List UInt8) (Ad : Option Addr) (dl cd : Nat) (a b : Bool) (un : Int) (w : World) : Prop :=
  (w.cell? ⟨x, 0, none⟩ = some v0 ∧ w.cell? ⟨x, 1, none⟩ = some v1 ∧ w.cell? ⟨x, 2, none⟩ = some v2) ∧ w.cell? ⟨g, o, none⟩ = some (.string (bstr nm)) ∧ w.cell? ⟨g, o + 1, none⟩ = some (.slice Ad dl cd) ∧ w.cell? ⟨g, o + 2, none⟩ = some (.bool a) ∧ w.cell? ⟨g, o + 3, none⟩ = some (.bool b) ∧ w.cell? ⟨g, o + 4, none⟩ = some (.int .i64 un)
theorem SReg.below {x g o : Nat} {v0 v1 v2 : Value} {nm : List UInt8} {Ad : Option Addr} {dl cd : Nat} {a b : Bool} {un : Int} {W w : World} (h : SReg x g o v0 v1 v2 nm Ad dl cd a b un W) (hb : Below W.heap.size W w) : SReg x g o v0 v1 v2 nm Ad dl cd a b un w := by
  have k : ∀ {a : Addr} {v : Value}, W.cell? a = some v → w.cell? a = some v := fun {a v} h => (hb.cell (p := a) (block_lt_of_cell h)).trans h
  exact ⟨⟨k h.1.1, k h.1.2.1, k h.1.2.2⟩, k h.2.1, k h.2.2.1, k h.2.2.2.1, k h.2.2.2.2.1, k h.2.2.2.2.2⟩
set_option maxRecDepth 50000 in
set_option maxHeartbeats 16000000 in
theorem regC_step (P : List (List UInt8)) (Q : List (Int × Int)) (O : List OpM) (hok : sigOk P Q O = true) (k : Nat) (hk : k < O.length) (f : Nat) (hS : ∀ f', f = f' + 1 → RegC P Q O k f') : RegC P Q O k f := by
  intro A va vb vc vs w hAf hA h hvs hnil r hr
  have hokS := (sigOk_parts hok).1
  obtain ⟨p1, p2, p3, p4, _⟩ := okS_parts hokS
  have hlim := lim_clo hokS
  have hcl := clo_len P.length (prs Q)
  have hpn := pow8 p2
  have h3 := (okD_parts (hd_ok' hok hk)).1
  have hA16 : ∀ i, A.getD i 0 < 65536 := fun i => Nat.lt_of_lt_of_le (hA i) (by omega)
  have HUP := Lib.hid (fun W (hW : Below w.heap.size w W) => l3Up_any P Q p1 p2 (by omega) p3 va vb W (h.s.below (Nat.le_refl _) hW))
  have HAP := Lib.hid (fun (A' : List Nat) (hl : A'.length = ar (O.getD k default)) (hA' : ∀ i, A'.getD i 0 < 65536) vs' W (hW : Below w.heap.size w W) (hv : Has W vs' (ivs (nats A'))) => l7Apply_any P Q O hok k hk A' hl hA' va vb vc vs' W (h.below (Nat.le_refl _) hW) hv)
  have HLS := Lib.hid (fun x W (hW : Below w.heap.size w W) => sLeast_any P Q va vb x W (h.s.below (Nat.le_refl _) hW))
  have HREC := Lib.hid (fun f' (e : f = f' + 1) (A' : List Nat) vs' W (hl : A'.length + f' = ar (O.getD k default)) (hA' : ∀ i, A'.getD i 0 < 2 ^ P.length) (hW : Below w.heap.size w W) (hv : Has W vs' (ivs (nats A'))) (hn' : A' = [] → vs' = .slice none 0 0) r' (hr' : oneL (clo P.length (prs Q)) (O.getD k default).decls (O.getD k default).ass (O.getD k default).com f' A' = r') => hS f' e A' va vb vc vs' W hl hA' (h.below (Nat.le_refl _) hW) hv hn' r' hr')
  have HBAD := Lib.hid (fun f' (e : f = f' + 1) j (hj : j < (clo P.length (prs Q)).length) (h9 : oneL (clo P.length (prs Q)) (O.getD k default).decls (O.getD k default).ass (O.getD k default).com f' (A ++ [(clo P.length (prs Q)).getD j 0]) = false) => show r = false by rw [← hr, e]; exact oneL_bad hj h9)
  have HALL := Lib.hid (fun f' (e : f = f' + 1) (h9 : ∀ j, j < (clo P.length (prs Q)).length → oneL (clo P.length (prs Q)) (O.getD k default).decls (O.getD k default).ass (O.getD k default).com f' (A ++ [(clo P.length (prs Q)).getD j 0]) = true) => show r = true by rw [← hr, e]; exact oneL_all h9)
  have hslt := sortsA_lt hlim (O.getD k default).decls (O.getD k default).ass (O.getD k default).com (A := A) (by rw [hcl]; exact hA)
  have HR0 : Hid (f = 0 → r = decide ((els (leastU (clo P.length (prs Q)) (sortsA (clo P.length (prs Q)) (O.getD k default).decls (O.getD k default).ass (O.getD k default).com A))).length ≤ 1)) := Lib.hid (fun hf => by rw [← hr, hf, oneL])
  have HLI : Hid (∀ S : Nat, S < 2 ^ P.length → leastI P Q (S : Int) = leastU (clo P.length (prs Q)) S) := Lib.hid (fun S hS' => by
    have e := ordU_yes hokS
    rw [leastI, e, inU_nat hlim.1 (by rw [hcl]; exact hS')])
  have HLL : Hid (∀ S : Nat, leastU (clo P.length (prs Q)) S < 256) := Lib.hid (fun S => Nat.lt_of_lt_of_le (leastU_lt _ _) (pow8 hlim.1))
  have HUL : Hid (∀ S : Nat, upC (clo P.length (prs Q)) S < 256) := Lib.hid (fun S => Nat.lt_of_lt_of_le (upC_lt hlim _) (pow8 hlim.1))
  have HC0 : Hid ((O.getD k default).com = false → A.length = ar (O.getD k default) → sortsA (clo P.length (prs Q)) (O.getD k default).decls (O.getD k default).ass (O.getD k default).com A = upC (clo P.length (prs Q)) (giveR (O.getD k default).decls A)) := Lib.hid (fun hc hl => by
    cases ha : (O.getD k default).ass with
    | false => rw [sortsA, hc]; rfl
    | true =>
      have h2 := ar_two hok hk (by rw [ha]; rfl)
      obtain ⟨a, b, rfl⟩ := len_two' (hl.trans h2)
      rw [sortsA, hc]
      exact V_pair _ _ a b)
  have HC1 : Hid ((O.getD k default).com = true → A.length = ar (O.getD k default) → ar (O.getD k default) = 2 ∧ ∀ a b, A = [a, b] → sortsA (clo P.length (prs Q)) (O.getD k default).decls (O.getD k default).ass (O.getD k default).com A = upC (clo P.length (prs Q)) (giveR (O.getD k default).decls [a, b]) ||| upC (clo P.length (prs Q)) (giveR (O.getD k default).decls [b, a])) := Lib.hid (fun hc hl => by
    have h2 := ar_two hok hk (by rw [hc]; simp)
    refine ⟨h2, fun a b e => ?_⟩
    rw [sortsA, hc, e, if_pos (by simp)]
    exact V_two _ _ a b)
  obtain ⟨A1, c1, A2, c2, A3, c3, rfl, rfl, rfl, _, _, _, h'⟩ := h.shape
  obtain ⟨g, o, Ad, cd, rfl, _, hg, e0, e1, e2, e3, e4, hD, _, _⟩ := op_at h'.o hk
  have hdn1 : 1 ≤ (O.getD k default).decls.length := by
    obtain ⟨_, _, _, hd, _⟩ := sigOk_parts hok
    exact (declsOk_parts (hd _ (op_mem' hk))).1
  have HAR := Lib.hid (fun W (hW : Below w.heap.size w W) => l4Arity_any (O.getD k default).name (O.getD k default).decls hdn1 (.slice Ad (O.getD k default).decls.length cd) (O.getD k default).ass (O.getD k default).com (O.getD k default).unt W (hD.below RD_steady (Nat.le_refl _) hW))
  rw [show (hd0 (O.getD k default).decls).1.length = ar (O.getD k default) from rfl] at HAR
  obtain ⟨q, hqe⟩ : ∃ q, q = A.length := ⟨_, rfl⟩
  obtain ⟨As, cs, rfl, hvs⟩ := hvs.shape (n := q) (by rw [ivs_len, nats_len, hqe])
  have hql := hvs.len.2
  have HVS := Lib.hid hvs
  have HNIL := Lib.hid hnil
  have HQE := Lib.hid hqe
  have HAL := Lib.hid hA
  have HA16 := Lib.hid hA16
  have hclt := clo_lt p3.inR
  have HCLT := Lib.hid hclt
  rw [← hqe] at hAf HC0 HC1
  obtain ⟨⟨nm, ds, a, b, un⟩, hop⟩ : ∃ op, op = O.getD k default := ⟨_, rfl⟩
  rw [← hop] at HAP HREC HBAD HALL HR0 HC0 HC1 e0 e1 e2 e3 e4 HAR h3 hAf hslt
  simp only [] at e0 e1 e2 e3 e4 HAR HBAD HALL HREC HAP HR0 HC0 HC1 hslt
  obtain ⟨rr, hrr⟩ : ∃ q, q = ar (⟨nm, ds, a, b, un⟩ : OpM) := ⟨_, rfl⟩
  rw [← hrr] at HAP HREC HAR HC0 HC1 hAf
  obtain ⟨dl, hdl⟩ : ∃ q, q = ds.length := ⟨_, rfl⟩
  rw [← hdl] at e1 HAR
  obtain ⟨m1, hm1⟩ : ∃ q, q = P.length := ⟨_, rfl⟩
  obtain ⟨m2, hm2⟩ : ∃ q, q = Q.length := ⟨_, rfl⟩
  obtain ⟨m3, hm3⟩ : ∃ q, q = O.length := ⟨_, rfl⟩
  have i1 : (0 : Int) ≤ (k : Int) := by omega
  have i2 : (k : Int) < (m3 : Int) := by omega
  rw [← hm1] at hcl hpn hslt HLI HREC HUP HAP HBAD HALL HR0 HLL HUL HC0 HC1 HAL HCLT HLS
  rw [← hm2] at HUP HLS HREC HAP
  rw [← hm3] at HREC HAP
  rw [← hm1, ← hm2, ← hm3]
  obtain ⟨U, hU⟩ : ∃ U, U = clo m1 (prs Q) := ⟨_, rfl⟩
  rw [← hU] at hcl hslt HLI HREC HUP HAP HBAD HALL HR0 HLL HUL HC0 HC1 HCLT
  rw [hcl] at hslt HBAD HALL
  obtain ⟨W, hW⟩ : ∃ W, W = w.alloc (.cells #[.slice A1 m1 c1, .slice A2 m2 c2, .slice (some ⟨g, o, none⟩) m3 c3] 40) := ⟨_, rfl⟩
  have hb0 : Below w.heap.size w W := by rw [hW]; exact (Below.refl _ _).alloc (Nat.le_refl _) _
  have hX0 : SReg w.heap.size g (o + k * 5) (.slice A1 m1 c1) (.slice A2 m2 c2) (.slice (some ⟨g, o, none⟩) m3 c3) nm Ad dl cd a b un W := by
    have k' : ∀ {a : Addr} {v : Value}, w.cell? a = some v → W.cell? a = some v := fun {a v} h => (hb0.cell (p := a) (block_lt_of_cell h)).trans h
    refine ⟨?_, k' e0, k' e1, k' e2, k' e3, k' e4⟩
    rw [hW]
    exact tsl.box3 (termt.heap_at _ _ _ rfl)
  have HB0 := Lib.hid hb0
  have HX0 := Lib.hid hX0
  obtain ⟨j0, hij, hy0, hy1, hy2⟩ := info_parts info_int
  have hX9 := hX0
  rw [hW] at hX9
  obtain ⟨⟨z0, z1, z2⟩, y0, y1, y2, y3, y4⟩ := hX9
  clear hX0
  have hrr3 : rr ≤ 3 := by rw [hrr]; exact h3
  have hm8 : m1 ≤ 8 := by rw [hm1]; exact p2
  clear h h' hvs hnil hqe hA hA16 hokS p1 p2 p3 p4 hlim e0 e1 e2 e3 e4 hD hdn1 hop hdl hm1 hm2 hm3 hU hb0 hr hS hok hk hclt h3 hrr
  by_cases hf : f = 0
  · have hqr : q = rr := by omega
    have HR1 := Lib.hid (HR0.out hf)
    have e1 : ((q : Int) == (rr : Int)) = true := by rw [hqr]; simp
    have HP1 := Lib.hid (HAP.out A (by rw [← HQE.out]; exact hqr) HA16.out)
    have hu1 := HUL.out (giveR ds A)
    clear HREC HBAD HALL HR0
    subst hqr
    have hw1c : Has W (.slice As q cs) (ivs (nats A)) := HVS.out.below (Nat.le_refl _) HB0.out
    have HWC := Lib.hid hw1c
    cases hb : b with
    | false =>
      subst hb
      have HSA := Lib.hid (HC0.out rfl rfl)
      rw [HSA.out] at hslt HR1
      obtain ⟨u1, hu1e⟩ : ∃ x, x = upC U (giveR ds A) := ⟨_, rfl⟩
      rw [← hu1e] at HP1 hslt HR1 hu1
      have hli := HLI.out u1 hslt
      have HLS2 := Lib.hid (HLS.out ((u1 : Nat) : Int))
      rw [hli] at HLS2
      have hll := HLL.out u1
      obtain ⟨ls, hls⟩ : ∃ x, x = leastU U u1 := ⟨_, rfl⟩
      rw [← hls] at HLS2 HR1 hll
      have hlo : listOf (ls : Int) = nats (els ls) := listOf_ok (by omega)
      have HCN := Lib.hid (fun W' => sCount_any (ls : Int) W')
      rw [hlo, nats_len] at HCN
      obtain ⟨ce, hce⟩ : ∃ x, x = (els ls).length := ⟨_, rfl⟩
      rw [← hce] at HCN HR1
      have HRL : Hid (decide ((ce : Int) ≤ 1) = r) := Lib.hid (by rw [HR1.out]; exact decide_eq_decide.2 (by omega))
      clear hu1e hls hlo hce hw1c hli
      go_enter Tryz.func51, Tryz.ntmps51
      go_wp2_with fail
      rw [← hW]
      clear hW
      refine (HAR.out W HB0.out).mono ?_
      rintro e w1 ⟨rfl, hb1⟩
      have HB1 : Hid (Below W.heap.size W w1) := Lib.hid hb1
      clear hb1 z0 z1 z2 y0 y1 y2 y3 y4
      obtain ⟨⟨z0, z1, z2⟩, y0, y1, y2, y3, y4⟩ := HX0.out.below HB1.out
      go_wp2_with fail
      refine (HP1.out _ w1 (HB0.out.trans (HB1.out.mono HB0.out.size)) (HWC.out.below (Nat.le_refl _) HB1.out)).mono ?_
      rintro e w2 ⟨rfl, hb2⟩
      have HB2 : Hid (Below W.heap.size W w2) := Lib.hid (HB1.out.trans (hb2.mono HB1.out.size))
      clear hb2 z0 z1 z2 y0 y1 y2 y3 y4
      obtain ⟨⟨z0, z1, z2⟩, y0, y1, y2, y3, y4⟩ := HX0.out.below HB2.out
      go_wp2_with fail
      refine (HLS2.out w2 (HB0.out.trans (HB2.out.mono HB0.out.size))).mono ?_
      rintro e w3 ⟨rfl, hb3⟩
      have HB3 : Hid (Below W.heap.size W w3) := Lib.hid (HB2.out.trans (hb3.mono HB2.out.size))
      clear hb3 z0 z1 z2 y0 y1 y2 y3 y4
      go_wp2_with fail
      refine (HCN.out w3).mono ?_
      rintro e w4 ⟨rfl, hb4⟩
      have HB4 : Hid (Below W.heap.size W w4) := Lib.hid (HB3.out.trans (hb4.mono HB3.out.size))
      clear hb4
      go_wp2
      go_ret
      exact ⟨ret_bool HRL.out, HB0.out.trans (HB4.out.mono HB0.out.size)⟩
    | true =>
      subst hb
      obtain ⟨hr2, hsum⟩ := HC1.out rfl rfl
      obtain ⟨x, y, hxy⟩ := len_two' (HQE.out.symm.trans hr2)
      have hs := hsum x y hxy
      rw [hs] at hslt HR1
      subst hxy
      have hx := HAL.out 0
      have hy := HAL.out 1
      simp only [List.getD_cons_zero, List.getD_cons_succ] at hx hy
      have HP2 := Lib.hid (HAP.out [y, x] (by rw [hr2]; rfl) (fun i => by
        match i with
        | 0 => show y < 65536; omega
        | 1 => show x < 65536; omega
        | i + 2 => simp))
      have hu2 := HUL.out (giveR ds [y, x])
      obtain ⟨u1, hu1e⟩ : ∃ z, z = upC U (giveR ds [x, y]) := ⟨_, rfl⟩
      obtain ⟨u2, hu2e⟩ : ∃ z, z = upC U (giveR ds [y, x]) := ⟨_, rfl⟩
      rw [← hu1e] at HP1 hslt HR1 hu1
      rw [← hu2e] at HP2 hslt HR1 hu2
      have hor := or_i64 u1 u2 (by omega) (by omega)
      obtain ⟨us, hus⟩ : ∃ z, z = u1 ||| u2 := ⟨_, rfl⟩
      rw [← hus] at hor hslt HR1
      have hli := HLI.out us hslt
      have HLS2 := Lib.hid (HLS.out ((us : Nat) : Int))
      rw [hli] at HLS2
      have hll := HLL.out us
      obtain ⟨ls, hls⟩ : ∃ x, x = leastU U us := ⟨_, rfl⟩
      rw [← hls] at HLS2 HR1 hll
      have hlo : listOf (ls : Int) = nats (els ls) := listOf_ok (by omega)
      have HCN := Lib.hid (fun W' => sCount_any (ls : Int) W')
      rw [hlo, nats_len] at HCN
      obtain ⟨ce, hce⟩ : ∃ x, x = (els ls).length := ⟨_, rfl⟩
      rw [← hce] at HCN HR1
      have HRL : Hid (decide ((ce : Int) ≤ 1) = r) := Lib.hid (by rw [HR1.out]; exact decide_eq_decide.2 (by omega))
      subst hr2
      obtain ⟨gs, os, rfl, hgs, hcx⟩ := HWC.out.cellAt (j := 0) (by omega)
      obtain ⟨gs', os', he', _, hcy⟩ := HWC.out.cellAt (j := 1) (by omega)
      simp only [Option.some.injEq, Addr.mk.injEq, and_true] at he'
      obtain ⟨rfl, rfl⟩ := he'
      rw [natsC (by simp)] at hcx hcy
      simp only [List.getD_cons_zero, List.getD_cons_succ] at hcx hcy
      have HCX := Lib.hid (And.intro hcx hcy)
      clear hu1e hu2e hus hls hlo hce hw1c hli hs hsum hcx hcy hx hy
      go_enter Tryz.func51, Tryz.ntmps51
      go_wp2_with fail
      rw [← hW]
      clear hW
      refine (HAR.out W HB0.out).mono ?_
      rintro e w1 ⟨rfl, hb1⟩
      have HB1 : Hid (Below W.heap.size W w1) := Lib.hid hb1
      clear hb1 z0 z1 z2 y0 y1 y2 y3 y4
      obtain ⟨⟨z0, z1, z2⟩, y0, y1, y2, y3, y4⟩ := HX0.out.below HB1.out
      go_wp2_with fail
      refine (HP1.out _ w1 (HB0.out.trans (HB1.out.mono HB0.out.size)) (HWC.out.below (Nat.le_refl _) HB1.out)).mono ?_
      rintro e w2 ⟨rfl, hb2⟩
      have HB2 : Hid (Below W.heap.size W w2) := Lib.hid (HB1.out.trans (hb2.mono HB1.out.size))
      clear hb2 z0 z1 z2 y0 y1 y2 y3 y4
      obtain ⟨⟨z0, z1, z2⟩, y0, y1, y2, y3, y4⟩ := HX0.out.below HB2.out
      have hS2 : SReg w.heap.size g (o + k * 5) (.slice A1 m1 c1) (.slice A2 m2 c2) (.slice (some ⟨g, o, none⟩) m3 c3) nm Ad dl cd a true un w2 ∧ w2.cell? ⟨gs, os + 0, none⟩ = some (.int .i64 (x : Int)) ∧ w2.cell? ⟨gs, os + 1, none⟩ = some (.int .i64 (y : Int)) := ⟨HX0.out.below HB2.out, (HB2.out.cell (p := ⟨gs, os + 0, none⟩) hgs).trans HCX.out.1, (HB2.out.cell (p := ⟨gs, os + 1, none⟩) hgs).trans HCX.out.2⟩
      rw [Nat.add_zero] at hS2
      have HKS : Hid (∀ w', Below w2.heap.size w2 w' → SReg w.heap.size g (o + k * 5) (.slice A1 m1 c1) (.slice A2 m2 c2) (.slice (some ⟨g, o, none⟩) m3 c3) nm Ad dl cd a true un w' ∧ w'.cell? ⟨gs, os, none⟩ = some (.int .i64 (x : Int)) ∧ w'.cell? ⟨gs, os + 1, none⟩ = some (.int .i64 (y : Int))) := Lib.hid (fun w' hw' => ⟨hS2.1.below hw', (hw'.cell (p := ⟨gs, os, none⟩) (block_lt_of_cell hS2.2.1)).trans hS2.2.1, (hw'.cell (p := ⟨gs, os + 1, none⟩) (block_lt_of_cell hS2.2.2)).trans hS2.2.2⟩)
      have HAL1 : Hid (∀ ob, Below w2.heap.size w2 (w2.alloc ob).drew) := Lib.hid (fun ob => ((Below.refl _ _).alloc (Nat.le_refl _) ob).drew)
      have HB2w := Lib.hid (HB0.out.trans (HB2.out.mono HB0.out.size))
      clear hS2
      go_wp2_with fail
      refine wp_region_noPanic ?_
      refine wp_region_held_drew (S := (fun w' => SReg w.heap.size g (o + k * 5) (.slice A1 m1 c1) (.slice A2 m2 c2) (.slice (some ⟨g, o, none⟩) m3 c3) nm Ad dl cd a true un w' ∧ w'.cell? ⟨gs, os, none⟩ = some (.int .i64 (x : Int)) ∧ w'.cell? ⟨gs, os + 1, none⟩ = some (.int .i64 (y : Int)))) (by kernel_rfl) ?_ (fun hHd0 => ?_)
      · exact HKS.out _ (by first | exact (Below.refl _ _).drew | exact HB3.out | exact HAL1.out _)
      refine wpAnyH_take (i := 0) (v := ?_) rfl (by kernel_rfl) (by kernel_rfl) (by kernel_rfl) (fun _ _ _ h => h) (Or.inl ⟨by rfl, ?_⟩) (by with_reducible assumption) ?_
      rotate_left
      · intro w hSw; (try dsimp only at hSw); go_simp <;> with_reducible rfl
      (try simp only [Act.put]); (try simp only [List.setIfInBounds_toArray]); (try simp only [List.set_cons_succ, List.set_cons_zero])
      refine wpAnyH_take (i := 1) (v := ?_) rfl (by kernel_rfl) (by kernel_rfl) (by kernel_rfl) (fun _ _ _ h => h) (Or.inl ⟨by rfl, ?_⟩) (by with_reducible assumption) ?_
      rotate_left
      · intro w hSw; (try dsimp only at hSw); go_simp <;> with_reducible rfl
      (try simp only [Act.put]); (try simp only [List.setIfInBounds_toArray]); (try simp only [List.set_cons_succ, List.set_cons_zero])
      refine wpAnyH_take (i := 2) (v := ?_) rfl (by kernel_rfl) (by kernel_rfl) (by kernel_rfl) (fun _ _ _ h => h) (Or.inl ⟨by rfl, ?_⟩) (by with_reducible assumption) ?_
      rotate_left
      · intro w hSw; (try dsimp only at hSw); go_simp <;> with_reducible rfl
      (try simp only [Act.put]); (try simp only [List.setIfInBounds_toArray]); (try simp only [List.set_cons_succ, List.set_cons_zero])
      refine wpAnyH_take (i := 3) (v := ?_) rfl (by kernel_rfl) (by kernel_rfl) (by kernel_rfl) (fun _ _ _ h => h) (Or.inl ⟨by rfl, ?_⟩) (by with_reducible assumption) ?_
      rotate_left
      · intro w hSw; (try dsimp only at hSw); go_simp <;> with_reducible rfl
      (try simp only [Act.put]); (try simp only [List.setIfInBounds_toArray]); (try simp only [List.set_cons_succ, List.set_cons_zero])
      refine wpAnyH_take (i := 4) (v := ?_) rfl (by kernel_rfl) (by kernel_rfl) (by kernel_rfl) (fun _ _ _ h => h) (Or.inl ⟨by rfl, ?_⟩) (by with_reducible assumption) ?_
      rotate_left
      · intro w hSw; (try dsimp only at hSw); go_simp <;> with_reducible rfl
      (try simp only [Act.put]); (try simp only [List.setIfInBounds_toArray]); (try simp only [List.set_cons_succ, List.set_cons_zero])
      refine wpAnyH_take (i := 5) (v := ?_) rfl (by kernel_rfl) (by kernel_rfl) (by kernel_rfl) (fun _ _ _ h => h) (Or.inl ⟨by rfl, ?_⟩) (by with_reducible assumption) ?_
      rotate_left
      · intro w hSw; (try dsimp only at hSw); go_simp <;> with_reducible rfl
      (try simp only [Act.put]); (try simp only [List.setIfInBounds_toArray]); (try simp only [List.set_cons_succ, List.set_cons_zero])
      refine wpAnyH_take (i := 6) (v := ?_) rfl (by kernel_rfl) (by kernel_rfl) (by kernel_rfl) (fun _ _ _ h => h) (Or.inl ⟨by rfl, ?_⟩) (by with_reducible assumption) ?_
      rotate_left
      · intro w hSw; (try dsimp only at hSw); go_simp <;> with_reducible rfl
      (try simp only [Act.put]); (try simp only [List.setIfInBounds_toArray]); (try simp only [List.set_cons_succ, List.set_cons_zero])
      refine wpAnyH_take (i := 7) (v := ?_) rfl (by kernel_rfl) (by kernel_rfl) (by kernel_rfl) (fun _ _ _ h => h) (Or.inl ⟨by rfl, ?_⟩) (by with_reducible assumption) ?_
      rotate_left
      · intro w hSw; (try dsimp only at hSw); go_simp <;> with_reducible rfl
      (try simp only [Act.put]); (try simp only [List.setIfInBounds_toArray]); (try simp only [List.set_cons_succ, List.set_cons_zero])
      refine wpAnyH_take (i := 8) (v := ?_) rfl (by kernel_rfl) (by kernel_rfl) (by kernel_rfl) (fun _ _ _ h => h) (Or.inl ⟨by rfl, ?_⟩) (by with_reducible assumption) ?_
      rotate_left
      · intro w hSw; (try dsimp only at hSw); go_simp <;> with_reducible rfl
      (try simp only [Act.put]); (try simp only [List.setIfInBounds_toArray]); (try simp only [List.set_cons_succ, List.set_cons_zero])
      refine wpAnyH_ready (rs := [9]) (by kernel_rfl) (by simp) ?_
      refine AllReadyH.cons (o := _) rfl (fun K hK => ?_) ?_
      · go_simp
        refine hK.out _ _ ?_ (fun hHd1 => ?_)
        · (try dsimp only); exact HKS.out _ (by first | exact (Below.refl _ _).drew | exact HB3.out | exact HAL1.out _)
        clear hK K hHd0
        (try simp only [Act.put]); (try simp only [List.setIfInBounds_toArray]); (try simp only [List.set_cons_succ, List.set_cons_zero])
        refine wpAnyH_ready (rs := [10]) (by kernel_rfl) (by simp) ?_
        refine AllReadyH.cons (o := _) rfl (fun K hK => ?_) ?_
        · (go_simp; refine (HP2.out _ _ (HB2w.out.trans ((HAL1.out _).mono HB2w.out.size)) (i64_lit2 _ y x)).mono ?_; rintro e w3 ⟨rfl, hb3⟩; have HB3 : Hid (Below w2.heap.size w2 w3) := Lib.hid ((HAL1.out (.cells #[.int .i64 (y : Int), .int .i64 (x : Int)] 3)).trans (hb3.mono (HAL1.out _).size)); clear hb3; (try dsimp only))
          refine hK.out _ _ ?_ (fun hHd2 => ?_)
          · (try dsimp only); exact HKS.out _ (by first | exact (Below.refl _ _).drew | exact HB3.out | exact HAL1.out _)
          clear hK K hHd1
          (try simp only [Act.put]); (try simp only [List.setIfInBounds_toArray]); (try simp only [List.set_cons_succ, List.set_cons_zero])
          refine wpAnyH_take (i := 11) (v := ?_) rfl (by kernel_rfl) (by kernel_rfl) (by kernel_rfl) (fun _ _ _ h => h) (Or.inl ⟨by rfl, ?_⟩) (by with_reducible assumption) ?_
          rotate_left
          · intro w hSw; (try dsimp only at hSw); go_simp <;> with_reducible rfl
          (try simp only [Act.put]); (try simp only [List.setIfInBounds_toArray]); (try simp only [List.set_cons_succ, List.set_cons_zero])
          refine wpAnyH_ready (rs := [12]) (by kernel_rfl) (by simp) ?_
          refine AllReadyH.cons (o := _) rfl (fun K hK => ?_) ?_
          · go_simp
            refine hK.out _ _ ?_ (fun hHd3 => ?_)
            · (try dsimp only); exact HKS.out _ (by first | exact (Below.refl _ _).drew | exact HB3.out | exact HAL1.out _)
            clear hK K hHd2
            (try simp only [Act.put]); (try simp only [List.setIfInBounds_toArray]); (try simp only [List.set_cons_succ, List.set_cons_zero])
            refine wpAnyH_done (by kernel_rfl) ?_ _
            refine NoPanic.normal ?_
            have HB3W : Hid (Below W.heap.size W w3) := Lib.hid (HB2.out.trans (HB3.out.mono HB2.out.size))
            clear z0 z1 z2 y0 y1 y2 y3 y4
            obtain ⟨⟨z0, z1, z2⟩, y0, y1, y2, y3, y4⟩ := HX0.out.below HB3W.out
            go_wp2_with fail
            refine (HLS2.out w3 (HB0.out.trans (HB3W.out.mono HB0.out.size))).mono ?_
            rintro e w4 ⟨rfl, hb4⟩
            have HB4 : Hid (Below W.heap.size W w4) := Lib.hid (HB3W.out.trans (hb4.mono HB3W.out.size))
            clear hb4 z0 z1 z2 y0 y1 y2 y3 y4
            go_wp2_with fail
            refine (HCN.out w4).mono ?_
            rintro e w5 ⟨rfl, hb5⟩
            have HB5 : Hid (Below W.heap.size W w5) := Lib.hid (HB4.out.trans (hb5.mono HB4.out.size))
            clear hb5
            go_wp2
            go_ret
            exact ⟨ret_bool HRL.out, HB0.out.trans (HB5.out.mono HB0.out.size)⟩
          exact AllReadyH.nil
        exact AllReadyH.nil
      exact AllReadyH.nil
  · obtain ⟨f', hf'⟩ : ∃ f', f = f' + 1 := ⟨f - 1, by omega⟩
    have hqr : q ≠ rr := by omega
    have hqs : q + 1 + f' = rr := by omega
    have e1 : ((q : Int) == (rr : Int)) = false := by simp; omega
    have e2 : decide ((q : Int) = (rr : Int)) = false := decide_eq_false (by omega)
    have HREC2 := Lib.hid (HREC.out f' hf')
    have HBAD2 := Lib.hid (HBAD.out f' hf')
    have HALL2 := Lib.hid (HALL.out f' hf')
    have hq3 : q ≤ 3 := by omega
    clear HREC HBAD HALL HR0 HAP HLS HC0 HC1 hf hf'
    go_enter Tryz.func51, Tryz.ntmps51
    go_wp2_with fail
    rw [← hW]
    clear hW
    refine (HAR.out W HB0.out).mono ?_
    rintro e w1 ⟨rfl, hb1⟩
    have HB1 : Hid (Below W.heap.size W w1) := Lib.hid hb1
    clear hb1 z0 z1 z2 y0 y1 y2 y3 y4
    obtain ⟨⟨z0, z1, z2⟩, y0, y1, y2, y3, y4⟩ := HX0.out.below HB1.out
    go_wp2_with fail
    refine (HUP.out w1 (HB0.out.trans (HB1.out.mono HB0.out.size))).mono ?_
    rintro e w2 ⟨uv, rfl, hown, hb2⟩
    have HB2 : Hid (Below W.heap.size W w2) := Lib.hid (HB1.out.trans (hb2.mono HB1.out.size))
    obtain ⟨Au, cu, rfl, _⟩ := own_slice hown
    have HUV := Lib.hid (Has.of_own hown)
    clear hb2 hown z0 z1 z2 y0 y1 y2 y3 y4
    go_wp2
    go_loopw [9] (fun v9 wr => ∃ j : Nat, v9 = .int .i64 j ∧ j ≤ m1 ∧ Hid (∀ i, i < j → oneL U ds a b f' (A ++ [U.getD i 0]) = true) ∧ Hid (Below w2.heap.size w2 wr)) (fun i _ => m1 - (intOf i).toNat)
    case atStart => exact ⟨0, rfl, Nat.zero_le _, Lib.hid (fun j hj => absurd hj (Nat.not_lt_zero _)), Lib.hid (Below.refl _ _)⟩
    case round =>
      obtain ⟨j, rfl, hj, HT, HB⟩ := hrel
      have HBW : Hid (Below W.heap.size W wr) := Lib.hid (HB2.out.trans (HB.out.mono HB2.out.size))
      have HBw := Lib.hid (HB0.out.trans (HBW.out.mono HB0.out.size))
      by_cases hlt : j < m1
      · obtain ⟨gu, ou, rfl, hgu, hcu⟩ := HUV.out.cellAt hlt
        rw [natsC (by rw [hcl]; exact hlt)] at hcu
        have HA2 := Lib.hid (snoc_lt HAL.out (HCLT.out j))
        have HB2' := Lib.hid (HBAD2.out j hlt)
        have HT2 : Hid (oneL U ds a b f' (A ++ [U.getD j 0]) = true → ∀ i, i < j + 1 → oneL U ds a b f' (A ++ [U.getD i 0]) = true) := Lib.hid (fun h i hi => by
          by_cases e : i = j
          · subst e; exact h
          · exact HT.out i (by omega))
        have HSN := Lib.hid (nats_snoc2 A (U.getD j 0))
        have HRC := Lib.hid (fun vs' W' hW' hv r' hr' => HREC2.out (A ++ [U.getD j 0]) vs' W' (by rw [List.length_append, ← HQE.out]; exact hqs) HA2.out hW' hv (fun e => by simp at e) r' hr')
        obtain ⟨x, hx⟩ : ∃ x, x = U.getD j 0 := ⟨_, rfl⟩
        rw [← hx] at hcu HB2' HT2 HSN HRC
        obtain ⟨rb, hrb⟩ : ∃ rb, rb = oneL U ds a b f' (A ++ [x]) := ⟨_, rfl⟩
        have HRC2 := Lib.hid (fun vs' W' hW' hv => HRC.out vs' W' hW' hv rb hrb.symm)
        rw [← hrb] at HB2' HT2
        have HKS : Hid (∀ w', Below wr.heap.size wr w' → SReg w.heap.size g (o + k * 5) (.slice A1 m1 c1) (.slice A2 m2 c2) (.slice (some ⟨g, o, none⟩) m3 c3) nm Ad dl cd a b un w' ∧ w'.cell? ⟨gu, ou + j, none⟩ = some (.int .i64 (x : Int))) := Lib.hid (fun w' hw' => ⟨HX0.out.below (HBW.out.trans (hw'.mono HBW.out.size)), ((HB.out.trans (hw'.mono HB.out.size)).cell (p := ⟨gu, ou + j, none⟩) hgu).trans hcu⟩)
        have HVW : Hid (∀ w', Below wr.heap.size wr w' → Has w' (.slice As q cs) (ivs (nats A))) := Lib.hid (fun w' hw' => HVS.out.below (Nat.le_refl _) (HBw.out.trans (hw'.mono HBw.out.size)))
        have HNL : Hid (ivs (nats A) = [] → (.slice As q cs : Value) = .slice none 0 0) := Lib.hid (fun e => HNIL.out (by
          have h9 := congrArg List.length e
          rw [ivs_len, nats_len] at h9
          exact List.eq_nil_of_length_eq_zero h9))
        have HLN : Hid ((ivs (nats A)).length = q) := Lib.hid (by rw [ivs_len, nats_len, HQE.out])
        have d1 : decide ((j : Int) < (m1 : Int)) = true := decide_eq_true (by omega)
        have i3 : (0 : Int) ≤ (j : Int) := by omega
        have i4 : (j : Int) < (m1 : Int) := by omega
        clear hx hrb hcu HRC
        have HAL1 : Hid (∀ ob, Below wr.heap.size wr (wr.alloc ob).drew) := Lib.hid (fun ob => ((Below.refl _ _).alloc (Nat.le_refl _) ob).drew)
        have HAL2 : Hid (∀ o1 o2, Below wr.heap.size wr ((wr.alloc o1).alloc o2).drew) := Lib.hid (fun o1 o2 => (((Below.refl _ _).alloc (Nat.le_refl _) o1).alloc (by simp) o2).drew)
        have HO1 := Lib.hid (ivs_one (nats A))
        have HOE : Hid ((wr.alloc (.cells #[] 3)).ownsRow wr.heap.size 3 1 (.slice (some ⟨wr.heap.size, 0, none⟩) 0 0) 0 []) := Lib.hid (World.ownsRow_lit (e := 3) (size := 1) wr #[] 0 (Nat.le_refl _) (by unfold maxLen; omega) rfl)
        have HOE2 : Hid (((wr.alloc (.cells #[.int .i64 (x : Int)] 3)).alloc (.cells #[] 3)).ownsRow wr.heap.size 3 1 (.slice (some ⟨wr.heap.size + 1, 0, none⟩) 0 0) 0 []) := Lib.hid (by
          have h9 := World.ownsRow_lit (base := wr.heap.size) (e := 3) (size := 1) (wr.alloc (.cells #[.int .i64 (x : Int)] 3)) #[] 0 (by simp) (by unfold maxLen; omega) rfl
          have e9 : (wr.alloc (.cells #[.int .i64 (x : Int)] 3)).heap.size = wr.heap.size + 1 := by simp
          rw [e9] at h9
          exact h9)
        have HX9 : Hid (((wr.alloc (.cells #[.int .i64 (x : Int)] 3)).alloc (.cells #[] 3)).drew.cell? ⟨wr.heap.size, 0, none⟩ = some (.int .i64 (x : Int))) := Lib.hid ((((Below.refl (wr.alloc (.cells #[.int .i64 (x : Int)] 3)).heap.size (wr.alloc (.cells #[.int .i64 (x : Int)] 3))).alloc (Nat.le_refl _) (.cells #[] 3)).drew.cell (p := ⟨wr.heap.size, 0, none⟩) (by simp)).trans (by simp))
        go_wp2_with fail
        refine wp_region_noPanic ?_
        refine wp_region_held_drew (S := (fun w' => SReg w.heap.size g (o + k * 5) (.slice A1 m1 c1) (.slice A2 m2 c2) (.slice (some ⟨g, o, none⟩) m3 c3) nm Ad dl cd a b un w' ∧ w'.cell? ⟨gu, ou + j, none⟩ = some (.int .i64 (x : Int)))) (by kernel_rfl) ?_ (fun hHd0 => ?_)
        · first | exact HKS.out _ (Below.refl _ _).drew | exact HKS.out _ HB6.out | exact HKS.out _ HB5.out | exact HKS.out _ HB4.out | exact HKS.out _ (HAL1.out _) | exact HKS.out _ (HAL2.out _ _) | exact HKS.out _ (HA2.out _)
        refine wpAnyH_take (i := 0) (v := ?_) rfl (by kernel_rfl) (by kernel_rfl) (by kernel_rfl) (fun _ _ _ h => h) (Or.inl ⟨by rfl, ?_⟩) (by with_reducible assumption) ?_
        rotate_left
        · intro w hSw; (try dsimp only at hSw); go_simp <;> with_reducible rfl
        (try simp only [Act.put]); (try simp only [List.setIfInBounds_toArray]); (try simp only [List.set_cons_succ, List.set_cons_zero])
        refine wpAnyH_take (i := 1) (v := ?_) rfl (by kernel_rfl) (by kernel_rfl) (by kernel_rfl) (fun _ _ _ h => h) (Or.inl ⟨by rfl, ?_⟩) (by with_reducible assumption) ?_
        rotate_left
        · intro w hSw; (try dsimp only at hSw); go_simp <;> with_reducible rfl
        (try simp only [Act.put]); (try simp only [List.setIfInBounds_toArray]); (try simp only [List.set_cons_succ, List.set_cons_zero])
        refine wpAnyH_take (i := 3) (v := ?_) rfl (by kernel_rfl) (by kernel_rfl) (by kernel_rfl) (fun _ _ _ h => h) (Or.inl ⟨by rfl, ?_⟩) (by with_reducible assumption) ?_
        rotate_left
        · intro w hSw; (try dsimp only at hSw); go_simp <;> with_reducible rfl
        (try simp only [Act.put]); (try simp only [List.setIfInBounds_toArray]); (try simp only [List.set_cons_succ, List.set_cons_zero])
        refine wpAnyH_take (i := 5) (v := ?_) rfl (by kernel_rfl) (by kernel_rfl) (by kernel_rfl) (fun _ _ _ h => h) (Or.inl ⟨by rfl, ?_⟩) (by with_reducible assumption) ?_
        rotate_left
        · intro w hSw; (try dsimp only at hSw); go_simp <;> with_reducible rfl
        (try simp only [Act.put]); (try simp only [List.setIfInBounds_toArray]); (try simp only [List.set_cons_succ, List.set_cons_zero])
        refine wpAnyH_take (i := 6) (v := ?_) rfl (by kernel_rfl) (by kernel_rfl) (by kernel_rfl) (fun _ _ _ h => h) (Or.inl ⟨by rfl, ?_⟩) (by with_reducible assumption) ?_
        rotate_left
        · intro w hSw; (try dsimp only at hSw); go_simp <;> with_reducible rfl
        (try simp only [Act.put]); (try simp only [List.setIfInBounds_toArray]); (try simp only [List.set_cons_succ, List.set_cons_zero])
        refine wpAnyH_take (i := 7) (v := ?_) rfl (by kernel_rfl) (by kernel_rfl) (by kernel_rfl) (fun _ _ _ h => h) (Or.inl ⟨by rfl, ?_⟩) (by with_reducible assumption) ?_
        rotate_left
        · intro w hSw; (try dsimp only at hSw); go_simp <;> with_reducible rfl
        (try simp only [Act.put]); (try simp only [List.setIfInBounds_toArray]); (try simp only [List.set_cons_succ, List.set_cons_zero])
        refine wpAnyH_take (i := 8) (v := ?_) rfl (by kernel_rfl) (by kernel_rfl) (by kernel_rfl) (fun _ _ _ h => h) (Or.inl ⟨by rfl, ?_⟩) (by with_reducible assumption) ?_
        rotate_left
        · intro w hSw; (try dsimp only at hSw); go_simp <;> with_reducible rfl
        (try simp only [Act.put]); (try simp only [List.setIfInBounds_toArray]); (try simp only [List.set_cons_succ, List.set_cons_zero])
        refine wpAnyH_ready (rs := [2, 9]) (by kernel_rfl) (by simp) ?_
        refine AllReadyH.cons (o := _) rfl (fun K hK => ?_) ?_
        · go_simp
          refine hK.out _ _ ?_ (fun hHd1 => ?_)
          · (try dsimp only); first | exact HKS.out _ (Below.refl _ _).drew | exact HKS.out _ HB6.out | exact HKS.out _ HB5.out | exact HKS.out _ HB4.out | exact HKS.out _ (HAL1.out _) | exact HKS.out _ (HAL2.out _ _) | exact HKS.out _ (HA2.out _)
          clear hK K hHd0
          (try simp only [Act.put]); (try simp only [List.setIfInBounds_toArray]); (try simp only [List.set_cons_succ, List.set_cons_zero])
          refine wpAnyH_ready (rs := [4, 9]) (by kernel_rfl) (by simp) ?_
          refine AllReadyH.cons (o := _) rfl (fun K hK => ?_) ?_
          · (refine step_append_has (by rfl) _ _ _ (by rfl) wr.heap.size 3 j0 (.int .i64 0) 8 Tryz.underlying88 hij hy0 hy1 hy2 rfl _ (by rfl) (own_below HOE.out (Below.refl _ _).drew) _ (ivs (nats A)) (by rfl) (HVW.out _ (HAL1.out (.cells #[] 3))) HNL.out HO1.out (by rw [HLN.out]; unfold maxLen; omega) (by rw [HLN.out]; omega) (HAL1.out (.cells #[] 3)).size ?_; intro v4 w4 hown4 hgr4; have HO4 : Hid (w4.ownsRow wr.heap.size 3 1 v4 q (ivs (nats A))) := Lib.hid (by rw [← HLN.out]; exact hown4); have HB4 : Hid (Below wr.heap.size wr w4) := Lib.hid ((HAL1.out (.cells #[] 3)).grown hgr4 (HAL1.out (.cells #[] 3)).size (fun k hk => (by cases hk; first | exact Nat.le_refl _ | exact Nat.le_succ _))); have HA2 : Hid (∀ ob, Below wr.heap.size wr (w4.alloc ob)) := Lib.hid (fun ob => HB4.out.alloc HB4.out.size ob); have HA3 : Hid (∀ ob, Below w4.heap.size w4 (w4.alloc ob)) := Lib.hid (fun ob => (Below.refl _ _).alloc (Nat.le_refl _) ob); clear hown4 hgr4)
            refine hK.out _ _ ?_ (fun hHd2 => ?_)
            · (try dsimp only); first | exact HKS.out _ (Below.refl _ _).drew | exact HKS.out _ HB6.out | exact HKS.out _ HB5.out | exact HKS.out _ HB4.out | exact HKS.out _ (HAL1.out _) | exact HKS.out _ (HAL2.out _ _) | exact HKS.out _ (HA2.out _)
            clear hK K hHd1
            (try simp only [Act.put]); (try simp only [List.setIfInBounds_toArray]); (try simp only [List.set_cons_succ, List.set_cons_zero])
            refine wpAnyH_ready (rs := [9]) (by kernel_rfl) (by simp) ?_
            refine AllReadyH.cons (o := _) rfl (fun K hK => ?_) ?_
            · go_simp
              refine hK.out _ _ ?_ (fun hHd3 => ?_)
              · (try dsimp only); first | exact HKS.out _ (Below.refl _ _).drew | exact HKS.out _ HB6.out | exact HKS.out _ HB5.out | exact HKS.out _ HB4.out | exact HKS.out _ (HAL1.out _) | exact HKS.out _ (HAL2.out _ _) | exact HKS.out _ (HA2.out _)
              clear hK K hHd2
              (try simp only [Act.put]); (try simp only [List.setIfInBounds_toArray]); (try simp only [List.set_cons_succ, List.set_cons_zero])
              refine wpAnyH_ready (rs := [10]) (by kernel_rfl) (by simp) ?_
              refine AllReadyH.cons (o := _) rfl (fun K hK => ?_) ?_
              · (refine step_append_any (by rfl) _ _ _ (by rfl) wr.heap.size 3 j0 (.int .i64 0) 1 8 Tryz.underlying88 hij hy0 hy1 hy2 rfl (by omega) _ q _ (by rfl) (own_below HO4.out (HA3.out _)) ⟨w4.heap.size, 0, none⟩ 1 1 [.int .i64 (x : Int)] (by rfl) (by omega) (by rfl) (one_cell _ _ _) (one_one _ rfl) (by unfold maxLen; omega) (by omega) ((HA2.out _).size) ?_; intro g4 cap4 w5 hown5 hgr5 hg5 hlt5; have HB5 : Hid (Below wr.heap.size wr w5) := Lib.hid ((HA2.out _).grown hgr5 (HA2.out _).size (own_block HO4.out)); have HH5 : Hid (Has w5 (.slice (some ⟨g4, 0, none⟩) (q + 1) cap4) (ivs (nats (A ++ [x])))) := Lib.hid (by rw [HSN.out]; exact Has.of_own hown5); clear hown5 hgr5 hg5 hlt5)
                refine hK.out _ _ ?_ (fun hHd4 => ?_)
                · (try dsimp only); first | exact HKS.out _ (Below.refl _ _).drew | exact HKS.out _ HB6.out | exact HKS.out _ HB5.out | exact HKS.out _ HB4.out | exact HKS.out _ (HAL1.out _) | exact HKS.out _ (HAL2.out _ _) | exact HKS.out _ (HA2.out _)
                clear hK K hHd3
                (try simp only [Act.put]); (try simp only [List.setIfInBounds_toArray]); (try simp only [List.set_cons_succ, List.set_cons_zero])
                refine wpAnyH_ready (rs := [11]) (by kernel_rfl) (by simp) ?_
                refine AllReadyH.cons (o := _) rfl (fun K hK => ?_) ?_
                · (go_simp; refine (HRC2.out _ w5 (HBw.out.trans (HB5.out.mono HBw.out.size)) HH5.out).mono ?_; rintro e w6 ⟨rfl, hb6⟩; have HB6 : Hid (Below wr.heap.size wr w6) := Lib.hid (HB5.out.trans (hb6.mono HB5.out.size)); clear hb6; (try dsimp only))
                  refine hK.out _ _ ?_ (fun hHd5 => ?_)
                  · (try dsimp only); first | exact HKS.out _ (Below.refl _ _).drew | exact HKS.out _ HB6.out | exact HKS.out _ HB5.out | exact HKS.out _ HB4.out | exact HKS.out _ (HAL1.out _) | exact HKS.out _ (HAL2.out _ _) | exact HKS.out _ (HA2.out _)
                  clear hK K hHd4
                  (try simp only [Act.put]); (try simp only [List.setIfInBounds_toArray]); (try simp only [List.set_cons_succ, List.set_cons_zero])
                  refine wpAnyH_ready (rs := [12]) (by kernel_rfl) (by simp) ?_
                  refine AllReadyH.cons (o := _) rfl (fun K hK => ?_) ?_
                  · go_simp
                    refine hK.out _ _ ?_ (fun hHd6 => ?_)
                    · (try dsimp only); first | exact HKS.out _ (Below.refl _ _).drew | exact HKS.out _ HB6.out | exact HKS.out _ HB5.out | exact HKS.out _ HB4.out | exact HKS.out _ (HAL1.out _) | exact HKS.out _ (HAL2.out _ _) | exact HKS.out _ (HA2.out _)
                    clear hK K hHd5
                    (try simp only [Act.put]); (try simp only [List.setIfInBounds_toArray]); (try simp only [List.set_cons_succ, List.set_cons_zero])
                    refine wpAnyH_done (by kernel_rfl) ?_ _
                    refine NoPanic.normal ?_
                    have HBF := Lib.hid (HB.out.trans (HB6.out.mono HB.out.size))
                    cases rb with
                    | true =>
                      have HT3 := Lib.hid (HT2.out (by first | rfl | trivial))
                      go_wp2
                      go_roundw
                      case rel => exact ⟨j + 1, by go_num, by omega, HT3, HBF⟩
                      case measure => simp [intOf]; omega
                    | false =>
                      have HQ := Lib.hid (HB2'.out (by first | rfl | trivial))
                      go_wp2
                      go_ret
                      exact ⟨ret_bool HQ.out.symm, HBw.out.trans (HB6.out.mono HBw.out.size)⟩
                  exact AllReadyH.nil
                exact AllReadyH.nil
              exact AllReadyH.nil
            exact AllReadyH.nil
          refine AllReadyH.cons (o := _) rfl (fun K hK => ?_) ?_
          · go_simp
            refine hK.out _ _ ?_ (fun hHd7 => ?_)
            · (try dsimp only); first | exact HKS.out _ (Below.refl _ _).drew | exact HKS.out _ HB6.out | exact HKS.out _ HB5.out | exact HKS.out _ HB4.out | exact HKS.out _ (HAL1.out _) | exact HKS.out _ (HAL2.out _ _) | exact HKS.out _ (HA2.out _)
            clear hK K hHd1
            (try simp only [Act.put]); (try simp only [List.setIfInBounds_toArray]); (try simp only [List.set_cons_succ, List.set_cons_zero])
            refine wpAnyH_ready (rs := [4]) (by kernel_rfl) (by simp) ?_
            refine AllReadyH.cons (o := _) rfl (fun K hK => ?_) ?_
            · (refine step_append_has (by rfl) _ _ _ (by rfl) wr.heap.size 3 j0 (.int .i64 0) 8 Tryz.underlying88 hij hy0 hy1 hy2 rfl _ (by rfl) (own_below HOE.out ((Below.refl _ _).alloc (Nat.le_refl _) (.cells #[.int .i64 (x : Int)] 3)).drew) _ (ivs (nats A)) (by rfl) (HVW.out _ (HAL2.out (.cells #[] 3) (.cells #[.int .i64 (x : Int)] 3))) HNL.out HO1.out (by rw [HLN.out]; unfold maxLen; omega) (by rw [HLN.out]; omega) (HAL2.out (.cells #[] 3) (.cells #[.int .i64 (x : Int)] 3)).size ?_; intro v4 w4 hown4 hgr4; have HO4 : Hid (w4.ownsRow wr.heap.size 3 1 v4 q (ivs (nats A))) := Lib.hid (by rw [← HLN.out]; exact hown4); have HB4 : Hid (Below wr.heap.size wr w4) := Lib.hid ((HAL2.out (.cells #[] 3) (.cells #[.int .i64 (x : Int)] 3)).grown hgr4 (HAL2.out (.cells #[] 3) (.cells #[.int .i64 (x : Int)] 3)).size (fun k hk => (by cases hk; first | exact Nat.le_refl _ | exact Nat.le_succ _))); have HX8 : Hid (w4.cell? ⟨wr.heap.size + 1, 0, none⟩ = some (.int .i64 (x : Int))) := Lib.hid ((hgr4.cell_far ⟨wr.heap.size + 1, 0, none⟩ (by first | (simp; done) | (simp; omega)) (by simp)).trans (by simp)); clear hown4 hgr4)
              refine hK.out _ _ ?_ (fun hHd8 => ?_)
              · (try dsimp only); first | exact HKS.out _ (Below.refl _ _).drew | exact HKS.out _ HB6.out | exact HKS.out _ HB5.out | exact HKS.out _ HB4.out | exact HKS.out _ (HAL1.out _) | exact HKS.out _ (HAL2.out _ _) | exact HKS.out _ (HA2.out _)
              clear hK K hHd7
              (try simp only [Act.put]); (try simp only [List.setIfInBounds_toArray]); (try simp only [List.set_cons_succ, List.set_cons_zero])
              refine wpAnyH_ready (rs := [10]) (by kernel_rfl) (by simp) ?_
              refine AllReadyH.cons (o := _) rfl (fun K hK => ?_) ?_
              · (refine step_append_any (by rfl) _ _ _ (by rfl) wr.heap.size 3 j0 (.int .i64 0) 1 8 Tryz.underlying88 hij hy0 hy1 hy2 rfl (by omega) _ q _ (by rfl) (HO4.out) ⟨wr.heap.size + 1, 0, none⟩ 1 1 [.int .i64 (x : Int)] (by rfl) (by omega) (by rfl) (fun j9 v9 hv9 => (by match j9, hv9 with | 0, hv9 => (simp at hv9; subst hv9; exact HX8.out))) (one_one _ rfl) (by unfold maxLen; omega) (by omega) (HB4.out.size) ?_; intro g4 cap4 w5 hown5 hgr5 hg5 hlt5; have HB5 : Hid (Below wr.heap.size wr w5) := Lib.hid (HB4.out.grown hgr5 HB4.out.size (own_block HO4.out)); have HH5 : Hid (Has w5 (.slice (some ⟨g4, 0, none⟩) (q + 1) cap4) (ivs (nats (A ++ [x])))) := Lib.hid (by rw [HSN.out]; exact Has.of_own hown5); clear hown5 hgr5 hg5 hlt5)
                refine hK.out _ _ ?_ (fun hHd9 => ?_)
                · (try dsimp only); first | exact HKS.out _ (Below.refl _ _).drew | exact HKS.out _ HB6.out | exact HKS.out _ HB5.out | exact HKS.out _ HB4.out | exact HKS.out _ (HAL1.out _) | exact HKS.out _ (HAL2.out _ _) | exact HKS.out _ (HA2.out _)
                clear hK K hHd8
                (try simp only [Act.put]); (try simp only [List.setIfInBounds_toArray]); (try simp only [List.set_cons_succ, List.set_cons_zero])
                refine wpAnyH_ready (rs := [11]) (by kernel_rfl) (by simp) ?_
                refine AllReadyH.cons (o := _) rfl (fun K hK => ?_) ?_
                · (go_simp; refine (HRC2.out _ w5 (HBw.out.trans (HB5.out.mono HBw.out.size)) HH5.out).mono ?_; rintro e w6 ⟨rfl, hb6⟩; have HB6 : Hid (Below wr.heap.size wr w6) := Lib.hid (HB5.out.trans (hb6.mono HB5.out.size)); clear hb6; (try dsimp only))
                  refine hK.out _ _ ?_ (fun hHd10 => ?_)
                  · (try dsimp only); first | exact HKS.out _ (Below.refl _ _).drew | exact HKS.out _ HB6.out | exact HKS.out _ HB5.out | exact HKS.out _ HB4.out | exact HKS.out _ (HAL1.out _) | exact HKS.out _ (HAL2.out _ _) | exact HKS.out _ (HA2.out _)
                  clear hK K hHd9
                  (try simp only [Act.put]); (try simp only [List.setIfInBounds_toArray]); (try simp only [List.set_cons_succ, List.set_cons_zero])
                  refine wpAnyH_ready (rs := [12]) (by kernel_rfl) (by simp) ?_
                  refine AllReadyH.cons (o := _) rfl (fun K hK => ?_) ?_
                  · go_simp
                    refine hK.out _ _ ?_ (fun hHd11 => ?_)
                    · (try dsimp only); first | exact HKS.out _ (Below.refl _ _).drew | exact HKS.out _ HB6.out | exact HKS.out _ HB5.out | exact HKS.out _ HB4.out | exact HKS.out _ (HAL1.out _) | exact HKS.out _ (HAL2.out _ _) | exact HKS.out _ (HA2.out _)
                    clear hK K hHd10
                    (try simp only [Act.put]); (try simp only [List.setIfInBounds_toArray]); (try simp only [List.set_cons_succ, List.set_cons_zero])
                    refine wpAnyH_done (by kernel_rfl) ?_ _
                    refine NoPanic.normal ?_
                    have HBF := Lib.hid (HB.out.trans (HB6.out.mono HB.out.size))
                    cases rb with
                    | true =>
                      have HT3 := Lib.hid (HT2.out (by first | rfl | trivial))
                      go_wp2
                      go_roundw
                      case rel => exact ⟨j + 1, by go_num, by omega, HT3, HBF⟩
                      case measure => simp [intOf]; omega
                    | false =>
                      have HQ := Lib.hid (HB2'.out (by first | rfl | trivial))
                      go_wp2
                      go_ret
                      exact ⟨ret_bool HQ.out.symm, HBw.out.trans (HB6.out.mono HBw.out.size)⟩
                  exact AllReadyH.nil
                exact AllReadyH.nil
              exact AllReadyH.nil
            exact AllReadyH.nil
          exact AllReadyH.nil
        refine AllReadyH.cons (o := _) rfl (fun K hK => ?_) ?_
        · go_simp
          refine hK.out _ _ ?_ (fun hHd12 => ?_)
          · (try dsimp only); first | exact HKS.out _ (Below.refl _ _).drew | exact HKS.out _ HB6.out | exact HKS.out _ HB5.out | exact HKS.out _ HB4.out | exact HKS.out _ (HAL1.out _) | exact HKS.out _ (HAL2.out _ _) | exact HKS.out _ (HA2.out _)
          clear hK K hHd0
          (try simp only [Act.put]); (try simp only [List.setIfInBounds_toArray]); (try simp only [List.set_cons_succ, List.set_cons_zero])
          refine wpAnyH_ready (rs := [2]) (by kernel_rfl) (by simp) ?_
          refine AllReadyH.cons (o := _) rfl (fun K hK => ?_) ?_
          · go_simp
            refine hK.out _ _ ?_ (fun hHd13 => ?_)
            · (try dsimp only); first | exact HKS.out _ (Below.refl _ _).drew | exact HKS.out _ HB6.out | exact HKS.out _ HB5.out | exact HKS.out _ HB4.out | exact HKS.out _ (HAL1.out _) | exact HKS.out _ (HAL2.out _ _) | exact HKS.out _ (HA2.out _)
            clear hK K hHd12
            (try simp only [Act.put]); (try simp only [List.setIfInBounds_toArray]); (try simp only [List.set_cons_succ, List.set_cons_zero])
            refine wpAnyH_ready (rs := [4]) (by kernel_rfl) (by simp) ?_
            refine AllReadyH.cons (o := _) rfl (fun K hK => ?_) ?_
            · (refine step_append_has (by rfl) _ _ _ (by rfl) wr.heap.size 3 j0 (.int .i64 0) 8 Tryz.underlying88 hij hy0 hy1 hy2 rfl _ (by rfl) (own_below HOE2.out (Below.refl _ _).drew) _ (ivs (nats A)) (by rfl) (HVW.out _ (HAL2.out (.cells #[.int .i64 (x : Int)] 3) (.cells #[] 3))) HNL.out HO1.out (by rw [HLN.out]; unfold maxLen; omega) (by rw [HLN.out]; omega) (HAL2.out (.cells #[.int .i64 (x : Int)] 3) (.cells #[] 3)).size ?_; intro v4 w4 hown4 hgr4; have HO4 : Hid (w4.ownsRow wr.heap.size 3 1 v4 q (ivs (nats A))) := Lib.hid (by rw [← HLN.out]; exact hown4); have HB4 : Hid (Below wr.heap.size wr w4) := Lib.hid ((HAL2.out (.cells #[.int .i64 (x : Int)] 3) (.cells #[] 3)).grown hgr4 (HAL2.out (.cells #[.int .i64 (x : Int)] 3) (.cells #[] 3)).size (fun k hk => (by cases hk; first | exact Nat.le_refl _ | exact Nat.le_succ _))); have HX8 : Hid (w4.cell? ⟨wr.heap.size, 0, none⟩ = some (.int .i64 (x : Int))) := Lib.hid ((hgr4.cell_far ⟨wr.heap.size, 0, none⟩ (by first | (simp; done) | (simp; omega)) (by simp)).trans HX9.out); clear hown4 hgr4)
              refine hK.out _ _ ?_ (fun hHd14 => ?_)
              · (try dsimp only); first | exact HKS.out _ (Below.refl _ _).drew | exact HKS.out _ HB6.out | exact HKS.out _ HB5.out | exact HKS.out _ HB4.out | exact HKS.out _ (HAL1.out _) | exact HKS.out _ (HAL2.out _ _) | exact HKS.out _ (HA2.out _)
              clear hK K hHd13
              (try simp only [Act.put]); (try simp only [List.setIfInBounds_toArray]); (try simp only [List.set_cons_succ, List.set_cons_zero])
              refine wpAnyH_ready (rs := [10]) (by kernel_rfl) (by simp) ?_
              refine AllReadyH.cons (o := _) rfl (fun K hK => ?_) ?_
              · (refine step_append_any (by rfl) _ _ _ (by rfl) wr.heap.size 3 j0 (.int .i64 0) 1 8 Tryz.underlying88 hij hy0 hy1 hy2 rfl (by omega) _ q _ (by rfl) (HO4.out) ⟨wr.heap.size, 0, none⟩ 1 1 [.int .i64 (x : Int)] (by rfl) (by omega) (by rfl) (fun j9 v9 hv9 => (by match j9, hv9 with | 0, hv9 => (simp at hv9; subst hv9; exact HX8.out))) (one_one _ rfl) (by unfold maxLen; omega) (by omega) (HB4.out.size) ?_; intro g4 cap4 w5 hown5 hgr5 hg5 hlt5; have HB5 : Hid (Below wr.heap.size wr w5) := Lib.hid (HB4.out.grown hgr5 HB4.out.size (own_block HO4.out)); have HH5 : Hid (Has w5 (.slice (some ⟨g4, 0, none⟩) (q + 1) cap4) (ivs (nats (A ++ [x])))) := Lib.hid (by rw [HSN.out]; exact Has.of_own hown5); clear hown5 hgr5 hg5 hlt5)
                refine hK.out _ _ ?_ (fun hHd15 => ?_)
                · (try dsimp only); first | exact HKS.out _ (Below.refl _ _).drew | exact HKS.out _ HB6.out | exact HKS.out _ HB5.out | exact HKS.out _ HB4.out | exact HKS.out _ (HAL1.out _) | exact HKS.out _ (HAL2.out _ _) | exact HKS.out _ (HA2.out _)
                clear hK K hHd14
                (try simp only [Act.put]); (try simp only [List.setIfInBounds_toArray]); (try simp only [List.set_cons_succ, List.set_cons_zero])
                refine wpAnyH_ready (rs := [11]) (by kernel_rfl) (by simp) ?_
                refine AllReadyH.cons (o := _) rfl (fun K hK => ?_) ?_
                · (go_simp; refine (HRC2.out _ w5 (HBw.out.trans (HB5.out.mono HBw.out.size)) HH5.out).mono ?_; rintro e w6 ⟨rfl, hb6⟩; have HB6 : Hid (Below wr.heap.size wr w6) := Lib.hid (HB5.out.trans (hb6.mono HB5.out.size)); clear hb6; (try dsimp only))
                  refine hK.out _ _ ?_ (fun hHd16 => ?_)
                  · (try dsimp only); first | exact HKS.out _ (Below.refl _ _).drew | exact HKS.out _ HB6.out | exact HKS.out _ HB5.out | exact HKS.out _ HB4.out | exact HKS.out _ (HAL1.out _) | exact HKS.out _ (HAL2.out _ _) | exact HKS.out _ (HA2.out _)
                  clear hK K hHd15
                  (try simp only [Act.put]); (try simp only [List.setIfInBounds_toArray]); (try simp only [List.set_cons_succ, List.set_cons_zero])
                  refine wpAnyH_ready (rs := [12]) (by kernel_rfl) (by simp) ?_
                  refine AllReadyH.cons (o := _) rfl (fun K hK => ?_) ?_
                  · go_simp
                    refine hK.out _ _ ?_ (fun hHd17 => ?_)
                    · (try dsimp only); first | exact HKS.out _ (Below.refl _ _).drew | exact HKS.out _ HB6.out | exact HKS.out _ HB5.out | exact HKS.out _ HB4.out | exact HKS.out _ (HAL1.out _) | exact HKS.out _ (HAL2.out _ _) | exact HKS.out _ (HA2.out _)
                    clear hK K hHd16
                    (try simp only [Act.put]); (try simp only [List.setIfInBounds_toArray]); (try simp only [List.set_cons_succ, List.set_cons_zero])
                    refine wpAnyH_done (by kernel_rfl) ?_ _
                    refine NoPanic.normal ?_
                    have HBF := Lib.hid (HB.out.trans (HB6.out.mono HB.out.size))
                    cases rb with
                    | true =>
                      have HT3 := Lib.hid (HT2.out (by first | rfl | trivial))
                      go_wp2
                      go_roundw
                      case rel => exact ⟨j + 1, by go_num, by omega, HT3, HBF⟩
                      case measure => simp [intOf]; omega
                    | false =>
                      have HQ := Lib.hid (HB2'.out (by first | rfl | trivial))
                      go_wp2
                      go_ret
                      exact ⟨ret_bool HQ.out.symm, HBw.out.trans (HB6.out.mono HBw.out.size)⟩
                  exact AllReadyH.nil
                exact AllReadyH.nil
              exact AllReadyH.nil
            exact AllReadyH.nil
          exact AllReadyH.nil
        exact AllReadyH.nil
      · obtain rfl : j = m1 := by omega
        have d1 : decide ((j : Int) < (j : Int)) = false := decide_eq_false (by omega)
        have HQ : Hid (r = true) := Lib.hid (HALL2.out HT.out)
        go_wp2
        go_ret
        exact ⟨ret_bool HQ.out.symm, HBw.out⟩
theorem regC_all (P : List (List UInt8)) (Q : List (Int × Int)) (O : List OpM) (hok : sigOk P Q O = true) (k : Nat) (hk : k < O.length) : ∀ f, RegC P Q O k f
  | 0 => regC_step P Q O hok k hk 0 (fun f' h => by omega)
  | f + 1 => regC_step P Q O hok k hk (f + 1) (fun f' h => Nat.succ.inj h ▸ regC_all P Q O hok k hk f)
set_option maxRecDepth 50000 in
set_option maxHeartbeats 8000000 in
/-- spec.IsPreregular -/
theorem sPre_any (P : List (List UInt8)) (Q : List (Int × Int)) (O : List OpM) (va vb vc : Value) (R : Bool) (hR : preB P Q O = R) (w : World) (h : HasG w va vb vc P Q O) :
    Calls Tryz.prog 18 #[.agg #[va, vb, vc]] w fun e w' => e = .returned (.bool R) ∧ Below w.heap.size w w' := by
  have HIS := Lib.hid (fun s (hs : sigOk P Q O = s) W (hW : Below w.heap.size w W) => sigb.sIsSig_any P Q O va vb vc s hs W (h.below (Nat.le_refl _) hW))
  have HREG := Lib.hid (fun (hok : sigOk P Q O = true) k (hk : k < O.length) W (hW : Below w.heap.size w W) => regC_all P Q O hok k hk (ar (O.getD k default)) [] va vb vc (.slice none 0 0) W (Nat.zero_add _) (fun i => by simp; exact Nat.two_pow_pos _) (h.below (Nat.le_refl _) hW) ⟨none, 0, rfl, Nat.le_refl _, by unfold maxLen; omega, fun j v hv => by simp [nats, ivs] at hv⟩ (fun _ => rfl) _ rfl)
  obtain ⟨A1, c1, A2, c2, A3, c3, rfl, rfl, rfl, _, _, h3l, _⟩ := h.shape
  obtain ⟨U, hU⟩ : ∃ U, U = clo P.length (prs Q) := ⟨_, rfl⟩
  rw [← hU] at HREG
  obtain ⟨m1, hm1⟩ : ∃ q, q = P.length := ⟨_, rfl⟩
  obtain ⟨m2, hm2⟩ : ∃ q, q = Q.length := ⟨_, rfl⟩
  obtain ⟨m3, hm3⟩ : ∃ q, q = O.length := ⟨_, rfl⟩
  rw [← hm3] at h3l
  rw [← hm1, ← hm2, ← hm3] at HIS HREG ⊢
  obtain ⟨W, hW⟩ : ∃ W, W = w.alloc (.cells #[.slice A1 m1 c1, .slice A2 m2 c2, .slice A3 m3 c3] 40) := ⟨_, rfl⟩
  have hb0 : Below w.heap.size w W := by rw [hW]; exact (Below.refl _ _).alloc (Nat.le_refl _) _
  have hX0 : tso.SRul w.heap.size (.slice A1 m1 c1) (.slice A2 m2 c2) (.slice A3 m3 c3) W.heap.size W W := by
    rw [hW]
    exact ⟨tsl.box3 (termt.heap_at _ _ _ rfl), Below.refl _ _⟩
  have hzW : w.heap.size < W.heap.size := by rw [hW]; simp
  have HB0 := Lib.hid hb0
  have HX0 := Lib.hid hX0
  obtain ⟨x0, x1, x2⟩ := hX0.1
  clear h hb0 hX0
  cases hok : sigOk P Q O with
  | false =>
    have HI1 := Lib.hid (HIS.out false hok)
    have HQ : Hid (R = false) := Lib.hid (by rw [← hR, preB, hok]; rfl)
    clear hR hok HIS HREG hm1 hm2 hm3 hU
    go_enter Tryz.func18, Tryz.ntmps18
    go_wp2_with fail
    rw [← hW]
    clear hW
    refine (HI1.out W HB0.out).mono ?_
    rintro e w1 ⟨rfl, hb1⟩
    go_wp2
    go_ret
    exact ⟨ret_bool HQ.out.symm, HB0.out.trans (hb1.mono HB0.out.size)⟩
  | true =>
    have HI1 := Lib.hid (HIS.out true hok)
    have HR1 := Lib.hid (HREG.out hok)
    have HRA : Hid (∀ k, k < O.length → oneL (clo P.length (prs Q)) (O.getD k default).decls (O.getD k default).ass (O.getD k default).com (ar (O.getD k default)) [] = false → R = false) := Lib.hid (fun k hk h9 => by
      rw [← hR, preB, hok, Bool.true_and, List.all_eq_false]
      exact ⟨_, op_mem' hk, by rw [h9]; simp⟩)
    have HRB : Hid ((∀ k, k < O.length → oneL (clo P.length (prs Q)) (O.getD k default).decls (O.getD k default).ass (O.getD k default).com (ar (O.getD k default)) [] = true) → R = true) := Lib.hid (fun h9 => by
      rw [← hR, preB, hok, Bool.true_and, List.all_eq_true]
      intro o ho
      obtain ⟨k, hk, rfl⟩ := List.getElem_of_mem ho
      have := h9 k hk
      rw [List.getD_eq_getElem?_getD, List.getElem?_eq_getElem hk] at this
      exact this)
    rw [← hm3, ← hU] at HRA HRB
    clear hR hok hm1 hm2 hm3 HIS HREG hU
    go_enter Tryz.func18, Tryz.ntmps18
    go_wp2_with fail
    rw [← hW]
    clear hW
    refine (HI1.out W HB0.out).mono ?_
    rintro e w1 ⟨rfl, hb1⟩
    have HB1 : Hid (Below W.heap.size W w1) := Lib.hid hb1
    clear hb1 x0 x1 x2
    go_wp2
    go_loopw [3] (fun v3 wr => ∃ k : Nat, v3 = .int .i64 k ∧ k ≤ m3 ∧ Hid (∀ j, j < k → oneL (U) (O.getD j default).decls (O.getD j default).ass (O.getD j default).com (ar (O.getD j default)) [] = true) ∧ Hid (Below W.heap.size W wr)) (fun i _ => m3 - (intOf i).toNat)
    case atStart => exact ⟨0, rfl, Nat.zero_le _, Lib.hid (fun j hj => absurd hj (Nat.not_lt_zero _)), HB1⟩
    case round =>
      obtain ⟨k, rfl, hk, HT, HB⟩ := hrel
      obtain ⟨x0, x1, x2⟩ := (HX0.out.of hzW HB.out).1
      by_cases hlt : k < m3
      · have HR2 := Lib.hid (HR1.out k hlt wr (HB0.out.trans (HB.out.mono HB0.out.size)))
        have HRA2 := Lib.hid (HRA.out k hlt)
        have HT2 : Hid (oneL (U) (O.getD k default).decls (O.getD k default).ass (O.getD k default).com (ar (O.getD k default)) [] = true → ∀ j, j < k + 1 → oneL (U) (O.getD j default).decls (O.getD j default).ass (O.getD j default).com (ar (O.getD j default)) [] = true) := Lib.hid (fun h j hj => by
          by_cases e : j = k
          · subst e; exact h
          · exact HT.out j (by omega))
        obtain ⟨rb, hrb⟩ : ∃ rb, rb = oneL (U) (O.getD k default).decls (O.getD k default).ass (O.getD k default).com (ar (O.getD k default)) [] := ⟨_, rfl⟩
        rw [← hrb] at HR2 HRA2 HT2
        have d1 : decide ((k : Int) < (m3 : Int)) = true := decide_eq_true (by omega)
        clear hrb
        go_wp2_with fail
        refine HR2.out.mono ?_
        rintro e w5 ⟨rfl, hb5⟩
        have HB5 : Hid (Below W.heap.size W w5) := Lib.hid (HB.out.trans (hb5.mono HB.out.size))
        clear hb5 x0 x1 x2
        cases rb with
        | true =>
          have HT3 := Lib.hid (HT2.out (by first | rfl | trivial))
          go_wp2
          go_roundw
          case rel => exact ⟨k + 1, by go_num, by omega, HT3, HB5⟩
          case measure => simp [intOf]; omega
        | false =>
          have HQ := Lib.hid (HRA2.out (by first | rfl | trivial))
          go_wp2
          go_ret
          exact ⟨ret_bool HQ.out.symm, HB0.out.trans (HB5.out.mono HB0.out.size)⟩
      · obtain rfl : k = m3 := by omega
        have d1 : decide ((k : Int) < (k : Int)) = false := decide_eq_false (by omega)
        have HQ : Hid (R = true) := Lib.hid (HRB.out HT.out)
        go_wp2
        go_ret
        exact ⟨ret_bool HQ.out.symm, HB0.out.trans (HB.out.mono HB0.out.size)⟩
end Go.Proofs.YtjejdcehlckfhaaGreat.tps
