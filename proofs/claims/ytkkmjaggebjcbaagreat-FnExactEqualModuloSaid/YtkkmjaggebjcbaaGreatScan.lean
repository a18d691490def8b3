/-
 THE MODEL's CANONICAL FORM OF A TREE: l6Canon.
-/
import Derived.Test.YtkkmjaggebjcbaaGreatPk14
import Derived.Test.YtkkmjaggebjcbaaGreatPk13
import Derived.Test.YtkkmjaggebjcbaaGreatRebw
import Derived.Test.YtkkmjaggebjcbaaGreatPk08
import Derived.Deep.DeepCutAuto
import Derived.Deep.LoopGhost
namespace Go.Proofs.YtkkmjaggebjcbaaGreat.scan
open Go.ChangeShapes Go.WideShapes Go.ChangeAt Go.RowKit
open mem dec setm sets sortm sortn sortp sorti sortf sortu sortg sigm sigs sigt sigl sigb rowl trm trmv terml termb termt termx termz termro termsd termv termvr termvo termev termin frm termlm sigi sigj sigk gram gramo graml gramk gramc gramn gramt grami formlf formnd formk formr formf formt formm termcl tma tmm tmr tsk tmb tmf tmg tmc tmi tml tmn rebp rebc

/-- the answer -/
def CanR (P : List (List UInt8)) (Q : List (Int × Int)) (O : List OpM) (t : TermM) (w : World) (e : Ending) (w' : World) : Prop :=
 ∃ u vu r, e = .returned (.tuple #[aggT u vu, .bool r]) ∧ (r = true → rebM (nodeS P Q O) t = some u ∧ FormS P Q O u ∧ LimT u ∧ Bnd u) ∧ (r = false → rebM (nodeS P Q O) t = none) ∧ HasTs 22 w.heap.size w' vu u.args ∧ Below w.heap.size w w'
theorem reb_at {F : TermM → List TermM → Option TermM} {L : List TermM} {p : Nat} (hp : p < L.length) {zs : List TermM} (h : rebL F (L.take p) = some zs) : rebL F (L.take (p + 1)) = (rebM F (L.getD p default)).map fun u => zs ++ [u] := by
 rw [List.take_add_one, List.getElem?_eq_getElem hp]
 have e : L.getD p default = L[p] := by simp [List.getD, hp]
 rw [e]
 simp only [Option.toList_some]
 revert h
 generalize L.take p = K
 intro h
 induction K generalizing zs with
 | nil =>
  simp [rebL] at h
  subst h
  simp [rebL]
  cases rebM F L[p] <;> rfl
 | cons a K ih =>
  simp only [rebL, List.cons_append] at h ⊢
  cases ha : rebM F a with
  | none => rw [ha] at h; simp at h
  | some v =>
   rw [ha] at h
   cases hk : rebL F K with
   | none => rw [hk] at h; simp at h
   | some ks =>
    rw [hk] at h
    simp at h
    subst h
    rw [ih hk]
    cases rebM F L[p] <;> simp
theorem reb_none {F : TermM → List TermM → Option TermM} : ∀ {L : List TermM} {p : Nat}, rebL F (L.take p) = none → rebL F L = none
 | [], p, h => by simpa using h
 | a :: L, 0, h => by simp [rebL] at h
 | a :: L, p + 1, h => by
  simp only [List.take_succ_cons, rebL] at h ⊢
  cases ha : rebM F a with
  | none => simp
  | some v =>
   rw [ha] at h
   cases hk : rebL F (L.take p) with
   | none => rw [reb_none hk]; simp
   | some ks => rw [hk] at h; simp at h
theorem reb_size {F : TermM → List TermM → Option TermM} (hF : ∀ t zs u, F t zs = some u → size u ≤ 1 + sizes zs) : (t : TermM) → (∀ u, rebM F t = some u → size u ≤ size t) := by
 have key := @TermM.rec (fun t => ∀ u, rebM F t = some u → size u ≤ size t) (fun L => ∀ zs, rebL F L = some zs → sizes zs ≤ sizes L)
  (fun o n s L ih => by
   intro u hu
   rw [rebM_eta] at hu
   cases hk : rebL F (TermM.mk o n s L).args with
   | none => rw [hk] at hu; simp at hu
   | some zs =>
    rw [hk] at hu
    have h1 := hF _ _ _ hu
    have h2 := ih zs hk
    rw [size_mk]
    have e : L.map size = L.map size := rfl
    show size u ≤ 1 + (L.map size).sum
    have h3 : sizes L = (L.map size).sum := rfl
    omega)
  (fun zs h => by simp [rebL] at h; subst h; simp [sizes])
  (fun a L iha ihL => by
   intro zs h
   simp only [rebL] at h
   cases ha : rebM F a with
   | none => rw [ha] at h; simp at h
   | some v =>
    rw [ha] at h
    cases hk : rebL F L with
    | none => rw [hk] at h; simp at h
    | some ks =>
     rw [hk] at h
     simp at h
     subst h
     have h1 := iha v ha
     have h2 := ihL ks hk
     have e1 : sizes (v :: ks) = size v + sizes ks := by simp [sizes]
     have e2 : sizes (a :: L) = size a + sizes L := by simp [sizes]
     omega)
 exact key
theorem reb_sizes {F : TermM → List TermM → Option TermM} (hF : ∀ t zs u, F t zs = some u → size u ≤ 1 + sizes zs) : ∀ (L zs : List TermM), rebL F L = some zs → sizes zs ≤ sizes L
 | [], zs, h => by simp [rebL] at h; subst h; simp [sizes]
 | a :: L, zs, h => by
  simp only [rebL] at h
  cases ha : rebM F a with
  | none => rw [ha] at h; simp at h
  | some v =>
   rw [ha] at h
   cases hk : rebL F L with
   | none => rw [hk] at h; simp at h
   | some ks =>
    rw [hk] at h
    simp at h
    subst h
    have h1 := reb_size hF a v ha
    have h2 := reb_sizes hF L ks hk
    have e1 : sizes (v :: ks) = size v + sizes ks := by simp [sizes]
    have e2 : sizes (a :: L) = size a + sizes L := by simp [sizes]
    omega
theorem nodeS_size {P : List (List UInt8)} {Q : List (Int × Int)} {O : List OpM} (t : TermM) (zs : List TermM) (u : TermM) (h : nodeS P Q O t zs = some u) : size u ≤ 1 + sizes zs := by
 unfold nodeS at h
 split at h
 ·split at h
  ·simp at h; subst h; rw [size_mk]; simp [sizes]
  ·cases h
 ·split at h
  ·simp at h; subst h; exact size_formM _ _ _ _ _
  ·cases h
theorem set4_at {w : World} {x : Nat} {a b c d : Value} {T : TypeId} (h : w.heap[x]? = some (.cells #[a, b, c, d] T (0, 0))) (u0 u1 u2 u3 : Value) : (set4 w x u0 u1 u2 u3).heap[x]? = some (.cells #[u0, u1, u2, u3] T (0, 0)) := by
 have h0 := heap_setCell_same w x 0 _ T u0 h
 have h1 := heap_setCell_same _ x 1 _ T u1 h0
 have h2 := heap_setCell_same _ x 2 _ T u2 h1
 have h3 := heap_setCell_same _ x 3 _ T u3 h2
 simpa using h3
/-- what is proved of one depth -/
def CanAll (P : List (List UInt8)) (Q : List (Int × Int)) (O : List OpM) (n : Nat) : Prop :=
 ∀ (va vb vc : Value) (t : TermM) (ve : Value) (w : World) (lo : Nat), HasG w va vb vc P Q O → HasTs n lo w ve t.args → Bnd t → sizes t.args ≤ 1048576 → Calls Tryz.prog 96 #[.agg #[va, vb, vc], aggT t ve] w (CanR P Q O t w)
set_option maxRecDepth 100000 in
set_option maxHeartbeats 16000000 in
theorem canon_step (P : List (List UInt8)) (Q : List (Int × Int)) (O : List OpM) (hok : sigOk P Q O = true) (N : Nat) (IH : ∀ m, N = m + 1 → CanAll P Q O m) : CanAll P Q O N := by
 intro va vb vc t ve w lo h ht hB hsz
 have hall : t.args.length ≤ 1048576 := Nat.le_trans (sizes_len _) hsz
 obtain ⟨nb, hnb⟩ : ∃ b : Bool, b = true ↔ NodeS P O t := by
  by_cases hq : NodeS P O t
  ·exact ⟨true, fun _ => hq, fun _ => rfl⟩
  ·exact ⟨false, fun e => absurd e (by simp), fun e => absurd e hq⟩
 have HND : Hid (∀ W, Below w.heap.size w W → Calls Tryz.prog 71 #[.agg #[va, vb, vc], aggT t ve] W fun e w' => e = .returned (.bool nb) ∧ Below W.heap.size W w') := Lib.hid (fun W hW => sNode_any P Q O hok va vb vc t ve W (h.below (Nat.le_refl _) hW) (ht.below (Nat.le_refl _) hW) hB hall nb hnb)
 have HVA : Hid (∀ W, Calls Tryz.prog 140 #[.string (bstr t.name), .int .i64 t.sort] W fun e w' => e = .returned (.agg #[.int .i64 (-1), .string (bstr t.name), .int .i64 t.sort, .slice none 0 0]) ∧ Below W.heap.size W w') := Lib.hid (fun W => termin.var_any t.name t.sort W)
 have HIN : Hid (∀ r, inI t.op 0 ((O.length : Int) - 1) = r → ∀ W, Calls Tryz.prog 32 #[.int .i64 t.op, .int .i64 0, .int .i64 ((O.length : Int) - 1)] W fun e w' => e = .returned (.bool r) ∧ W = w') := Lib.hid (fun r hr W => l1In_any t.op 0 ((O.length : Int) - 1) r hr W)
 have HIH : Hid (∀ m, N = m + 1 → ∀ (x : TermM) (vx : Value) (W : World), Below w.heap.size w W → HasTs m lo W vx x.args → Bnd x → sizes x.args ≤ 1048576 → Calls Tryz.prog 96 #[.agg #[va, vb, vc], aggT x vx] W (CanR P Q O x W)) := Lib.hid (fun m hm x vx W hW hx hBx hsx => IH m hm va vb vc x vx W lo (h.below (Nat.le_refl _) hW) hx hBx hsx)
 have HMK : Hid ((0 ≤ t.op ∧ t.op < O.length) → ∀ (zs : List TermM) (vz : Value) (r : Bool) (W : World), Below w.heap.size w W → HasTs 22 0 W vz zs → (∀ a ∈ zs, FormS P Q O a ∧ LimT a) → sizes zs ≤ 1048576 → (r = true ↔ CanS P Q O t.op.toNat zs ∧ LimT (formO O t.op.toNat zs)) → Calls Tryz.prog 35 #[.agg #[va, vb, vc], .int .i64 t.op, vz] W fun e w' => ∃ t' v', e = .returned (.tuple #[aggT t' v', .bool r]) ∧ (r = true → t' = formO O t.op.toNat zs) ∧ HasTs 22 W.heap.size w' v' t'.args ∧ Below W.heap.size W w') := Lib.hid (fun hr0 zs vz r W hW hz hf hs hr => by
  obtain ⟨k, hk⟩ : ∃ k : Nat, t.op = (k : Int) := ⟨t.op.toNat, by omega⟩
  rw [hk, Int.toNat_natCast] at hr ⊢
  exact sl6Make_any (N := 21) (lo := 0) P Q O hok va vb vc k (by omega) zs vz W (h.below (Nat.le_refl _) hW) hz hf hs r hr)
 obtain ⟨A1, c1, A2, c2, A3, c3, rfl, rfl, rfl, _⟩ := h.shape
 obtain ⟨B, cb, rfl, _⟩ := HasR.shape ht rfl
 obtain ⟨m1, hm1⟩ : ∃ q, q = P.length := ⟨_, rfl⟩
 obtain ⟨m2, hm2⟩ : ∃ q, q = Q.length := ⟨_, rfl⟩
 obtain ⟨m3, hm3⟩ : ∃ q, q = O.length := ⟨_, rfl⟩
 have hm30 : m3 ≤ 9223372036854775807 := by rw [hm3]; exact h.o.len.2.1
 rw [← hm1, ← hm2, ← hm3] at HND HIH HMK ⊢
 rw [← hm3] at HIN
 unfold aggT at HND
 unfold aggT
 have HRB : Hid (rebM (nodeS P Q O) t = (rebL (nodeS P Q O) t.args).bind (nodeS P Q O t)) := Lib.hid (rebM_eta _ t)
 have HNS : Hid ((t.op = -1 → NodeS P O t → ∀ zs, nodeS P Q O t zs = some (.mk (-1) t.name t.sort [])) ∧ (t.op = -1 → ¬ NodeS P O t → ∀ zs, nodeS P Q O t zs = none) ∧ (t.op ≠ -1 → ∀ zs, ((0 ≤ t.op ∧ t.op < m3) ∧ t.name = [] ∧ t.sort = 0) ∧ CanS P Q O t.op.toNat zs ∧ LimT (formO O t.op.toNat zs) → nodeS P Q O t zs = some (formO O t.op.toNat zs)) ∧ (t.op ≠ -1 → ∀ zs, ¬ (((0 ≤ t.op ∧ t.op < m3) ∧ t.name = [] ∧ t.sort = 0) ∧ CanS P Q O t.op.toNat zs ∧ LimT (formO O t.op.toNat zs)) → nodeS P Q O t zs = none)) := Lib.hid (by
  refine ⟨fun h1 h2 zs => ?_, fun h1 h2 zs => ?_, fun h1 zs h2 => ?_, fun h1 zs h2 => ?_⟩
  ·unfold nodeS; rw [if_pos h1, if_pos h2]
  ·unfold nodeS; rw [if_pos h1, if_neg h2]
  ·unfold nodeS; rw [hm3] at h2; rw [if_neg h1, if_pos h2]
  ·unfold nodeS; rw [hm3] at h2; rw [if_neg h1, if_neg h2])
 have HFO : Hid (∀ zs u, (∀ a ∈ zs, FormS P Q O a) → nodeS P Q O t zs = some u → FormS P Q O u ∧ LimT u) := Lib.hid (fun zs u hA hu => nodeS_form hok hA hu)
 have HBF : Hid (t.op ≠ -1 → ∀ (R : List (TermM × Value)) u, (∀ x ∈ R, Bnd x.1) → (∀ x ∈ R, ∀ a ∈ x.1.args, Bnd a) → nodeS P Q O t (R.map Prod.fst) = some u → Bnd u) := Lib.hid (fun hv R u h1 h2 h3 => by
  by_cases h4 : ((0 ≤ t.op ∧ t.op < m3) ∧ t.name = [] ∧ t.sort = 0) ∧ CanS P Q O t.op.toNat (R.map Prod.fst) ∧ LimT (formO O t.op.toNat (R.map Prod.fst))
  ·rw [HNS.out.2.2.1 hv _ h4] at h3
   injection h3 with h3
   subst h3
   have hk : t.op.toNat < O.length := by omega
   obtain ⟨_, _, _, _, hax⟩ := sigOk_parts hok
   have haxk := hax _ (op_mem hk)
   simp only [axOk, argsOk, unitOk, Bool.and_eq_true, Bool.or_eq_true, decide_eq_true_eq, Bool.not_eq_true'] at haxk
   have hu14 : 0 ≤ (O.getD t.op.toNat default).unt ∧ (O.getD t.op.toNat default).unt ≤ 14 := by
    rcases haxk.2 with h4 | h4
    ·omega
    ·have := h4.1.1; have h9 := (sigOk_parts hok).2.1; omega
   exact bnd_form (by unfold I64; omega) hu14.1 (by omega) h1 h2
  ·rw [HNS.out.2.2.2 hv _ h4] at h3
   cases h3)
 have HVN : Hid (NodeS P O t → t.op = -1 → t.args = []) := Lib.hid (fun h1 h2 => by
  unfold NodeS at h1
  rw [if_pos h2] at h1
  exact List.eq_nil_of_length_eq_zero h1.2.2)
 obtain ⟨L, hL⟩ : ∃ L, L = t.args := ⟨_, rfl⟩
 have HH : Hid (HasTs N lo w (.slice B t.args.length cb) L) := Lib.hid (by rw [hL]; exact ht)
 have HSZ : Hid (sizes L ≤ 1048576) := Lib.hid (by rw [hL]; exact hsz)
 rw [← hL] at HRB HVN HND hall HH ⊢
 obtain ⟨tl, htl⟩ : ∃ q, q = L.length := ⟨_, rfl⟩
 have HTL := Lib.hid htl
 rw [← htl] at HND hall HH ⊢
 obtain ⟨tO, hto⟩ : ∃ q, q = t.op := ⟨_, rfl⟩
 obtain ⟨tn, htn⟩ : ∃ q, q = t.name := ⟨_, rfl⟩
 obtain ⟨ts, hts⟩ : ∃ q, q = t.sort := ⟨_, rfl⟩
 have HBT : Hid (Bnd (.mk (-1) tn ts []) ∧ I64 tO) := Lib.hid (by rw [htn, hts, hto]; exact ⟨⟨hB.1, (by unfold I64; show (-9223372036854775808 : Int) ≤ -1 ∧ (-1 : Int) ≤ 9223372036854775807; omega), hB.2.2⟩, hB.2.1⟩)
 rw [← hto, ← htn, ← hts] at HND HNS ⊢
 rw [← hto] at HIN HMK HBF HVN
 rw [← htn, ← hts] at HVA
 have HNB := Lib.hid hnb
 clear h ht hB hsz hnb hL hm1 hm2 hm3 htl hto htn hts IH
 obtain ⟨W1, hW1⟩ : ∃ W1, W1 = (w.alloc (.cells #[.slice A1 m1 c1, .slice A2 m2 c2, .slice A3 m3 c3] 42)).alloc (.cells #[.int .i64 tO, .string (bstr tn), .int .i64 ts, .slice B tl cb] 34) := ⟨_, rfl⟩
 obtain ⟨W, hW⟩ : ∃ W, W = W1.alloc (.cells #[.int .i64 0, .string { data := #[] }, .int .i64 0, .slice none 0 0] 34) := ⟨_, rfl⟩
 have hz1 : W1.heap.size = w.heap.size + 2 := by rw [hW1]; simp
 have hz0 : W.heap.size = w.heap.size + 3 := by rw [hW]; simp [hz1]
 have hb1 : Below W1.heap.size W1 W := by rw [hW]; exact (Below.refl _ _).alloc (Nat.le_refl _) _
 have hb0 : Below w.heap.size w W := by
  rw [hW, hW1]
  repeat (first | exact Below.refl _ _ | refine Below.alloc ?_ (by first | (simp; done) | (simp; omega)) _)
 have hX0 : W.heap[w.heap.size]? = some (.cells #[.slice A1 m1 c1, .slice A2 m2 c2, .slice A3 m3 c3] 42 (0, 0)) := (hb1.block _ (by omega)).trans (by rw [hW1]; exact tsl.heap2a _ _ _)
 have hT0 : W.heap[w.heap.size + 1]? = some (.cells #[.int .i64 tO, .string (bstr tn), .int .i64 ts, .slice B tl cb] 34 (0, 0)) := (hb1.block _ (by omega)).trans (by rw [hW1]; exact termt.heap_at _ _ _ (by simp))
 have hY0 : W.heap[w.heap.size + 2]? = some (.cells #[.int .i64 0, .string { data := #[] }, .int .i64 0, .slice none 0 0] 34 (0, 0)) := by rw [hW]; exact termt.heap_at _ _ _ (by omega)
 have HB0 := Lib.hid hb0
 have HST : Hid (∀ w3, Below W.heap.size W w3 → w.heap.size + 3 ≤ w3.heap.size ∧ Below w.heap.size w w3 ∧ (w3.cell? ⟨w.heap.size, 0, none⟩ = some (.slice A1 m1 c1) ∧ w3.cell? ⟨w.heap.size, 1, none⟩ = some (.slice A2 m2 c2) ∧ w3.cell? ⟨w.heap.size, 2, none⟩ = some (.slice A3 m3 c3)) ∧ (w3.cell? ⟨w.heap.size + 1, 0, none⟩ = some (.int .i64 tO) ∧ w3.cell? ⟨w.heap.size + 1, 1, none⟩ = some (.string (bstr tn)) ∧ w3.cell? ⟨w.heap.size + 1, 2, none⟩ = some (.int .i64 ts) ∧ w3.cell? ⟨w.heap.size + 1, 3, none⟩ = some (.slice B tl cb)) ∧
   (w3.cell? ⟨w.heap.size + 2, 0, none⟩ = some (.int .i64 0) ∧ w3.cell? ⟨w.heap.size + 2, 1, none⟩ = some (.string { data := #[] }) ∧ w3.cell? ⟨w.heap.size + 2, 2, none⟩ = some (.int .i64 0) ∧ w3.cell? ⟨w.heap.size + 2, 3, none⟩ = some (.slice none 0 0)) ∧ (w3.frozen? ⟨w.heap.size + 2, 0, none⟩ = false ∧ w3.frozen? ⟨w.heap.size + 2, 1, none⟩ = false ∧ w3.frozen? ⟨w.heap.size + 2, 2, none⟩ = false ∧ w3.frozen? ⟨w.heap.size + 2, 3, none⟩ = false)) := Lib.hid (fun w3 h3 => by
  have h4 := (h3.block _ (by omega)).trans hX0
  have h5 := (h3.block _ (by omega)).trans hT0
  have h6 := (h3.block _ (by omega)).trans hY0
  exact ⟨by have := h3.size; omega, hb0.trans (h3.mono hb0.size), tsl.box3 h4, grami.box4 h5, grami.box4 h6, ⟨frozen_of_row w3 _ 0 _ _ h6, frozen_of_row w3 _ 1 _ _ h6, frozen_of_row w3 _ 2 _ _ h6, frozen_of_row w3 _ 3 _ _ h6⟩⟩)
 have HZR : Hid (rebM (nodeS P Q O) t = none → ∀ w3, Below w.heap.size w w3 → ∀ u0 u1 u2 u3, CanR P Q O t w (.returned (.tuple #[.agg #[.int .i64 0, .string { data := #[] }, .int .i64 0, .slice none 0 0], .bool false])) (set4 w3 (w.heap.size + 2) u0 u1 u2 u3)) := Lib.hid (fun hr w3 h3 u0 u1 u2 u3 =>
  ⟨zT, .slice none 0 0, false, rfl, fun h => (by cases h), fun _ => hr, HasR.nil _ _ _ (by unfold maxLen; omega) _, set4_belowB h3 (by omega) _ _ _ _⟩)
 have HNO : Hid (tO ≠ -1 → ¬ ((0 ≤ tO ∧ tO < m3) ∧ tn = [] ∧ ts = 0) → rebM (nodeS P Q O) t = none) := Lib.hid (fun hv hp => by
  rw [HRB.out]
  cases rebL (nodeS P Q O) L with
  | none => rfl
  | some zs =>
   show nodeS P Q O t zs = none
   exact HNS.out.2.2.2 hv zs (fun h => hp h.1))
 obtain ⟨x0, x1, x2⟩ := tsl.box3 hX0
 obtain ⟨y0, y1, y2, y3⟩ := grami.box4 hT0
 obtain ⟨vr, hvr⟩ : ∃ b, decide (tO = -1) = b := ⟨_, rfl⟩
 have hvr' : (tO == -1) = vr := by rw [← hvr, Bool.eq_iff_iff]; simp
 clear hb0 hb1 hX0 hT0 hY0 hz0 hz1
 cases vr with
 | true =>
  have hv1 := of_decide_eq_true hvr
  have HVT : Hid (∀ w3, Below w.heap.size w w3 → ∀ u0 u1 u2 u3, CanR P Q O t w (.returned (.tuple #[.agg #[.int .i64 (-1), .string (bstr tn), .int .i64 ts, .slice none 0 0], .bool nb])) (set4 w3 (w.heap.size + 2) u0 u1 u2 u3)) := Lib.hid (fun w3 h3 u0 u1 u2 u3 => by
   refine ⟨.mk (-1) tn ts [], .slice none 0 0, nb, rfl, fun h => ?_, fun h => ?_, HasR.nil _ _ _ (by unfold maxLen; omega) _, set4_belowB h3 (by omega) _ _ _ _⟩
   ·have h1 := HNB.out.1 h
    have h2 := HNS.out.1 hv1 h1 []
    obtain ⟨h3, h4⟩ := HFO.out [] _ (fun a ha => by cases ha) h2
    refine ⟨?_, h3, h4, HBT.out.1⟩
    rw [HRB.out, HVN.out h1 hv1]
    exact h2
   ·have h1 : ¬ NodeS P O t := fun h2 => by rw [HNB.out.2 h2] at h; cases h
    rw [HRB.out]
    cases rebL (nodeS P Q O) L with
    | none => rfl
    | some zs => exact HNS.out.2.1 hv1 h1 zs)
  clear HNS HFO HBF HVN HRB HZR HNO HMK HIH HIN
  subst hv1
  go_enter Tryz.func96, Tryz.ntmps96
  go_upto_region 1 with fail
  rw [hW1] at hW
  rw [← hW]
  clear hW hW1
  go_wp2_with fail
  refine wp_region_noPanic ?_
  refine wp_region_held_drew (S := (fun w' => (w'.cell? ⟨w.heap.size, 0, none⟩ = some (.slice A1 m1 c1) ∧ w'.cell? ⟨w.heap.size, 1, none⟩ = some (.slice A2 m2 c2) ∧ w'.cell? ⟨w.heap.size, 2, none⟩ = some (.slice A3 m3 c3)) ∧ (w'.cell? ⟨w.heap.size + 1, 0, none⟩ = some (.int .i64 (-1)) ∧ w'.cell? ⟨w.heap.size + 1, 1, none⟩ = some (.string (bstr tn)) ∧ w'.cell? ⟨w.heap.size + 1, 2, none⟩ = some (.int .i64 ts) ∧ w'.cell? ⟨w.heap.size + 1, 3, none⟩ = some (.slice B tl cb)))) (by kernel_rfl) ?_ (fun hHd0 => ?_)
  ·exact ⟨(HST.out W.drew (Below.refl _ _).drew).2.2.1, (HST.out W.drew (Below.refl _ _).drew).2.2.2.1⟩
  refine wpAnyH_take (i := 0) (v := ?_) rfl (by kernel_rfl) (by kernel_rfl) (by kernel_rfl) (fun _ _ _ h => h) (Or.inl ⟨by rfl, ?_⟩) (by with_reducible assumption) ?_
  rotate_left
  ·intro w hSw; (try dsimp only at hSw); go_simp <;> with_reducible rfl
  (try simp only [Act.put]); (try simp only [List.setIfInBounds_toArray]); (try simp only [List.set_cons_succ, List.set_cons_zero])
  refine wpAnyH_take (i := 1) (v := ?_) rfl (by kernel_rfl) (by kernel_rfl) (by kernel_rfl) (fun _ _ _ h => h) (Or.inl ⟨by rfl, ?_⟩) (by with_reducible assumption) ?_
  rotate_left
  ·intro w hSw; (try dsimp only at hSw); go_simp <;> with_reducible rfl
  (try simp only [Act.put]); (try simp only [List.setIfInBounds_toArray]); (try simp only [List.set_cons_succ, List.set_cons_zero])
  refine wpAnyH_take (i := 2) (v := ?_) rfl (by kernel_rfl) (by kernel_rfl) (by kernel_rfl) (fun _ _ _ h => h) (Or.inl ⟨by rfl, ?_⟩) (by with_reducible assumption) ?_
  rotate_left
  ·intro w hSw; (try dsimp only at hSw); go_simp <;> with_reducible rfl
  (try simp only [Act.put]); (try simp only [List.setIfInBounds_toArray]); (try simp only [List.set_cons_succ, List.set_cons_zero])
  refine wpAnyH_take (i := 3) (v := ?_) rfl (by kernel_rfl) (by kernel_rfl) (by kernel_rfl) (fun _ _ _ h => h) (Or.inl ⟨by rfl, ?_⟩) (by with_reducible assumption) ?_
  rotate_left
  ·intro w hSw; (try dsimp only at hSw); go_simp <;> with_reducible rfl
  (try simp only [Act.put]); (try simp only [List.setIfInBounds_toArray]); (try simp only [List.set_cons_succ, List.set_cons_zero])
  refine wpAnyH_take (i := 5) (v := ?_) rfl (by kernel_rfl) (by kernel_rfl) (by kernel_rfl) (fun _ _ _ h => h) (Or.inl ⟨by rfl, ?_⟩) (by with_reducible assumption) ?_
  rotate_left
  ·intro w hSw; (try dsimp only at hSw); go_simp <;> with_reducible rfl
  (try simp only [Act.put]); (try simp only [List.setIfInBounds_toArray]); (try simp only [List.set_cons_succ, List.set_cons_zero])
  refine wpAnyH_take (i := 6) (v := ?_) rfl (by kernel_rfl) (by kernel_rfl) (by kernel_rfl) (fun _ _ _ h => h) (Or.inl ⟨by rfl, ?_⟩) (by with_reducible assumption) ?_
  rotate_left
  ·intro w hSw; (try dsimp only at hSw); go_simp <;> with_reducible rfl
  (try simp only [Act.put]); (try simp only [List.setIfInBounds_toArray]); (try simp only [List.set_cons_succ, List.set_cons_zero])
  refine wpAnyH_ready (rs := [4]) (by kernel_rfl) (by simp) ?_
  refine AllReadyH.cons (o := _) rfl (fun K hK => ?_) ?_
  ·(go_simp; refine (HVA.out W.drew).mono ?_; rintro e' w2 ⟨rfl, hb2⟩; have HB2 : Hid (Below W.heap.size W w2) := Lib.hid (((Below.refl _ _).drew).trans hb2); have HS1 : Hid ((fun w' => (w'.cell? ⟨w.heap.size, 0, none⟩ = some (.slice A1 m1 c1) ∧ w'.cell? ⟨w.heap.size, 1, none⟩ = some (.slice A2 m2 c2) ∧ w'.cell? ⟨w.heap.size, 2, none⟩ = some (.slice A3 m3 c3)) ∧ (w'.cell? ⟨w.heap.size + 1, 0, none⟩ = some (.int .i64 (-1)) ∧ w'.cell? ⟨w.heap.size + 1, 1, none⟩ = some (.string (bstr tn)) ∧ w'.cell? ⟨w.heap.size + 1, 2, none⟩ = some (.int .i64 ts) ∧ w'.cell? ⟨w.heap.size + 1, 3, none⟩ = some (.slice B tl cb))) w2) := Lib.hid ⟨(HST.out _ HB2.out).2.2.1, (HST.out _ HB2.out).2.2.2.1⟩; (try dsimp only))
   refine hK.out _ _ ?_ (fun hHd1 => ?_)
   ·(try dsimp only); first | (with_reducible exact HS1.out) | (with_reducible exact HS2.out) | (with_reducible exact HS3.out _ _ _ _)
   clear hK K hHd0
   (try simp only [Act.put]); (try simp only [List.setIfInBounds_toArray]); (try simp only [List.set_cons_succ, List.set_cons_zero])
   refine wpAnyH_ready (rs := [7]) (by kernel_rfl) (by simp) ?_
   refine AllReadyH.cons (o := _) rfl (fun K hK => ?_) ?_
   ·(go_simp; refine (HND.out w2 (HST.out _ HB2.out).2.1).mono ?_; rintro e' w3 ⟨rfl, hb3⟩; have HB3 : Hid (Below W.heap.size W w3) := Lib.hid (HB2.out.trans (hb3.mono HB2.out.size)); obtain ⟨hz3, _, hs1, hs2, ⟨z0, z1, z2, z3⟩, ⟨q0, q1, q2, q3⟩⟩ := HST.out _ HB3.out; have HS2 : Hid ((fun w' => (w'.cell? ⟨w.heap.size, 0, none⟩ = some (.slice A1 m1 c1) ∧ w'.cell? ⟨w.heap.size, 1, none⟩ = some (.slice A2 m2 c2) ∧ w'.cell? ⟨w.heap.size, 2, none⟩ = some (.slice A3 m3 c3)) ∧ (w'.cell? ⟨w.heap.size + 1, 0, none⟩ = some (.int .i64 (-1)) ∧ w'.cell? ⟨w.heap.size + 1, 1, none⟩ = some (.string (bstr tn)) ∧ w'.cell? ⟨w.heap.size + 1, 2, none⟩ = some (.int .i64 ts) ∧ w'.cell? ⟨w.heap.size + 1, 3, none⟩ = some (.slice B tl cb))) w3) := Lib.hid ⟨hs1, hs2⟩; have HS3 : Hid (∀ u0 u1 u2 u3, (fun w' => (w'.cell? ⟨w.heap.size, 0, none⟩ = some (.slice A1 m1 c1) ∧ w'.cell? ⟨w.heap.size, 1, none⟩ = some (.slice A2 m2 c2) ∧ w'.cell? ⟨w.heap.size, 2, none⟩ = some (.slice A3 m3 c3)) ∧ (w'.cell? ⟨w.heap.size + 1, 0, none⟩ = some (.int .i64 (-1)) ∧ w'.cell? ⟨w.heap.size + 1, 1, none⟩ = some (.string (bstr tn)) ∧ w'.cell? ⟨w.heap.size + 1, 2, none⟩ = some (.int .i64 ts) ∧ w'.cell? ⟨w.heap.size + 1, 3, none⟩ = some (.slice B tl cb))) (set4 w3 (w.heap.size + 2) u0 u1 u2 u3)) := Lib.hid (fun u0 u1 u2 u3 => ⟨⟨(set4_cell (by omega) _ _ _ _).trans hs1.1, (set4_cell (by omega) _ _ _ _).trans hs1.2.1, (set4_cell (by omega) _ _ _ _).trans hs1.2.2⟩, (set4_cell (by omega) _ _ _ _).trans hs2.1, (set4_cell (by omega) _ _ _ _).trans hs2.2.1, (set4_cell (by omega) _ _ _ _).trans hs2.2.2.1, (set4_cell (by omega) _ _ _ _).trans hs2.2.2.2⟩); clear hs1 hs2; (try dsimp only))
    refine hK.out _ _ ?_ (fun hHd2 => ?_)
    ·(try dsimp only); first | (with_reducible exact HS1.out) | (with_reducible exact HS2.out) | (with_reducible exact HS3.out _ _ _ _)
    clear hK K hHd1
    (try simp only [Act.put]); (try simp only [List.setIfInBounds_toArray]); (try simp only [List.set_cons_succ, List.set_cons_zero])
    refine wpAnyH_ready (rs := [8]) (by kernel_rfl) (by simp) ?_
    refine AllReadyH.cons (o := _) rfl (fun K hK => ?_) ?_
    ·go_simp
     refine hK.out _ _ ?_ (fun hHd3 => ?_)
     ·(try dsimp only); first | (with_reducible exact HS1.out) | (with_reducible exact HS2.out) | (with_reducible exact HS3.out _ _ _ _)
     clear hK K hHd2
     (try simp only [Act.put]); (try simp only [List.setIfInBounds_toArray]); (try simp only [List.set_cons_succ, List.set_cons_zero])
     refine wpAnyH_ready (rs := [9]) (by kernel_rfl) (by simp) ?_
     refine AllReadyH.cons (o := _) rfl (fun K hK => ?_) ?_
     ·go_simp
      refine hK.out _ _ ?_ (fun hHd4 => ?_)
      ·(try dsimp only); first | (with_reducible exact HS1.out) | (with_reducible exact HS2.out) | (with_reducible exact HS3.out _ _ _ _)
      clear hK K hHd3
      (try simp only [Act.put]); (try simp only [List.setIfInBounds_toArray]); (try simp only [List.set_cons_succ, List.set_cons_zero])
      refine wpAnyH_done (by kernel_rfl) ?_ _
      refine NoPanic.normal ?_
      have HF := Lib.hid (HVT.out w3 (HST.out _ HB3.out).2.1)
      clear HS1 HS2 HS3
      go_wp2
      refine bodyPost_ret (v := .tuple #[.agg #[.int .i64 (-1), .string (bstr tn), .int .i64 ts, .slice none 0 0], .bool nb]) (by simp [results, Tryz.results96, go_sem, z0, z1, z2, z3]) rfl ?_
      exact HF.out _ _ _ _
     exact AllReadyH.nil
    exact AllReadyH.nil
   exact AllReadyH.nil
  exact AllReadyH.nil
 | false =>
  have hv1 := of_decide_eq_false hvr
  replace HNO := Lib.hid (HNO.out hv1)
  replace HBF := Lib.hid (HBF.out hv1)
  have HNQ := Lib.hid (HNS.out.2.2)
  have HNP := Lib.hid (HNQ.out.1 hv1)
  have HNN := Lib.hid (HNQ.out.2 hv1)
  clear HNS HNQ HVN HVA HND HNB
  obtain ⟨ri, hri⟩ : ∃ r, inI tO 0 ((m3 : Int) - 1) = r := ⟨_, rfl⟩
  have HRI : Hid (ri = true ↔ 0 ≤ tO ∧ tO < m3) := Lib.hid (by rw [← hri]; unfold inI; rw [decide_eq_true_eq]; omega)
  have HCI := Lib.hid (HIN.out ri hri)
  have hw3 : IntKind.i64.wrap ((m3 : Int) - 1) = (m3 : Int) - 1 := IntWalk.i64_in _ (by omega)
  have hw3' : wrap64 ((m3 : Int) - 1) = (m3 : Int) - 1 := IntWalk.wrap64_in _ (by omega)
  clear hri HIN
  obtain ⟨hz0, _, _, _, ⟨z0, z1, z2, z3⟩, ⟨q0, q1, q2, q3⟩⟩ := HST.out W (Below.refl _ _)
  go_enter Tryz.func96, Tryz.ntmps96
  go_upto_region 1 with fail
  rw [hW1] at hW
  rw [← hW]
  clear hW hW1
  go_wp2_with fail
  refine (HCI.out _).mono ?_
  rintro e w1 ⟨rfl, rfl⟩
  cases ri with
  | false =>
   have HZ := Lib.hid (HZR.out (HNO.out (fun h => absurd (HRI.out.2 h.1) (by simp))) W HB0.out)
   clear HMK HIH HNP HNN HFO HBF
   go_wp2
   refine bodyPost_ret (v := .tuple #[.agg #[.int .i64 0, .string { data := #[] }, .int .i64 0, .slice none 0 0], .bool false]) (by simp [results, Tryz.results96, go_sem, z0, z1, z2, z3]) rfl ?_
   exact HZ.out _ _ _ _
  | true =>
  by_cases hnm : tn = []
  case neg =>
   have HZ := Lib.hid (HZR.out (HNO.out (fun h => hnm h.2.1)) W HB0.out)
   have e1 : ¬ (bstr tn).toList = [] := fun e => hnm ((toList_nil _).1 e)
   have e2 : (bstr tn).toList.isEmpty = false := by
    cases hq : (bstr tn).toList with
    | nil => exact absurd hq e1
    | cons _ _ => rfl
   clear HMK HIH HNP HNN HFO HBF
   go_wp2
   refine bodyPost_ret (v := .tuple #[.agg #[.int .i64 0, .string { data := #[] }, .int .i64 0, .slice none 0 0], .bool false]) (by simp [results, Tryz.results96, go_sem, z0, z1, z2, z3]) rfl ?_
   exact HZ.out _ _ _ _
  case pos =>
  subst hnm
  have e1 : (bstr []).toList = [] := (toList_nil []).2 rfl
  have e2 : (bstr []).toList.isEmpty = true := by rw [e1]; rfl
  by_cases hsr : ts = 0
  case neg =>
   have HZ := Lib.hid (HZR.out (HNO.out (fun h => hsr h.2.2)) W HB0.out)
   have e3 : (ts == 0) = false := by simp [hsr]
   have e4 : decide (ts = 0) = false := decide_eq_false hsr
   clear HMK HIH HNP HNN HFO HBF
   go_wp2
   refine bodyPost_ret (v := .tuple #[.agg #[.int .i64 0, .string { data := #[] }, .int .i64 0, .slice none 0 0], .bool false]) (by simp [results, Tryz.results96, go_sem, z0, z1, z2, z3]) rfl ?_
   exact HZ.out _ _ _ _
  case pos =>
  subst hsr
  have HR0 : Hid (0 ≤ tO ∧ tO < m3) := Lib.hid (HRI.out.1 rfl)
  clear z0 z1 z2 z3 q0 q1 q2 q3 hvr HRI HCI HNO
  go_wp2
  obtain ⟨V1, hV1⟩ : ∃ V1, V1 = W.alloc (.cells #[] 34) := ⟨_, rfl⟩
  have hbV : Below W.heap.size W V1 := by rw [hV1]; exact (Below.refl _ _).alloc (Nat.le_refl _) _
  have hown : V1.ownsRow W.heap.size 34 4 (.slice (some ⟨W.heap.size, 0, none⟩) 0 0) 0 (rowV []) := by
   have h1 := World.ownsRow_lit (e := 34) (size := 4) W #[] 0 (Nat.le_refl _) (by unfold maxLen; omega) rfl
   rw [← hV1] at h1
   exact h1
  have HOW := Lib.hid hown
  have HBV := Lib.hid hbV
  rw [← hV1]
  clear hV1 hbV hown hw3 hw3' e1 e2
  go_loopg [6, 7] tl (fun gq v6 v7 wr => ∃ (p : Nat) (R : List (TermM × Value)), v7 = .int .i64 p ∧ p ≤ tl ∧ tl ≤ p + gq ∧ Hid (rebL (nodeS P Q O) (L.take p) = some (R.map Prod.fst)) ∧ Hid (∀ x ∈ R, (FormS P Q O x.1 ∧ LimT x.1) ∧ tmr.El 21 0 (tmr.blank v6.ownBlock.toList wr) x) ∧ Hid (wr.ownsRow W.heap.size 34 4 v6 R.length (rowV R)) ∧ Hid (Below W.heap.size W wr))
  case atStart => exact ⟨0, [], rfl, Nat.zero_le _, by omega, Lib.hid (by simp [rebL]), Lib.hid (fun x hx => by cases hx), HOW, HBV⟩
  case round =>
   obtain ⟨p, R, rfl, hp, hgq, HRL, HEL, HO, HB⟩ := hrel
   clear HOW HBV
   obtain ⟨AL, cL, rfl, _⟩ := own_slice HO.out
   obtain ⟨hz, hbw, ⟨x0, x1, x2⟩, ⟨y0, y1, y2, y3⟩, ⟨z0, z1, z2, z3⟩, ⟨q0, q1, q2, q3⟩⟩ := HST.out wr HB.out
   have hbz := HB.out.size
   have HBW := Lib.hid hbw
   have HRS : Hid (sizes (R.map Prod.fst) ≤ sizes (L.take p)) := Lib.hid (reb_sizes nodeS_size _ _ HRL.out)
   by_cases hlt : p < tl
   ·have d1 : decide ((p : Int) < (tl : Int)) = true := decide_eq_true (by omega)
    obtain ⟨kn, g, o, B2, cx, hNk, rfl, _, hg, g0, g1, g2, g3, hxx, hbx⟩ := term_at HH.out hlt
    have hpL : p < L.length := by have := HTL.out; omega
    have f0 := (hbw.cell (p := ⟨g, o + p * 4, none⟩) hg).trans g0
    have f1 := (hbw.cell (p := ⟨g, o + p * 4 + 1, none⟩) hg).trans g1
    have f2 := (hbw.cell (p := ⟨g, o + p * 4 + 2, none⟩) hg).trans g2
    have f3 := (hbw.cell (p := ⟨g, o + p * 4 + 3, none⟩) hg).trans g3
    have hsx : sizes (L.getD p default).args ≤ 1048576 := by
     have h9 := size_le_sizes hpL
     have h10 := termro.size_eq (L.getD p default)
     have := HSZ.out
     omega
    have HAT := Lib.hid (reb_at hpL HRL.out)
    obtain ⟨x, hx⟩ : ∃ x, x = L.getD p default := ⟨_, rfl⟩
    rw [← hx] at f0 f1 f2 f3 hxx hbx hsx HAT
    obtain ⟨xl, hxl⟩ : ∃ xl, xl = x.args.length := ⟨_, rfl⟩
    obtain ⟨xo, hxo⟩ : ∃ q, q = x.op := ⟨_, rfl⟩
    obtain ⟨xn, hxn⟩ : ∃ q, q = x.name := ⟨_, rfl⟩
    obtain ⟨xs, hxs⟩ : ∃ q, q = x.sort := ⟨_, rfl⟩
    have HCI : Hid (∀ Wx, Below wr.heap.size wr Wx → Calls Tryz.prog 96 #[.agg #[.slice A1 m1 c1, .slice A2 m2 c2, .slice A3 m3 c3], .agg #[.int .i64 xo, .string (bstr xn), .int .i64 xs, .slice B2 xl cx]] Wx (CanR P Q O x Wx)) := Lib.hid (fun Wx hWx => by
     have hw := hbw.trans (hWx.mono hbw.size)
     have := HIH.out kn hNk x (.slice B2 x.args.length cx) Wx hw (hxx.below (Nat.le_refl _) hw) hbx hsx
     unfold aggT at this
     rw [hxo, hxn, hxs, hxl]
     exact this)
    have HSB : Hid (∀ w', Below wr.heap.size wr w' → (fun w' => (w'.cell? ⟨w.heap.size, 0, none⟩ = some (.slice A1 m1 c1) ∧ w'.cell? ⟨w.heap.size, 1, none⟩ = some (.slice A2 m2 c2) ∧ w'.cell? ⟨w.heap.size, 2, none⟩ = some (.slice A3 m3 c3)) ∧ w'.cell? ⟨w.heap.size + 1, 3, none⟩ = some (.slice (some ⟨g, o, none⟩) tl cb) ∧ w'.cell? ⟨g, o + p * 4, none⟩ = some (.int .i64 xo) ∧ w'.cell? ⟨g, o + p * 4 + 1, none⟩ = some (.string (bstr xn)) ∧ w'.cell? ⟨g, o + p * 4 + 2, none⟩ = some (.int .i64 xs) ∧ w'.cell? ⟨g, o + p * 4 + 3, none⟩ = some (.slice B2 xl cx)) w') := Lib.hid (fun w' h' => by
     have h9 := HST.out w' (HB.out.trans (h'.mono hbz))
     have h8 : ∀ {i : Nat} {v : Value}, wr.cell? ⟨g, i, none⟩ = some v → w'.cell? ⟨g, i, none⟩ = some v := fun {i v} h => (h'.cell (p := ⟨g, i, none⟩) (block_lt_of_cell h)).trans h
     rw [← hxo] at f0
     rw [← hxn] at f1
     rw [← hxs] at f2
     rw [← hxl] at f3
     exact ⟨h9.2.2.1, h9.2.2.2.1.2.2.2, h8 f0, h8 f1, h8 f2, h8 f3⟩)
    have i1 : (0 : Int) ≤ (p : Int) := by omega
    have i2 : (p : Int) < (tl : Int) := by omega
    have HLW : Hid (wr.heap.size = wr.heap.size) := Lib.hid rfl
    clear hNk g0 g1 g2 g3 f0 f1 f2 f3 hxx hbx hsx hx hxl hxo hxn hxs hbw z0 z1 z2 z3 q0 q1 q2 q3
    go_upto_region 9 with fail
    go_cut [8, 9] (fun v8 v9 wx => ∃ (gx : Nat) (u : TermM) (vu : Value) (r : Bool), v8 = Value.pointer (some ⟨gx, 0, none⟩) ∧ v9 = Value.bool r ∧ Hid (wx.cell? ⟨gx, 0, none⟩ = some (Value.int .i64 u.op) ∧ wx.cell? ⟨gx, 1, none⟩ = some (Value.string (bstr u.name)) ∧ wx.cell? ⟨gx, 2, none⟩ = some (Value.int .i64 u.sort) ∧ wx.cell? ⟨gx, 3, none⟩ = some vu) ∧ Hid (r = true → rebM (nodeS P Q O) x = some u ∧ FormS P Q O u ∧ LimT u ∧ Bnd u) ∧ Hid (r = false → rebM (nodeS P Q O) x = none) ∧ Hid (HasTs 22 wr.heap.size wx vu u.args) ∧ Hid (Below wr.heap.size wr wx))
    case first =>
     refine wp_region_noPanic ?_
     refine wp_region_held_drew (S := (fun w' => (w'.cell? ⟨w.heap.size, 0, none⟩ = some (.slice A1 m1 c1) ∧ w'.cell? ⟨w.heap.size, 1, none⟩ = some (.slice A2 m2 c2) ∧ w'.cell? ⟨w.heap.size, 2, none⟩ = some (.slice A3 m3 c3)) ∧ w'.cell? ⟨w.heap.size + 1, 3, none⟩ = some (.slice (some ⟨g, o, none⟩) tl cb) ∧ w'.cell? ⟨g, o + p * 4, none⟩ = some (.int .i64 xo) ∧ w'.cell? ⟨g, o + p * 4 + 1, none⟩ = some (.string (bstr xn)) ∧ w'.cell? ⟨g, o + p * 4 + 2, none⟩ = some (.int .i64 xs) ∧ w'.cell? ⟨g, o + p * 4 + 3, none⟩ = some (.slice B2 xl cx))) (by kernel_rfl) ?_ (fun hHd0 => ?_)
     ·exact HSB.out _ ((Below.refl _ _).drew)
     refine wpAnyH_take (i := 0) (v := ?_) rfl (by kernel_rfl) (by kernel_rfl) (by kernel_rfl) (fun _ _ _ h => h) (Or.inl ⟨by rfl, ?_⟩) (by with_reducible assumption) ?_
     rotate_left
     ·intro w hSw; (try dsimp only at hSw); go_simp <;> with_reducible rfl
     (try simp only [Act.put]); (try simp only [List.setIfInBounds_toArray]); (try simp only [List.set_cons_succ, List.set_cons_zero])
     refine wpAnyH_take (i := 1) (v := ?_) rfl (by kernel_rfl) (by kernel_rfl) (by kernel_rfl) (fun _ _ _ h => h) (Or.inl ⟨by rfl, ?_⟩) (by with_reducible assumption) ?_
     rotate_left
     ·intro w hSw; (try dsimp only at hSw); go_simp <;> with_reducible rfl
     (try simp only [Act.put]); (try simp only [List.setIfInBounds_toArray]); (try simp only [List.set_cons_succ, List.set_cons_zero])
     refine wpAnyH_take (i := 2) (v := ?_) rfl (by kernel_rfl) (by kernel_rfl) (by kernel_rfl) (fun _ _ _ h => h) (Or.inl ⟨by rfl, ?_⟩) (by with_reducible assumption) ?_
     rotate_left
     ·intro w hSw; (try dsimp only at hSw); go_simp <;> with_reducible rfl
     (try simp only [Act.put]); (try simp only [List.setIfInBounds_toArray]); (try simp only [List.set_cons_succ, List.set_cons_zero])
     refine wpAnyH_take (i := 3) (v := ?_) rfl (by kernel_rfl) (by kernel_rfl) (by kernel_rfl) (fun _ _ _ h => h) (Or.inl ⟨by rfl, ?_⟩) (by with_reducible assumption) ?_
     rotate_left
     ·intro w hSw; (try dsimp only at hSw); go_simp <;> with_reducible rfl
     (try simp only [Act.put]); (try simp only [List.setIfInBounds_toArray]); (try simp only [List.set_cons_succ, List.set_cons_zero])
     refine wpAnyH_take (i := 4) (v := ?_) rfl (by kernel_rfl) (by kernel_rfl) (by kernel_rfl) (fun _ _ _ h => h) (Or.inl ⟨by rfl, ?_⟩) (by with_reducible assumption) ?_
     rotate_left
     ·intro w hSw; (try dsimp only at hSw); go_simp <;> with_reducible rfl
     (try simp only [Act.put]); (try simp only [List.setIfInBounds_toArray]); (try simp only [List.set_cons_succ, List.set_cons_zero])
     refine wpAnyH_take (i := 5) (v := ?_) rfl (by kernel_rfl) (by kernel_rfl) (by kernel_rfl) (fun _ _ _ h => h) (Or.inl ⟨by rfl, ?_⟩) (by with_reducible assumption) ?_
     rotate_left
     ·intro w hSw; (try dsimp only at hSw); go_simp <;> with_reducible rfl
     (try simp only [Act.put]); (try simp only [List.setIfInBounds_toArray]); (try simp only [List.set_cons_succ, List.set_cons_zero])
     refine wpAnyH_ready (rs := [6, 10]) (by kernel_rfl) (by simp) ?_
     refine AllReadyH.cons (o := _) rfl (fun K hK => ?_) ?_
     ·(go_simp; refine (HCI.out wr.drew ((Below.refl _ _).drew)).mono ?_; rintro e' w5 ⟨u, vu, r, rfl, hr1, hr0, hvu, hb5⟩; obtain ⟨Au, cu, rfl, _⟩ := HasR.shape hvu rfl; have HR1 := Lib.hid hr1; have HR0 := Lib.hid hr0; have HVU := Lib.hid hvu; have HB5 : Hid (Below wr.heap.size wr w5) := Lib.hid (((Below.refl _ _).drew).trans hb5); have hz5 := HB5.out.size; have HS1 := Lib.hid (HSB.out w5 HB5.out); clear hr1 hr0 hvu hb5; (try unfold aggT); (try dsimp only))
      refine hK.out _ _ ?_ (fun hHd1 => ?_)
      ·(try dsimp only); first | (with_reducible exact HS1.out) | (with_reducible exact HS2.out _ _ _ _) | (exact HSB.out _ (by repeat (first | exact Below.refl _ _ | exact HB5.out | refine Below.drew ?_ | refine Below.alloc ?_ (by first | omega | (simp; done) | (simp; omega)) _)))
      clear hK K hHd0
      (try simp only [Act.put]); (try simp only [List.setIfInBounds_toArray]); (try simp only [List.set_cons_succ, List.set_cons_zero])
      refine wpAnyH_take (i := 7) (v := ?_) rfl (by kernel_rfl) (by kernel_rfl) (by kernel_rfl) (fun _ _ _ h => h) (Or.inl ⟨by rfl, ?_⟩) (by with_reducible assumption) ?_
      rotate_left
      ·intro w hSw; (try dsimp only at hSw); go_simp <;> with_reducible rfl
      (try simp only [Act.put]); (try simp only [List.setIfInBounds_toArray]); (try simp only [List.set_cons_succ, List.set_cons_zero])
      refine wpAnyH_take (i := 8) (v := ?_) rfl (by kernel_rfl) (by kernel_rfl) (by kernel_rfl) (fun _ _ _ h => h) (Or.inl ⟨by rfl, ?_⟩) (by with_reducible assumption) ?_
      rotate_left
      ·intro w hSw; (try dsimp only at hSw); go_simp <;> with_reducible rfl
      (try simp only [Act.put]); (try simp only [List.setIfInBounds_toArray]); (try simp only [List.set_cons_succ, List.set_cons_zero])
      refine wpAnyH_take (i := 9) (v := ?_) rfl (by kernel_rfl) (by kernel_rfl) (by kernel_rfl) (fun _ _ _ h => h) (Or.inl ⟨by rfl, ?_⟩) (by with_reducible assumption) ?_
      rotate_left
      ·intro w hSw; (try dsimp only at hSw); go_simp <;> with_reducible rfl
      (try simp only [Act.put]); (try simp only [List.setIfInBounds_toArray]); (try simp only [List.set_cons_succ, List.set_cons_zero])
      refine wpAnyH_ready (rs := [10]) (by kernel_rfl) (by simp) ?_
      refine AllReadyH.cons (o := _) rfl (fun K hK => ?_) ?_
      ·go_simp
       refine hK.out _ _ ?_ (fun hHd2 => ?_)
       ·(try dsimp only); first | (with_reducible exact HS1.out) | (with_reducible exact HS2.out _ _ _ _) | (exact HSB.out _ (by repeat (first | exact Below.refl _ _ | exact HB5.out | refine Below.drew ?_ | refine Below.alloc ?_ (by first | omega | (simp; done) | (simp; omega)) _)))
       clear hK K hHd1
       (try simp only [Act.put]); (try simp only [List.setIfInBounds_toArray]); (try simp only [List.set_cons_succ, List.set_cons_zero])
       refine wpAnyH_ready (rs := [11]) (by kernel_rfl) (by simp) ?_
       refine AllReadyH.cons (o := _) rfl (fun K hK => ?_) ?_
       ·go_simp
        refine hK.out _ _ ?_ (fun hHd3 => ?_)
        ·(try dsimp only); first | (with_reducible exact HS1.out) | (with_reducible exact HS2.out _ _ _ _) | (exact HSB.out _ (by repeat (first | exact Below.refl _ _ | exact HB5.out | refine Below.drew ?_ | refine Below.alloc ?_ (by first | omega | (simp; done) | (simp; omega)) _)))
        clear hK K hHd2
        (try simp only [Act.put]); (try simp only [List.setIfInBounds_toArray]); (try simp only [List.set_cons_succ, List.set_cons_zero])
        refine wpAnyH_ready (rs := [12]) (by kernel_rfl) (by simp) ?_
        refine AllReadyH.cons (o := _) rfl (fun K hK => ?_) ?_
        ·go_simp
         refine hK.out _ _ ?_ (fun hHd4 => ?_)
         ·(try dsimp only); first | (with_reducible exact HS1.out) | (with_reducible exact HS2.out _ _ _ _) | (exact HSB.out _ (by repeat (first | exact Below.refl _ _ | exact HB5.out | refine Below.drew ?_ | refine Below.alloc ?_ (by first | omega | (simp; done) | (simp; omega)) _)))
         clear hK K hHd3
         (try simp only [Act.put]); (try simp only [List.setIfInBounds_toArray]); (try simp only [List.set_cons_succ, List.set_cons_zero])
         refine wpAnyH_done (by kernel_rfl) ?_ _
         refine NoPanic.normal ?_
         have hba : Below w5.heap.size w5 (w5.alloc (.cells #[.int .i64 u.op, .string (bstr u.name), .int .i64 u.sort, .slice Au u.args.length cu] 34)) := (Below.refl _ _).alloc (Nat.le_refl _) _
         have HBA := Lib.hid (HB5.out.trans (hba.mono hz5))
         have HV2 := Lib.hid ((HVU.out.below (Nat.le_refl _) hba).mono (RT_steady 22) (show wr.heap.size ≤ wr.drew.heap.size by simp))
         have HBX2 : Hid ((w5.alloc (.cells #[.int .i64 u.op, .string (bstr u.name), .int .i64 u.sort, .slice Au u.args.length cu] 34)).heap[w5.heap.size]? = some (.cells #[.int .i64 u.op, .string (bstr u.name), .int .i64 u.sort, .slice Au u.args.length cu] 34 (0, 0))) := Lib.hid (termt.heap_at _ _ _ rfl)
         clear HS1 hba
         go_wp2_with fail
         go_meet
         exact ⟨w5.heap.size, u, .slice Au u.args.length cu, r, rfl, rfl, Lib.hid (grami.box4 HBX2.out), HR1, HR0, HV2, HBA⟩
        exact AllReadyH.nil
       exact AllReadyH.nil
      exact AllReadyH.nil
     refine AllReadyH.cons (o := _) rfl (fun K hK => ?_) ?_
     ·go_simp
      refine hK.out _ _ ?_ (fun hHd5 => ?_)
      ·(try dsimp only); first | (with_reducible exact HS1.out) | (with_reducible exact HS2.out _ _ _ _) | (exact HSB.out _ (by repeat (first | exact Below.refl _ _ | exact HB5.out | refine Below.drew ?_ | refine Below.alloc ?_ (by first | omega | (simp; done) | (simp; omega)) _)))
      clear hK K hHd0
      (try simp only [Act.put]); (try simp only [List.setIfInBounds_toArray]); (try simp only [List.set_cons_succ, List.set_cons_zero])
      refine wpAnyH_ready (rs := [6]) (by kernel_rfl) (by simp) ?_
      refine AllReadyH.cons (o := _) rfl (fun K hK => ?_) ?_
      ·(go_simp; refine (HCI.out _ (by repeat (first | exact Below.refl _ _ | exact HB5.out | refine Below.drew ?_ | refine Below.alloc ?_ (by first | omega | (simp; done) | (simp; omega)) _))).mono ?_; rintro e' w5 ⟨u, vu, r, rfl, hr1, hr0, hvu, hb5⟩; obtain ⟨Au, cu, rfl, _⟩ := HasR.shape hvu rfl; have HR1 := Lib.hid hr1; have HR0 := Lib.hid hr0; have HVU := Lib.hid hvu; have HB5 : Hid (Below wr.heap.size wr w5) := Lib.hid ((show Below wr.heap.size wr _ from (by repeat (first | exact Below.refl _ _ | exact HB5.out | refine Below.drew ?_ | refine Below.alloc ?_ (by first | omega | (simp; done) | (simp; omega)) _))).trans (hb5.mono (by first | (simp; done) | (simp; omega)))); have hz5 := HB5.out.size; have HS1 := Lib.hid (HSB.out w5 HB5.out); have hY5 : w5.heap[wr.heap.size]? = some (.cells #[.int .i64 0, .string { data := #[] }, .int .i64 0, .slice none 0 0] 34 (0, 0)) := (hb5.block _ (by first | (simp; done) | (simp; omega))).trans (termt.heap_at _ _ _ (by simp)); have HY5 := Lib.hid hY5; obtain ⟨z0, z1, z2, z3⟩ := grami.box4 hY5; have q0 : w5.frozen? ⟨wr.heap.size, 0, none⟩ = false := frozen_of_row w5 _ 0 _ _ hY5; have q1 : w5.frozen? ⟨wr.heap.size, 1, none⟩ = false := frozen_of_row w5 _ 1 _ _ hY5; have q2 : w5.frozen? ⟨wr.heap.size, 2, none⟩ = false := frozen_of_row w5 _ 2 _ _ hY5; have q3 : w5.frozen? ⟨wr.heap.size, 3, none⟩ = false := frozen_of_row w5 _ 3 _ _ hY5; have HS2 : Hid (∀ u0 u1 u2 u3, (fun w' => (w'.cell? ⟨w.heap.size, 0, none⟩ = some (.slice A1 m1 c1) ∧ w'.cell? ⟨w.heap.size, 1, none⟩ = some (.slice A2 m2 c2) ∧ w'.cell? ⟨w.heap.size, 2, none⟩ = some (.slice A3 m3 c3)) ∧ w'.cell? ⟨w.heap.size + 1, 3, none⟩ = some (.slice (some ⟨g, o, none⟩) tl cb) ∧ w'.cell? ⟨g, o + p * 4, none⟩ = some (.int .i64 xo) ∧ w'.cell? ⟨g, o + p * 4 + 1, none⟩ = some (.string (bstr xn)) ∧ w'.cell? ⟨g, o + p * 4 + 2, none⟩ = some (.int .i64 xs) ∧ w'.cell? ⟨g, o + p * 4 + 3, none⟩ = some (.slice B2 xl cx)) (set4 w5 wr.heap.size u0 u1 u2 u3)) := Lib.hid (fun u0 u1 u2 u3 => HSB.out _ (set4_belowB HB5.out (Nat.le_refl _) u0 u1 u2 u3)); clear hr1 hr0 hvu hb5 hY5; (try unfold aggT); (try dsimp only))
       refine hK.out _ _ ?_ (fun hHd6 => ?_)
       ·(try dsimp only); first | (with_reducible exact HS1.out) | (with_reducible exact HS2.out _ _ _ _) | (exact HSB.out _ (by repeat (first | exact Below.refl _ _ | exact HB5.out | refine Below.drew ?_ | refine Below.alloc ?_ (by first | omega | (simp; done) | (simp; omega)) _)))
       clear hK K hHd5
       (try simp only [Act.put]); (try simp only [List.setIfInBounds_toArray]); (try simp only [List.set_cons_succ, List.set_cons_zero])
       refine wpAnyH_take (i := 7) (v := ?_) rfl (by kernel_rfl) (by kernel_rfl) (by kernel_rfl) (fun _ _ _ h => h) (Or.inl ⟨by rfl, ?_⟩) (by with_reducible assumption) ?_
       rotate_left
       ·intro w hSw; (try dsimp only at hSw); go_simp <;> with_reducible rfl
       (try simp only [Act.put]); (try simp only [List.setIfInBounds_toArray]); (try simp only [List.set_cons_succ, List.set_cons_zero])
       refine wpAnyH_take (i := 8) (v := ?_) rfl (by kernel_rfl) (by kernel_rfl) (by kernel_rfl) (fun _ _ _ h => h) (Or.inl ⟨by rfl, ?_⟩) (by with_reducible assumption) ?_
       rotate_left
       ·intro w hSw; (try dsimp only at hSw); go_simp <;> with_reducible rfl
       (try simp only [Act.put]); (try simp only [List.setIfInBounds_toArray]); (try simp only [List.set_cons_succ, List.set_cons_zero])
       refine wpAnyH_take (i := 9) (v := ?_) rfl (by kernel_rfl) (by kernel_rfl) (by kernel_rfl) (fun _ _ _ h => h) (Or.inl ⟨by rfl, ?_⟩) (by with_reducible assumption) ?_
       rotate_left
       ·intro w hSw; (try dsimp only at hSw); go_simp <;> with_reducible rfl
       (try simp only [Act.put]); (try simp only [List.setIfInBounds_toArray]); (try simp only [List.set_cons_succ, List.set_cons_zero])
       refine wpAnyH_ready (rs := [11]) (by kernel_rfl) (by simp) ?_
       refine AllReadyH.cons (o := _) rfl (fun K hK => ?_) ?_
       ·go_simp
        refine hK.out _ _ ?_ (fun hHd7 => ?_)
        ·(try dsimp only); first | (with_reducible exact HS1.out) | (with_reducible exact HS2.out _ _ _ _) | (exact HSB.out _ (by repeat (first | exact Below.refl _ _ | exact HB5.out | refine Below.drew ?_ | refine Below.alloc ?_ (by first | omega | (simp; done) | (simp; omega)) _)))
        clear hK K hHd6
        (try simp only [Act.put]); (try simp only [List.setIfInBounds_toArray]); (try simp only [List.set_cons_succ, List.set_cons_zero])
        refine wpAnyH_ready (rs := [12]) (by kernel_rfl) (by simp) ?_
        refine AllReadyH.cons (o := _) rfl (fun K hK => ?_) ?_
        ·go_simp
         refine hK.out _ _ ?_ (fun hHd8 => ?_)
         ·(try dsimp only); first | (with_reducible exact HS1.out) | (with_reducible exact HS2.out _ _ _ _) | (exact HSB.out _ (by repeat (first | exact Below.refl _ _ | exact HB5.out | refine Below.drew ?_ | refine Below.alloc ?_ (by first | omega | (simp; done) | (simp; omega)) _)))
         clear hK K hHd7
         (try simp only [Act.put]); (try simp only [List.setIfInBounds_toArray]); (try simp only [List.set_cons_succ, List.set_cons_zero])
         refine wpAnyH_done (by kernel_rfl) ?_ _
         refine NoPanic.normal ?_
         have HF4 := Lib.hid (set4_at HY5.out (.int .i64 u.op) (.string (bstr u.name)) (.int .i64 u.sort) (.slice Au u.args.length cu))
         have HBX2 : Hid (Below wr.heap.size wr (set4 w5 wr.heap.size (.int .i64 u.op) (.string (bstr u.name)) (.int .i64 u.sort) (.slice Au u.args.length cu))) := Lib.hid (set4_belowB HB5.out (Nat.le_refl _) _ _ _ _)
         have HV2 : Hid (HasTs 22 wr.heap.size (set4 w5 wr.heap.size (.int .i64 u.op) (.string (bstr u.name)) (.int .i64 u.sort) (.slice Au u.args.length cu)) (.slice Au u.args.length cu) u.args) := Lib.hid ((HasR.kept (RT_steady 22) HVU.out (set4_kept (by simp) _ _ _ _)).mono (RT_steady 22) (by simp))
         clear HS1 HS2
         go_wp2_with fail
         go_meet
         exact ⟨wr.heap.size, u, .slice Au u.args.length cu, r, rfl, rfl, Lib.hid (grami.box4 HF4.out), HR1, HR0, HV2, HBX2⟩
        exact AllReadyH.nil
       exact AllReadyH.nil
      exact AllReadyH.nil
     exact AllReadyH.nil
    case rest =>
     obtain ⟨gx, u, vu, r, rfl, rfl, HBX, HR1, HR0, HVU, HBC⟩ := hcut
     obtain ⟨w6, rfl⟩ : ∃ w6, w6 = wc := ⟨wc, rfl⟩
     clear HCI HSB
     obtain ⟨b0, b1, b2, b3⟩ := HBX.out
     have HB6 : Hid (Below W.heap.size W w6) := Lib.hid (HB.out.trans (HBC.out.mono hbz))
     cases r with
     | false =>
      have HRN : Hid (rebM (nodeS P Q O) t = none) := Lib.hid (by
       have h1 := HAT.out
       rw [HR0.out rfl] at h1
       rw [HRB.out, reb_none h1]
       rfl)
      obtain ⟨_, hbw6, _, _, ⟨z0, z1, z2, z3⟩, ⟨q0, q1, q2, q3⟩⟩ := HST.out w6 HB6.out
      have HZ := Lib.hid (HZR.out HRN.out w6 hbw6)
      clear b0 b1 b2 b3 x0 x1 x2 y0 y1 y2 y3 hbw6
      go_wp2
      refine bodyPost_ret (v := .tuple #[.agg #[.int .i64 0, .string { data := #[] }, .int .i64 0, .slice none 0 0], .bool false]) (by simp [results, Tryz.results96, go_sem, z0, z1, z2, z3]) rfl ?_
      exact HZ.out _ _ _ _
     | true =>
      obtain ⟨hru, hfu, hlu, hbu⟩ := HR1.out rfl
      obtain ⟨Au, cu, rfl, _⟩ := HasR.shape HVU.out rfl
      have HUU := Lib.hid (And.intro hru (And.intro hfu (And.intro hlu hbu)))
      obtain ⟨j0, hij, hy0, hy1, hy2⟩ := info_parts info_term
      have hs6 : W.heap.size ≤ w6.heap.size := HB6.out.size
      have HO6 := Lib.hid (own_below HO.out HBC.out)
      have HBA6 : Hid (∀ ob, Below w6.heap.size w6 (w6.alloc ob)) := Lib.hid (fun ob => (Below.refl _ _).alloc (Nat.le_refl _) ob)
      have hln : R.length ≤ 1048576 := by
       have h1 := sizes_len (R.map Prod.fst)
       rw [List.length_map] at h1
       have h2 := HRS.out
       have h3 : sizes (L.take p) ≤ sizes L := by
        unfold sizes
        conv => rhs; rw [← List.take_append_drop p L, List.map_append, List.sum_append]
        omega
       have := HSZ.out
       omega
      clear hru hfu hlu hbu
      go_wp2_with (at_builtin; go_loud (refine wpList_append_lies _ rfl _ _ _ rfl W.heap.size 34 j0 _ 4 56 Tryz.underlying32 hij hy0 hy1 hy2 rfl (by omega) (.slice AL R.length cL) R.length (rowV R) rfl (own_below HO6.out (HBA6.out _)) ⟨w6.heap.size, 0, none⟩ 1 1 [.int .i64 u.op, .string (bstr u.name), .int .i64 u.sort, .slice Au u.args.length cu] rfl rfl (fun q x hq => rebw.four_at _ _ _ _ _ _ q x hq) (rebw.four_one rfl rfl rfl rfl) (by omega) (by unfold maxLen; omega) (by omega) (Nat.le_trans hs6 (HBA6.out _).size) _ rfl ?_); intro g4 cap4 w7 hown7 hgr7 hg7 hlt7)
      have hoB := rebq.own_blk HO.out
      have HO7 : Hid (w7.ownsRow W.heap.size 34 4 (.slice (some ⟨g4, 0, none⟩) (R.length + 1) cap4) (R ++ [(u, Value.slice Au u.args.length cu)]).length (rowV (R ++ [(u, Value.slice Au u.args.length cu)]))) := Lib.hid (by rw [rowV_append, List.length_append]; exact hown7)
      have HB7 : Hid (Below W.heap.size W w7) := Lib.hid (own_grow HB6.out (HBA6.out _) hgr7 HO6.out hs6)
      have HRL7 : Hid (rebL (nodeS P Q O) (L.take (p + 1)) = some ((R ++ [(u, Value.slice Au u.args.length cu)]).map Prod.fst)) := Lib.hid (by
       rw [HAT.out, HUU.out.1, List.map_append]
       rfl)
      have HEL7 : Hid (∀ y ∈ R ++ [(u, Value.slice Au u.args.length cu)], (FormS P Q O y.1 ∧ LimT y.1) ∧ tmr.El 21 0 (tmr.blank (Value.slice (some ⟨g4, 0, none⟩) (R.length + 1) cap4).ownBlock.toList w7) y) := Lib.hid (by
       have hwr6 := HBC.out.size
       have hA6 := (HBA6.out (.cells #[.int .i64 u.op, .string (bstr u.name), .int .i64 u.sort, .slice Au u.args.length cu] 34))
       intro y hy
       rcases List.mem_append.1 hy with hy | hy
       ·obtain ⟨h1, h2⟩ := HEL.out y hy
        refine ⟨h1, has_sub _ (rebq.sub_next (S := (Value.slice AL R.length cL).ownBlock.toList) (((Chg.of_below HBC.out).trans (Chg.of_below hA6)).trans ⟨hgr7.os, hgr7.tape, hgr7.output, hgr7.size, fun k hk hn => hgr7.block k hk (fun e => hn (by rw [← e]; simp))⟩) (fun k hk => ?_)) h2.1, h2.2⟩
        simp [Value.ownBlock] at hk
        subst hk
        rcases hg7 with h3 | h3
        ·exact .inl (by rw [h3]; simp)
        ·right; rw [h3]; simp; omega
       ·simp at hy
        subst hy
        refine ⟨⟨HUU.out.2.1, HUU.out.2.2.1⟩, ?_, HUU.out.2.2.2⟩
        have hd : depths u.args ≤ 21 := by
         have h3 := HUU.out.2.2.1.2.1
         have h4 := termro.depth_eq u
         omega
        have hk : Kept wr.heap.size w6 (tmr.blank (Value.slice (some ⟨g4, 0, none⟩) (R.length + 1) cap4).ownBlock.toList w7) := by
         refine ⟨by rw [blank_size]; have := hgr7.size; have := hA6.size; omega, fun k h1 h2 => ?_⟩
         rw [blank_out (fun hm => ?_)]
         ·refine (hgr7.block k (by have := hA6.size; omega) (fun e => ?_)).trans (hA6.block k h2)
          have := (hoB k e.symm).2
          omega
         ·simp [Value.ownBlock] at hm
          subst hm
          rcases hg7 with h3 | h3
          ·have := (hoB _ h3).2; omega
          ·have h4 : k = w6.heap.size + 1 := by rw [h3]; simp
           omega
        exact ((rebp.has_down (HasR.kept (RT_steady 22) HVU.out hk)).up hd).mono (RT_steady 21) (Nat.zero_le _))
      clear hown7 hgr7 hg7 hlt7 hoB b0 b1 b2 b3 x0 x1 x2 y0 y1 y2 y3
      go_wp2
      go_roundg (gk - 1)
      case measure => omega
      case rel => exact ⟨p + 1, _, by go_num, by omega, by omega, HRL7, HEL7, HO7, HB7⟩
   ·obtain rfl : p = tl := by omega
    have d1 : decide ((p : Int) < (p : Int)) = false := decide_eq_false (by omega)
    have HEQ : Hid (rebL (nodeS P Q O) L = some (R.map Prod.fst)) := Lib.hid (by
     have h1 := HRL.out
     rwa [List.take_of_length_le (by have := HTL.out; omega)] at h1)
    obtain ⟨zs, hzs⟩ : ∃ zs, zs = R.map Prod.fst := ⟨_, rfl⟩
    have HZS := Lib.hid hzs
    obtain ⟨r, hr⟩ : ∃ r : Bool, r = true ↔ CanS P Q O tO.toNat zs ∧ LimT (formO O tO.toNat zs) := by
     by_cases hq : CanS P Q O tO.toNat zs ∧ LimT (formO O tO.toNat zs)
     ·exact ⟨true, fun _ => hq, fun _ => rfl⟩
     ·exact ⟨false, fun e => absurd e (by simp), fun e => absurd e hq⟩
    have HFS : Hid (∀ a ∈ zs, FormS P Q O a ∧ LimT a) := Lib.hid (fun a ha => by
     rw [hzs] at ha
     obtain ⟨y, hy, rfl⟩ := List.mem_map.1 ha
     exact (HEL.out y hy).1)
    have hszz : sizes zs ≤ 1048576 := by
     have h2 := HRS.out
     have h3 : sizes (L.take p) ≤ sizes L := by
      unfold sizes
      conv => rhs; rw [← List.take_append_drop p L, List.map_append, List.sum_append]
      omega
     have := HSZ.out
     rw [hzs]
     omega
    have hhas : HasTs 22 0 wr (.slice AL R.length cL) zs := by
     rw [hzs]
     exact own_has HO.out (fun x hx => (HEL.out x hx).2) (Nat.zero_le _) (sub_blank _ _) (Kept.refl _ _)
    have HM := Lib.hid (HMK.out HR0.out zs (.slice AL R.length cL) r wr hbw hhas HFS.out hszz hr)
    have HEND : Hid (∀ (t' : TermM) (v' : Value) (w5 : World), (r = true → t' = formO O tO.toNat zs) → HasTs 22 wr.heap.size w5 v' t'.args → Below wr.heap.size wr w5 → ∀ u0 u1 u2 u3, CanR P Q O t w (.returned (.tuple #[.agg #[.int .i64 t'.op, .string (bstr t'.name), .int .i64 t'.sort, v'], .bool r])) (set4 w5 (w.heap.size + 2) u0 u1 u2 u3)) := Lib.hid (fun t' v' w5 ht hv hb u0 u1 u2 u3 => by
     have hbw5 := HBW.out.trans (hb.mono HBW.out.size)
     refine ⟨t', v', r, rfl, fun h => ?_, fun h => ?_, (HasR.kept (RT_steady 22) hv (set4_kept (by omega) _ _ _ _)).mono (RT_steady 22) HBW.out.size, set4_belowB hbw5 (by omega) _ _ _ _⟩
     ·have h1 := HNP.out zs ⟨⟨HR0.out, by trivial, by trivial⟩, hr.1 h⟩
      rw [ht h]
      obtain ⟨h2, h3⟩ := HFO.out zs _ (fun a ha => (HFS.out a ha).1) h1
      refine ⟨?_, h2, h3, ?_⟩
      ·rw [HRB.out, HEQ.out, ← hzs]
       exact h1
      ·rw [hzs] at h1 ⊢
       exact HBF.out R _ (fun x hx => (HEL.out x hx).2.2) (fun x hx => el_args (HEL.out x hx).2) h1
     ·rw [HRB.out, HEQ.out, ← hzs]
      exact HNN.out zs (fun hq => by rw [hr.2 hq.2] at h; cases h))
    unfold aggT at HM
    clear hzs hr hszz hhas hbw
    go_wp2_with fail
    refine HM.out.mono ?_
    rintro e w5 ⟨t', v', rfl, ht', hv', hb5⟩
    obtain ⟨A5, c5, rfl, _⟩ := HasR.shape hv' rfl
    have HF := Lib.hid (HEND.out t' _ w5 ht' hv' hb5)
    clear x0 x1 x2 y0 y1 y2 y3 z0 z1 z2 z3 q0 q1 q2 q3
    obtain ⟨_, _, _, _, ⟨z0, z1, z2, z3⟩, ⟨q0, q1, q2, q3⟩⟩ := HST.out w5 (HB.out.trans (hb5.mono hbz))
    clear ht' hv' hb5 HM HEND
    go_wp2
    refine bodyPost_ret (v := .tuple #[.agg #[.int .i64 t'.op, .string (bstr t'.name), .int .i64 t'.sort, .slice A5 t'.args.length c5], .bool r]) (by simp [results, Tryz.results96, go_sem, z0, z1, z2, z3]) rfl ?_
    exact HF.out _ _ _ _
theorem canon_all (P : List (List UInt8)) (Q : List (Int × Int)) (O : List OpM) (hok : sigOk P Q O = true) : ∀ n, CanAll P Q O n
 | 0 => canon_step P Q O hok 0 (fun m h => by omega)
 | n + 1 => canon_step P Q O hok (n + 1) (fun m h => by
  obtain rfl : m = n := by omega
  exact canon_all P Q O hok m)
end Go.Proofs.YtkkmjaggebjcbaaGreat.scan
