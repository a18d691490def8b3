/-
  Tmm, Tmc, Rebm, merged.
-/
import Derived.Test.YtkkmjaggebjcbaaGreatPk07
import Derived.Test.YtkkmjaggebjcbaaGreatPk06
/-
 THE FORM OF AN APPLICATION TO TERMS IS A TERM: mathematics alone.
-/
namespace Go.Proofs.YtkkmjaggebjcbaaGreat.tmm
open mem dec setm sets sortm sortn sortp sorti sortf sortu sortg sigm sigs sigt sigl rowl trm trmv terml termb termt termx termz termro termsd termvr termvo termev frm termlm sigi sigj sigk gram gramo graml gramk gramc gramn gramt grami formlf formnd formk formr formf formm tma

section
variable {P : List (List UInt8)} {Q : List (Int × Int)} {O : List OpM}
noncomputable abbrev partsO (O : List OpM) (k : Nat) (L : List TermM) : List TermM := partsM (O.getD k default).unt (O.getD k default).ass k L
noncomputable abbrev formO (O : List OpM) (k : Nat) (L : List TermM) : TermM := formM (O.getD k default).unt (O.getD k default).ass (O.getD k default).com k L
/-- the number of the arguments is right -/
def NumS (O : List OpM) (k : Nat) (L : List TermM) : Prop := if (O.getD k default).ass = true then 2 ≤ L.length else L.length = ar (O.getD k default)
/-- so are their kinds -/
def CanS (P : List (List UInt8)) (Q : List (Int × Int)) (O : List OpM) (k : Nat) (L : List TermM) : Prop :=
 NumS O k L ∧ ∀ i, i < L.length → κK P.length Q (srtT O (L.getD i default)) = κK P.length Q ((hd0 (O.getD k default).decls).1.getD (atS (O.getD k default).ass i) 0)
theorem ax_at (hok : sigOk P Q O = true) {k : Nat} (hk : k < O.length) : axOk (κK P.length Q) O (O.getD k default) = true := by
 obtain ⟨_, _, _, _, hx⟩ := sigOk_parts hok
 exact hx _ (op_mem hk)
theorem args_at (hok : sigOk P Q O = true) {k : Nat} (hk : k < O.length) : ((O.getD k default).ass = false ∧ (O.getD k default).com = false ∧ (O.getD k default).unt = 0) ∨
  (ar (O.getD k default) = 2 ∧ κK P.length Q (a0 (O.getD k default)) = κK P.length Q (a1 (O.getD k default)) ∧ (((O.getD k default).ass = false ∧ (O.getD k default).unt = 0) ∨ κK P.length Q (a0 (O.getD k default)) = κK P.length Q (rs (O.getD k default)))) := by
 have h4 := ax_at hok hk
 simp only [axOk, argsOk, Bool.and_eq_true, Bool.or_eq_true, decide_eq_true_eq, Bool.not_eq_true'] at h4
 rcases h4.1 with h5 | h5
 ·exact .inl ⟨h5.1.1, h5.1.2, h5.2⟩
 ·exact .inr ⟨h5.1.1, h5.1.2, h5.2⟩
theorem at_lt (hok : sigOk P Q O = true) {k : Nat} (hk : k < O.length) {L : List TermM} (hn : NumS O k L) : ∀ i, i < L.length → atS (O.getD k default).ass i < (hd0 (O.getD k default).decls).1.length := fun i hi => by
 unfold NumS at hn
 cases ha : (O.getD k default).ass with
 | false =>
  rw [ha, if_neg (by simp)] at hn
  show i < ar (O.getD k default)
  omega
 | true =>
  have h5 : ar (O.getD k default) = 2 := by
   rcases args_at hok hk with h5 | h5
   ·rw [ha] at h5; exact absurd h5.1 (by simp)
   ·exact h5.1
  have h6 : (hd0 (O.getD k default).decls).1.length = 2 := h5
  rw [h6]
  exact Nat.zero_lt_two
theorem mem_at {L : List TermM} {i : Nat} (hi : i < L.length) : L.getD i default ∈ L := by rw [List.getD_eq_getElem?_getD, List.getElem?_eq_getElem hi]; exact List.getElem_mem _
theorem at_mem {L : List TermM} {a : TermM} (ha : a ∈ L) : ∃ i, i < L.length ∧ L.getD i default = a := by
 obtain ⟨i, hi, e⟩ := List.getElem_of_mem ha
 exact ⟨i, hi, by rw [List.getD_eq_getElem?_getD, List.getElem?_eq_getElem hi]; exact e⟩
/-- the program's test of number and kinds is the model's -/
theorem can_iff (hok : sigOk P Q O = true) {k : Nat} (hk : k < O.length) (L : List TermM) (hL : ∀ a ∈ L, RangeT P O a) : CanP (grM P Q O) (k : Int) L ↔ CanS P Q O k L := by
 have hE : (grM P Q O).E.length = O.length := by rw [grM_ok hok]; exact opsE_len _ _
 unfold CanP CanS
 rw [hE, Int.toNat_natCast, grE_at hok hk]
 have htk : takesB (O.getD k default, k, shp (κU (kindsU P Q)) (hd0 (O.getD k default).decls)) L.length = true ↔ NumS O k L := by
  unfold takesB NumS
  split
  ·rw [decide_eq_true_iff]
  ·rw [decide_eq_true_iff]; rfl
 rw [htk]
 have hr : (0 : Int) ≤ (k : Int) ∧ (k : Int) < (O.length : Int) := by omega
 constructor
 ·rintro ⟨_, h1, h2⟩
  refine ⟨h1, fun i hi => ?_⟩
  have hR := hL _ (mem_at hi)
  have h3 := h2 i hi
  rw [gKind_eq hok hR, kAt_eq hok hk (at_lt hok hk h1 i hi)] at h3
  exact (kU_kK hok (srt_in hok hR) ((okD_parts (hd_ok hok hk)).2.2 _ (at_lt hok hk h1 i hi))).1 h3
 ·rintro ⟨h1, h2⟩
  refine ⟨hr, h1, fun i hi => ?_⟩
  have hR := hL _ (mem_at hi)
  rw [gKind_eq hok hR, kAt_eq hok hk (at_lt hok hk h1 i hi)]
  exact (kU_kK hok (srt_in hok hR) ((okD_parts (hd_ok hok hk)).2.2 _ (at_lt hok hk h1 i hi))).2 (h2 i hi)
/-- what one of the parts is -/
theorem mem_part1 {u : Int} {b : Bool} {k : Nat} {a p : TermM} (h : p ∈ part1 u b k a) : (p = a ∧ ¬ (u ≠ 0 ∧ a.op = u - 1) ∧ ¬ (b = true ∧ a.op = (k : Int))) ∨ (p ∈ a.args ∧ b = true ∧ a.op = (k : Int)) := by
 by_cases h1 : u ≠ 0 ∧ a.op = u - 1
 ·rw [part1_unit h1] at h; cases h
 ·by_cases h2 : b = true ∧ a.op = (k : Int)
  ·rw [part1_flat h1 h2] at h
   exact .inr ⟨h, h2.1, h2.2⟩
  ·rw [part1_self h1 h2] at h
   simp at h
   exact .inl ⟨h, h1, h2⟩
theorem mem_parts {u : Int} {b : Bool} {k : Nat} {L : List TermM} {p : TermM} (h : p ∈ partsM u b k L) : ∃ a ∈ L, (p = a ∧ ¬ (u ≠ 0 ∧ a.op = u - 1) ∧ ¬ (b = true ∧ a.op = (k : Int))) ∨ (p ∈ a.args ∧ b = true ∧ a.op = (k : Int)) := by
 obtain ⟨a, ha, h⟩ := List.mem_flatMap.1 h
 exact ⟨a, ha, mem_part1 h⟩
theorem form_kid {a p : TermM} (h : FormS P Q O a) (hp : p ∈ a.args) : FormS P Q O p := ((formS_eta P Q O a).1 h).2.1 p hp
theorem parts_form {k : Nat} {L : List TermM} (hL : ∀ a ∈ L, FormS P Q O a) : ∀ p ∈ partsO O k L, FormS P Q O p := by
 intro p hp
 obtain ⟨a, ha, h | h⟩ := mem_parts hp
 ·rw [h.1]; exact hL a ha
 ·exact form_kid (hL a ha) h.1
/-- neither the unit nor an application of the same operator is among the parts, and their kinds are the first argument's, where the axioms ask it -/
theorem parts_right (hok : sigOk P Q O = true) {k : Nat} (hk : k < O.length) {L : List TermM} (hL : ∀ a ∈ L, FormS P Q O a) {p : TermM} (hp : p ∈ partsO O k L) :
  ¬ ((O.getD k default).unt ≠ 0 ∧ p.op = (O.getD k default).unt - 1) ∧ ¬ ((O.getD k default).ass = true ∧ p.op = (k : Int)) := by
 obtain ⟨a, ha, h | h⟩ := mem_parts hp
 ·rw [h.1]; exact h.2
 ·obtain ⟨h1, h2, h3⟩ := (formS_eta P Q O a).1 (hL a ha)
  have hv : a.op ≠ -1 := by rw [h.2.2]; omega
  have h4 := h3 hv
  rw [h.2.2, Int.toNat_natCast] at h4
  obtain ⟨i, hi, e⟩ := at_mem h.1
  obtain ⟨_, q2, q3, _⟩ := h4 i hi
  rw [e] at q2 q3
  refine ⟨fun hu => q3 ⟨hu.1, ?_⟩, q2⟩
  have hn := ((formS_eta P Q O p).1 (h2 p h.1)).1
  exact (cmp_zero _ _).2 (unit_eq hok hk hn hu.1 hu.2)
theorem parts_kind {k : Nat} {L : List TermM} (hL : ∀ a ∈ L, FormS P Q O a) (hC : CanS P Q O k L) (hass : (O.getD k default).ass = true) {p : TermM} (hp : p ∈ partsO O k L) :
  κK P.length Q (srtT O p) = κK P.length Q ((hd0 (O.getD k default).decls).1.getD 0 0) := by
 obtain ⟨a, ha, h | h⟩ := mem_parts hp
 ·obtain ⟨i, hi, e⟩ := at_mem ha
  have := hC.2 i hi
  rw [hass, e] at this
  rw [h.1]
  exact this
 ·obtain ⟨h1, h2, h3⟩ := (formS_eta P Q O a).1 (hL a ha)
  have hv : a.op ≠ -1 := by rw [h.2.2]; omega
  have h4 := h3 hv
  rw [h.2.2, Int.toNat_natCast] at h4
  obtain ⟨i, hi, e⟩ := at_mem h.1
  obtain ⟨q1, _⟩ := h4 i hi
  rw [hass, e] at q1
  exact q1
theorem parts_flat {u : Int} {k : Nat} : ∀ {L : List TermM}, (partsM u false k L).length ≤ L.length ∧ ((partsM u false k L).length = L.length → partsM u false k L = L)
 | [] => ⟨Nat.le_refl _, fun _ => rfl⟩
 | a :: L => by
  have ih := parts_flat (u := u) (k := k) (L := L)
  have e : partsM u false k (a :: L) = part1 u false k a ++ partsM u false k L := rfl
  rw [e, List.length_append, List.length_cons]
  by_cases h1 : u ≠ 0 ∧ a.op = u - 1
  ·rw [part1_unit h1]
   exact ⟨by simp; omega, fun h => by simp at h; omega⟩
  ·rw [part1_self h1 (by simp)]
   refine ⟨by simp; omega, fun h => ?_⟩
   rw [ih.2 (by simp at h; omega)]
   rfl
theorem parts_none {b : Bool} {k : Nat} : ∀ {L : List TermM}, (b = true → ∀ a ∈ L, a.op = (k : Int) → 2 ≤ a.args.length) → L.length ≤ (partsM 0 b k L).length
 | [], _ => Nat.le_refl _
 | a :: L, h => by
  have ih := parts_none (b := b) (k := k) (L := L) (fun hb a ha => h hb a (by simp [ha]))
  have e : partsM 0 b k (a :: L) = part1 0 b k a ++ partsM 0 b k L := rfl
  rw [e, List.length_append, List.length_cons]
  by_cases h2 : b = true ∧ a.op = (k : Int)
  ·rw [part1_flat (by simp) h2]
   have := h h2.1 a (by simp) h2.2
   omega
  ·rw [part1_self (by simp) h2]
   simp; omega
/-- an application of an associative operator has two arguments at least -/
theorem two_args {k : Nat} {a : TermM} (h : FormS P Q O a) (hb : (O.getD k default).ass = true) (ho : a.op = (k : Int)) : 2 ≤ a.args.length := by
 have h1 := ((formS_eta P Q O a).1 h).1
 unfold NodeS at h1
 rw [if_neg (by omega), ho, Int.toNat_natCast, if_pos hb] at h1
 exact h1.2.2.2.1
/-- where a node is made: how many parts there are -/
theorem parts_num (hok : sigOk P Q O = true) {k : Nat} (hk : k < O.length) {L : List TermM} (hL : ∀ a ∈ L, FormS P Q O a) (hC : NumS O k L) (h0 : ¬ ((O.getD k default).unt ≠ 0 ∧ (partsO O k L).length = 0)) (h1 : ¬ ((O.getD k default).unt ≠ 0 ∧ (partsO O k L).length = 1)) :
  ((O.getD k default).ass = true → 2 ≤ (partsO O k L).length) ∧ ((O.getD k default).ass = false → partsO O k L = L ∧ L.length = ar (O.getD k default)) := by
 unfold NumS at hC
 constructor
 ·intro hass
  rw [if_pos hass] at hC
  by_cases hu : (O.getD k default).unt = 0
  ·have := parts_none (b := (O.getD k default).ass) (k := k) (L := L) (fun hb a ha ho => two_args (hL a ha) hb ho)
   unfold partsO
   rw [hu]
   omega
  ·have : (partsO O k L).length ≠ 0 := fun e => h0 ⟨hu, e⟩
   have : (partsO O k L).length ≠ 1 := fun e => h1 ⟨hu, e⟩
   omega
 ·intro hass
  rw [if_neg (by rw [hass]; simp)] at hC
  refine ⟨?_, hC⟩
  have hf := parts_flat (u := (O.getD k default).unt) (k := k) (L := L)
  unfold partsO at h0 h1 ⊢
  rw [hass] at h0 h1 ⊢
  apply hf.2
  by_cases hu : (O.getD k default).unt = 0
  ·have := parts_none (b := false) (k := k) (L := L) (fun hb => by cases hb)
   rw [hu] at hf ⊢
   omega
  ·have : (partsM (O.getD k default).unt false k L).length ≠ 0 := fun e => h0 ⟨hu, e⟩
   have : (partsM (O.getD k default).unt false k L).length ≠ 1 := fun e => h1 ⟨hu, e⟩
   have : ar (O.getD k default) = 2 := by
    rcases args_at hok hk with h5 | h5
    ·exact absurd h5.2.2 hu
    ·exact h5.1
   omega
/-- the unit is a term -/
theorem unit_form (hok : sigOk P Q O = true) {k : Nat} (hk : k < O.length) (hu : (O.getD k default).unt ≠ 0) : FormS P Q O (.mk ((O.getD k default).unt - 1) [] 0 []) := by
 have h1 := ax_at hok hk
 simp only [axOk, unitOk, Bool.and_eq_true, Bool.or_eq_true, decide_eq_true_eq] at h1
 obtain ⟨⟨h2, h3⟩, _⟩ := h1.2.resolve_left hu
 obtain ⟨u, hu'⟩ : ∃ u, u = (O.getD k default).unt := ⟨_, rfl⟩
 unfold unitOf at h3
 rw [← hu'] at hu h2 h3 ⊢
 obtain ⟨j, hj⟩ : ∃ j : Nat, u = (j : Int) + 1 := ⟨(u - 1).toNat, by omega⟩
 have hjl : j < O.length := by omega
 rw [show u.toNat - 1 = j by omega] at h3
 have hass : (O.getD j default).ass = false := by
  rcases args_at hok hjl with h5 | h5
  ·exact h5.1
  ·omega
 rw [show u - 1 = (j : Int) by omega]
 refine (formS_eta P Q O _).2 ⟨?_, fun a ha => by simp [TermM.args] at ha, fun _ i hi => by simp [TermM.args] at hi⟩
 unfold NodeS
 have e1 : (TermM.mk (j : Int) [] 0 []).op = (j : Int) := rfl
 rw [e1, if_neg (by omega), Int.toNat_natCast, if_neg (by rw [hass]; simp), h3]
 exact ⟨by omega, rfl, rfl, rfl⟩
theorem com_kind (hok : sigOk P Q O = true) {k : Nat} (hk : k < O.length) (hc : (O.getD k default).com = true) : ar (O.getD k default) = 2 ∧ ∀ i, i < 2 → κK P.length Q ((hd0 (O.getD k default).decls).1.getD i 0) = κK P.length Q ((hd0 (O.getD k default).decls).1.getD 0 0) := by
 rcases args_at hok hk with h5 | h5
 ·rw [hc] at h5; exact absurd h5.2.1 (by simp)
 ·refine ⟨h5.1, fun i hi => ?_⟩
  have := h5.2.1
  unfold a0 a1 at this
  match i, hi with
  | 0, _ => rfl
  | 1, _ => exact this.symm
/-- the form of an application to terms is a term, but for its limits -/
theorem form_form (hok : sigOk P Q O = true) {k : Nat} (hk : k < O.length) {L : List TermM} (hL : ∀ a ∈ L, FormS P Q O a) (hC : CanS P Q O k L) (hw : wide (formO O k L)) : FormS P Q O (formO O k L) := by
 unfold formO formM at hw ⊢
 by_cases h0 : (O.getD k default).unt ≠ 0 ∧ (partsO O k L).length = 0
 ·rw [if_pos h0]
  exact unit_form hok hk h0.1
 rw [if_neg h0] at hw ⊢
 by_cases h1 : (O.getD k default).unt ≠ 0 ∧ (partsO O k L).length = 1
 ·rw [if_pos h1]
  exact parts_form hL _ (mem_at (by omega))
 rw [if_neg h1] at hw ⊢
 obtain ⟨n1, n2⟩ := parts_num hok hk hL hC.1 h0 h1
 have hpr := fun p hp => parts_right hok hk hL (p := p) hp
 obtain ⟨ps, hps⟩ : ∃ ps, ps = partsO O k L := ⟨_, rfl⟩
 have hpm : ps = partsM (O.getD k default).unt (O.getD k default).ass k L := hps
 have hpf : ∀ p ∈ ps, FormS P Q O p := fun p hp => parts_form hL p (by rw [← hps]; exact hp)
 have hpk : (O.getD k default).ass = true → ∀ p ∈ ps, κK P.length Q (srtT O p) = κK P.length Q ((hd0 (O.getD k default).decls).1.getD 0 0) := fun ha p hp => parts_kind hL hC ha (by rw [← hps]; exact hp)
 rw [← hps] at n1 n2 hpr
 rw [← hpm] at hw ⊢
 clear h0 h1 hpm
 -- the order
 obtain ⟨qs, hqs⟩ : ∃ qs, qs = (if (O.getD k default).com = true ∧ ps.length ≤ 7 then sortM ps else ps) := ⟨_, rfl⟩
 rw [← hqs] at hw ⊢
 have hperm : qs.Perm ps := by
  rw [hqs]
  split
  ·exact (sortM_spec ps).2
  ·exact List.Perm.refl _
 have hlen := hperm.length_eq
 have h7 : qs.length ≤ 7 := ((allN_mk _ _ _ _ _).1 hw).1
 have hsrt : (O.getD k default).com = true → Srt qs := fun hc => by
  rw [hqs, if_pos ⟨hc, by omega⟩]
  exact (sortM_spec ps).1
 refine (formS_eta P Q O _).2 ⟨?_, fun a ha => hpf a (hperm.mem_iff.1 ha), fun _ => ?_⟩
 ·unfold NodeS
  have e1 : (TermM.mk (k : Int) [] 0 qs).op = (k : Int) := rfl
  have e2 : (TermM.mk (k : Int) [] 0 qs).args = qs := rfl
  rw [e1, e2, if_neg (by omega), Int.toNat_natCast]
  refine ⟨by omega, rfl, rfl, ?_⟩
  cases ha : (O.getD k default).ass with
  | true => rw [if_pos rfl]; exact ⟨by have := n1 ha; omega, h7⟩
  | false =>
   rw [if_neg (by simp)]
   obtain ⟨e, e2⟩ := n2 ha
   rw [hlen, e, e2]
 ·show RightS _ O (k : Int).toNat qs
  rw [Int.toNat_natCast]
  have hkind : ∀ i, i < qs.length → κK P.length Q (srtT O (qs.getD i default)) = κK P.length Q ((hd0 (O.getD k default).decls).1.getD (atS (O.getD k default).ass i) 0) := by
   intro i hi
   cases ha : (O.getD k default).ass with
   | true => exact hpk ha _ (hperm.mem_iff.1 (mem_at hi))
   | false =>
    obtain ⟨e, e2⟩ := n2 ha
    have hC2 := hC.2
    rw [ha] at hC2
    cases hc : (O.getD k default).com with
    | false =>
     have : qs = L := by rw [hqs, if_neg (by rw [hc]; simp), e]
     rw [this]
     exact hC2 i (by rw [← e, ← hlen]; exact hi)
    | true =>
     obtain ⟨c1, c2⟩ := com_kind hok hk hc
     have hm := hperm.mem_iff.1 (mem_at hi)
     rw [e] at hm
     obtain ⟨j, hj, ej⟩ := at_mem hm
     rw [← ej, hC2 j hj]
     show κK P.length Q ((hd0 (O.getD k default).decls).1.getD j 0) = κK P.length Q ((hd0 (O.getD k default).decls).1.getD i 0)
     have hl2 : qs.length = 2 := by rw [hlen, e, e2, c1]
     rw [c2 j (by omega), c2 i (by omega)]
  intro i hi
  obtain ⟨r1, r2⟩ := hpr _ (hperm.mem_iff.1 (mem_at hi))
  refine ⟨hkind i hi, r2, fun hu => r1 ⟨hu.1, ?_⟩, fun hc h0 => ?_⟩
  ·rw [(cmp_zero _ _).1 hu.2, unitT, if_neg hu.1]; rfl
  ·have := (srt_adj qs).1 (hsrt hc) (i - 1) (by omega)
   rwa [show i - 1 + 1 = i by omega] at this
theorem wide_kid {a p : TermM} (h : wide a) (hp : p ∈ a.args) : wide p := ((allN_eta _ a).1 h).2 p hp
theorem lim_kid {a p : TermM} (h : LimT a) (hp : p ∈ a.args) : LimT p := by
 obtain ⟨h1, h2, h3⟩ := h
 have s1 := sizes_mem hp
 have s2 := size_eq a
 have d1 := depth_mem hp
 have d2 := depth_eq a
 exact ⟨by omega, by omega, wide_kid h3 hp⟩
theorem parts_lim {u : Int} {b : Bool} {k : Nat} {L : List TermM} (hL : ∀ a ∈ L, LimT a) : ∀ p ∈ partsM u b k L, LimT p := by
 intro p hp
 obtain ⟨a, ha, h | h⟩ := mem_parts hp
 ·rw [h.1]; exact hL a ha
 ·exact lim_kid (hL a ha) h.1
/-- what the model makes: always put in order -/
noncomputable def formX (u : Int) (b c : Bool) (k : Nat) (L : List TermM) : TermM :=
 if u ≠ 0 ∧ (partsM u b k L).length = 0 then .mk (u - 1) [] 0 [] else if u ≠ 0 ∧ (partsM u b k L).length = 1 then (partsM u b k L).getD 0 default
 else .mk k [] 0 (if c = true then sortM (partsM u b k L) else partsM u b k L)
/-- the model's test of the limits -/
def okX (u : Int) (b c : Bool) (k : Nat) (L : List TermM) : Prop :=
 (u ≠ 0 ∧ (partsM u b k L).length = 0) ∨ (u ≠ 0 ∧ (partsM u b k L).length = 1) ∨ ((b = true → (partsM u b k L).length ≤ 7) ∧ size (formX u b c k L) ≤ 60 ∧ depth (formX u b c k L) ≤ 20)
theorem wide_node {k : Int} {ps : List TermM} (h : ∀ p ∈ ps, wide p) : wide (.mk k [] 0 ps) ↔ ps.length ≤ 7 := by
 unfold wide
 rw [allN_mk]
 exact ⟨fun h => h.1, fun h1 => ⟨h1, h⟩⟩
theorem ok_iff (hok : sigOk P Q O = true) {k : Nat} (hk : k < O.length) {L : List TermM} (hL : ∀ a ∈ L, FormS P Q O a) (hl : ∀ a ∈ L, LimT a) (hC : NumS O k L) :
  (okX (O.getD k default).unt (O.getD k default).ass (O.getD k default).com k L ↔ LimT (formO O k L)) ∧ (LimT (formO O k L) → formX (O.getD k default).unt (O.getD k default).ass (O.getD k default).com k L = formO O k L) := by
 have hpl := parts_lim (u := (O.getD k default).unt) (b := (O.getD k default).ass) (k := k) hl
 by_cases h0 : (O.getD k default).unt ≠ 0 ∧ (partsO O k L).length = 0
 ·have eF : formO O k L = .mk ((O.getD k default).unt - 1) [] 0 [] := by unfold formO formM; rw [if_pos h0]
  have eX : formX (O.getD k default).unt (O.getD k default).ass (O.getD k default).com k L = .mk ((O.getD k default).unt - 1) [] 0 [] := by unfold formX; rw [if_pos h0]
  rw [eF, eX]
  exact ⟨⟨fun _ => ⟨by rw [size_mk]; simp [sizes], by rw [depth_mk]; simp [depths], (wide_node (by simp)).2 (by simp)⟩, fun _ => .inl h0⟩, fun _ => rfl⟩
 by_cases h1 : (O.getD k default).unt ≠ 0 ∧ (partsO O k L).length = 1
 ·have eF : formO O k L = (partsO O k L).getD 0 default := by unfold formO formM; rw [if_neg h0, if_pos h1]
  have eX : formX (O.getD k default).unt (O.getD k default).ass (O.getD k default).com k L = (partsO O k L).getD 0 default := by unfold formX; rw [if_neg h0, if_pos h1]
  rw [eF, eX]
  exact ⟨⟨fun _ => hpl _ (mem_at (by unfold partsO at h1; omega)), fun _ => .inr (.inl h1)⟩, fun _ => rfl⟩
 obtain ⟨n1, n2⟩ := parts_num hok hk hL hC h0 h1
 have eF : formO O k L = .mk k [] 0 (if (O.getD k default).com = true ∧ (partsO O k L).length ≤ 7 then sortM (partsO O k L) else partsO O k L) := by unfold formO formM; rw [if_neg h0, if_neg h1]
 have eX : formX (O.getD k default).unt (O.getD k default).ass (O.getD k default).com k L = .mk k [] 0 (if (O.getD k default).com = true then sortM (partsO O k L) else partsO O k L) := by unfold formX; rw [if_neg h0, if_neg h1]
 unfold okX
 rw [eF, eX]
 clear eF eX
 unfold partsO at h0 h1 n1 n2 ⊢
 obtain ⟨ps, hps⟩ : ∃ ps, ps = partsM (O.getD k default).unt (O.getD k default).ass k L := ⟨_, rfl⟩
 rw [← hps] at h0 h1 n1 n2 hpl ⊢
 have h3 : (O.getD k default).ass = false → ps.length ≤ 3 := fun ha => by
  obtain ⟨e, e2⟩ := n2 ha
  rw [e, e2]
  exact (okD_parts (hd_ok hok hk)).1
 have hpw : ∀ (b : Bool), wide (.mk (k : Int) [] 0 (if b = true then sortM ps else ps)) ↔ ps.length ≤ 7 := fun b => by
  cases b with
  | false => exact wide_node (fun p hp => (hpl p hp).2.2)
  | true =>
   rw [if_pos rfl, ← (sortM_spec ps).2.length_eq]
   exact wide_node (fun p hp => (hpl p ((sortM_spec ps).2.mem_iff.1 hp)).2.2)
 by_cases h7 : ps.length ≤ 7
 ·have e : (if (O.getD k default).com = true ∧ ps.length ≤ 7 then sortM ps else ps) = (if (O.getD k default).com = true then sortM ps else ps) := by
   by_cases hc : (O.getD k default).com = true
   ·rw [if_pos ⟨hc, h7⟩, if_pos hc]
   ·rw [if_neg (fun h => hc h.1), if_neg hc]
  rw [e]
  refine ⟨⟨fun h => ?_, fun h => .inr (.inr ⟨fun _ => h7, h.1, h.2.1⟩)⟩, fun _ => rfl⟩
  rcases h with h | h | h
  ·exact absurd h h0
  ·exact absurd h h1
  ·exact ⟨h.2.1, h.2.2, (hpw _).2 h7⟩
 ·have ha : (O.getD k default).ass = true := by
   cases ha : (O.getD k default).ass with
   | true => rfl
   | false => exact absurd (h3 ha) (by omega)
  have hno : ¬ LimT (.mk (k : Int) [] 0 (if (O.getD k default).com = true ∧ ps.length ≤ 7 then sortM ps else ps)) := fun h => by
   rw [if_neg (fun e => h7 e.2)] at h
   exact h7 ((wide_node (fun p hp => (hpl p hp).2.2)).1 h.2.2)
  refine ⟨⟨fun h => ?_, fun h => absurd h hno⟩, fun h => absurd h hno⟩
  rcases h with h | h | h
  ·exact absurd h h0
  ·exact absurd h h1
  ·exact absurd (h.1 ha) h7
end
end Go.Proofs.YtkkmjaggebjcbaaGreat.tmm
/-
 THE CANONICAL FORM OF A TREE: mathematics alone.
-/
namespace Go.Proofs.YtkkmjaggebjcbaaGreat.tmc
open mem dec setm sets sortm sortn sortp sorti sortf sortu sortg sigm sigs sigt sigl rowl trm trmv terml termb termt termx termz termro termsd termvr termvo termev frm termlm sigi sigj sigk gram gramo graml gramk gramc gramn gramt grami formlf formnd formk formr formf formm tma tmm

/-- what a tree becomes, by what is made of a node and of what its arguments became -/
noncomputable def rebM (F : TermM → List TermM → Option TermM) (t : TermM) : Option TermM :=
 TermM.rec (motive_1 := fun _ => Option TermM) (motive_2 := fun _ => Option (List TermM)) (fun o n s l h => h.bind (F (.mk o n s l))) (some []) (fun _ _ a l => a.bind fun x => l.map fun r => x :: r) t
noncomputable def rebL (F : TermM → List TermM → Option TermM) : List TermM → Option (List TermM)
 | [] => some []
 | a :: l => (rebM F a).bind fun x => (rebL F l).map fun r => x :: r
theorem rebM_mk (F : TermM → List TermM → Option TermM) (o : Int) (n : List UInt8) (s : Int) (l : List TermM) : rebM F (.mk o n s l) = (rebL F l).bind (F (.mk o n s l)) := by
 have : ∀ l : List TermM, (TermM.rec_1 (motive_1 := fun _ => Option TermM) (motive_2 := fun _ => Option (List TermM)) (fun o n s l h => h.bind (F (.mk o n s l))) (some []) (fun _ _ a l => a.bind fun x => l.map fun r => x :: r) l : Option (List TermM)) = rebL F l := by
  intro l
  induction l with
  | nil => rfl
  | cons a l ih => rw [rebL, ← ih]; rfl
 rw [← this]
 rfl
theorem rebM_eta (F : TermM → List TermM → Option TermM) (t : TermM) : rebM F t = (rebL F t.args).bind (F t) := by cases t; exact rebM_mk _ _ _ _ _
theorem reb_congr {F F' : TermM → List TermM → Option TermM} (G : TermM → Prop) (hF : ∀ t zs u, F t zs = some u → (∀ a ∈ zs, G a) → G u) (he : ∀ t zs, (∀ a ∈ zs, G a) → F t zs = F' t zs) : ∀ t, rebM F t = rebM F' t ∧ (∀ u, rebM F t = some u → G u) := by
 refine TermM.ind (fun o n s l ih => ?_)
 have key : ∀ l : List TermM, (∀ t ∈ l, rebM F t = rebM F' t ∧ (∀ u, rebM F t = some u → G u)) → rebL F l = rebL F' l ∧ ∀ zs, rebL F l = some zs → ∀ a ∈ zs, G a := by
  intro l
  induction l with
  | nil => intro _; exact ⟨rfl, fun zs h a ha => by simp [rebL] at h; subst h; simp at ha⟩
  | cons b l ihl =>
   intro hl
   obtain ⟨q1, q2⟩ := ihl (fun t ht => hl t (by simp [ht]))
   obtain ⟨p1, p2⟩ := hl b (by simp)
   rw [rebL, rebL, ← p1, ← q1]
   refine ⟨rfl, fun zs h a ha => ?_⟩
   cases h1 : rebM F b with
   | none => rw [h1] at h; cases h
   | some x =>
    cases h2 : rebL F l with
    | none => rw [h1, h2] at h; cases h
    | some q =>
     rw [h1, h2] at h
     simp at h
     subst h
     rcases List.mem_cons.1 ha with rfl | ha
     ·exact p2 _ h1
     ·exact q2 _ h2 _ ha
 obtain ⟨k1, k2⟩ := key l ih
 rw [rebM_mk, rebM_mk, ← k1]
 cases h : rebL F l with
 | none => exact ⟨rfl, fun u h => by cases h⟩
 | some zs => exact ⟨he _ _ (k2 zs h), fun u hu => hF _ _ _ hu (k2 zs h)⟩

section
variable {P : List (List UInt8)} {Q : List (Int × Int)} {O : List OpM}
theorem sizes_parts (u : Int) (b : Bool) (k : Nat) : ∀ L : List TermM, sizes (partsM u b k L) ≤ sizes L
 | [] => Nat.le_refl _
 | a :: L => by
  have ih := sizes_parts u b k L
  have e : partsM u b k (a :: L) = part1 u b k a ++ partsM u b k L := rfl
  have e2 : sizes (part1 u b k a ++ partsM u b k L) = sizes (part1 u b k a) + sizes (partsM u b k L) := by simp [sizes]
  rw [e, e2]
  have e3 : sizes (a :: L) = size a + sizes L := by simp [sizes]
  have e4 : sizes (part1 u b k a) ≤ size a := by
   have := termro.size_eq a
   unfold part1
   split
   ·simp [sizes]
   ·split
    ·omega
    ·simp [sizes]
  omega
theorem sizes_perm {l m : List TermM} (h : l.Perm m) : sizes l = sizes m := by
 unfold sizes
 exact (h.map size).sum_nat
theorem size_formM (u : Int) (b c : Bool) (k : Nat) (L : List TermM) : size (formM u b c k L) ≤ 1 + sizes L := by
 have h := sizes_parts u b k L
 unfold formM
 split
 ·rw [size_mk]; simp [sizes]
 ·split
  ·rename_i h1
   have := size_le_sizes (l := partsM u b k L) (j := 0) (by omega)
   omega
  ·rw [size_mk]
   split
   ·rw [sizes_perm (sortM_spec _).2]; omega
   ·omega
/-- what the program makes of a node and of the forms of its arguments -/
noncomputable def nodeG (G : GrM) (t : TermM) (zs : List TermM) : Option TermM := by
 classical
 exact if t.op = -1 then (if varB G t = true then some (.mk (-1) t.name t.sort []) else none)
  else if plainB t = true ∧ CanP G t.op zs ∧ LimT (formM (G.E.getD t.op.toNat default).1.unt (G.E.getD t.op.toNat default).1.ass (G.E.getD t.op.toNat default).1.com t.op.toNat zs) then some (formM (G.E.getD t.op.toNat default).1.unt (G.E.getD t.op.toNat default).1.ass (G.E.getD t.op.toNat default).1.com t.op.toNat zs) else none
/-- what the model makes of them -/
noncomputable def nodeS (P : List (List UInt8)) (Q : List (Int × Int)) (O : List OpM) (t : TermM) (zs : List TermM) : Option TermM := by
 classical
 exact if t.op = -1 then (if NodeS P O t then some (.mk (-1) t.name t.sort []) else none)
  else if ((0 ≤ t.op ∧ t.op < O.length) ∧ t.name = [] ∧ t.sort = 0) ∧ CanS P Q O t.op.toNat zs ∧ LimT (formO O t.op.toNat zs) then some (formO O t.op.toNat zs) else none
theorem nodeG_size {G : GrM} {t u : TermM} {zs : List TermM} (h : nodeG G t zs = some u) : size u ≤ 1 + sizes zs := by
 unfold nodeG at h
 split at h
 ·split at h
  ·simp at h; subst h; rw [size_mk]; simp [sizes]
  ·cases h
 ·split at h
  ·simp at h; subst h; exact size_formM _ _ _ _ _
  ·cases h
theorem nodeG_no (hok : ¬ sigOk P Q O = true) (t : TermM) (zs : List TermM) : nodeG (grM P Q O) t zs = none := by
 have hg : grM P Q O = ⟨[], []⟩ := by unfold grM; rw [if_neg hok]
 unfold nodeG
 rw [hg]
 split
 ·rw [if_neg]
  simp only [varB, Bool.and_eq_true, decide_eq_true_eq, List.length_nil]
  omega
 ·rw [if_neg]
  intro h
  have := h.2.1.1
  simp only [List.length_nil] at this
  omega
theorem node_eq (hok : sigOk P Q O = true) (t : TermM) (zs : List TermM) (hA : ∀ a ∈ zs, FormS P Q O a) : nodeG (grM P Q O) t zs = nodeS P Q O t zs := by
 unfold nodeG nodeS
 by_cases hv : t.op = -1
 ·rw [if_pos hv, if_pos hv]
  have e : varB (grM P Q O) t = true ↔ NodeS P O t := by
   have hU : (grM P Q O).U.length = P.length := by rw [grM_ok hok]; exact grU_len hok
   unfold NodeS
   rw [if_pos hv]
   simp only [varB, Bool.and_eq_true, decide_eq_true_eq, hU]
   exact ⟨fun h => ⟨h.1.1, h.1.2, h.2⟩, fun h => ⟨⟨h.1, h.2.1⟩, h.2.2⟩⟩
  by_cases hn : NodeS P O t
  ·rw [if_pos hn, if_pos (e.2 hn)]
  ·rw [if_neg hn, if_neg (fun h => hn (e.1 h))]
 ·rw [if_neg hv, if_neg hv]
  by_cases hr : 0 ≤ t.op ∧ t.op < O.length
  ·obtain ⟨k, hk⟩ : ∃ k : Nat, t.op = (k : Int) := ⟨t.op.toNat, by omega⟩
   have hkl : k < O.length := by omega
   have hc := can_iff hok hkl zs (fun a ha => range_of_node ((formS_eta P Q O a).1 (hA a ha)).1)
   rw [hk, Int.toNat_natCast, grE_at hok hkl]
   by_cases h : (((0 : Int) ≤ (k : Int) ∧ (k : Int) < O.length) ∧ t.name = [] ∧ t.sort = 0) ∧ CanS P Q O k zs ∧ LimT (formO O k zs)
   ·rw [if_pos h, if_pos ⟨by simp only [plainB, decide_eq_true_eq]; exact h.1.2, hc.2 h.2.1, h.2.2⟩]
   ·rw [if_neg h, if_neg]
    rintro ⟨h1, h2, h3⟩
    simp only [plainB, decide_eq_true_eq] at h1
    exact h ⟨⟨by omega, h1⟩, hc.1 h2, h3⟩
  ·have hE : (grM P Q O).E.length = O.length := by rw [grM_ok hok]; exact opsE_len _ _
   rw [if_neg, if_neg]
   ·exact fun h => hr h.1.1
   ·rintro ⟨_, h2, _⟩
    have := h2.1
    rw [hE] at this
    exact hr this
theorem nodeS_form (hok : sigOk P Q O = true) {t u : TermM} {zs : List TermM} (hA : ∀ a ∈ zs, FormS P Q O a) (h : nodeS P Q O t zs = some u) : FormS P Q O u ∧ LimT u := by
 unfold nodeS at h
 by_cases hv : t.op = -1
 ·rw [if_pos hv] at h
  split at h
  ·rename_i hn
   simp at h
   subst h
   unfold NodeS at hn
   rw [if_pos hv] at hn
   refine ⟨(formS_eta P Q O _).2 ⟨?_, fun a ha => by simp [TermM.args] at ha, fun hv => absurd rfl hv⟩, by rw [size_mk]; simp [sizes], by rw [depth_mk]; simp [depths], (wide_node (k := -1) (ps := []) (by simp)).2 (by simp)⟩
   unfold NodeS
   rw [if_pos (show (TermM.mk (-1) t.name t.sort []).op = -1 from rfl)]
   exact ⟨hn.1, hn.2.1, rfl⟩
  ·cases h
 ·rw [if_neg hv] at h
  split at h
  ·rename_i hn
   simp at h
   subst h
   exact ⟨form_form hok (by omega) hA hn.2.1 hn.2.2.2.2, hn.2.2⟩
  ·cases h
/-- the canonical form, zs the program finds it -/
noncomputable abbrev canG (P : List (List UInt8)) (Q : List (Int × Int)) (O : List OpM) (t : TermM) : Option TermM := rebM (nodeG (grM P Q O)) t
theorem canG_no (hok : ¬ sigOk P Q O = true) (t : TermM) : canG P Q O t = none := by
 unfold canG
 rw [rebM_eta]
 cases rebL (nodeG (grM P Q O)) t.args with
 | none => rfl
 | some zs => exact nodeG_no hok t zs
theorem canG_eq (hok : sigOk P Q O = true) (t : TermM) : canG P Q O t = rebM (nodeS P Q O) t ∧ ∀ u, canG P Q O t = some u → FormS P Q O u ∧ LimT u :=
 reb_congr (G := fun u => FormS P Q O u ∧ LimT u) (fun t zs u h hA => by
  rw [node_eq hok t zs (fun a ha => (hA a ha).1)] at h
  exact nodeS_form hok (fun a ha => (hA a ha).1) h) (fun t zs hA => node_eq hok t zs (fun a ha => (hA a ha).1)) t
end
end Go.Proofs.YtkkmjaggebjcbaaGreat.tmc
/-
 REBUILDING A TREE BY A PATH OF OPEN NODES: what is left to be done, and that it goes down.
-/
namespace Go.Proofs.YtkkmjaggebjcbaaGreat.rebm
open Go.ChangeShapes Go.WideShapes Go.ChangeAt Go.RowKit
open mem trm trmv terml termt tmc

section
variable (F : TermM → List TermM → Option TermM)
/-- a node whose first arguments have become ds -/
noncomputable def fin (t : TermM) (ds : List TermM) : Option TermM := (rebL F (t.args.drop ds.length)).bind fun es => F t (ds ++ es)
/-- what the open nodes make of what stands in for their open argument, the innermost first -/
noncomputable def resume : List (TermM × List TermM) → Option TermM → Option TermM
 | [], o => o
 | (t, ds) :: rest, o => resume rest (o.bind fun u => fin F t (ds ++ [u]))
theorem fin_start (t : TermM) : fin F t [] = rebM F t := by
 rw [rebM_eta]
 simp [fin]
theorem fin_done {t : TermM} {ds : List TermM} (h : t.args.length ≤ ds.length) : fin F t ds = F t ds := by
 unfold fin
 rw [List.drop_eq_nil_of_le h]
 simp [rebL]
theorem fin_push {t : TermM} {ds : List TermM} (h : ds.length < t.args.length) : fin F t ds = (fin F (t.args.getD ds.length default) []).bind fun u => fin F t (ds ++ [u]) := by
 rw [fin_start]
 unfold fin
 rw [List.drop_eq_getElem_cons h]
 have e : t.args.getD ds.length default = t.args[ds.length] := by simp [List.getD, h]
 rw [e]
 simp only [rebL, List.length_append, List.length_cons, List.length_nil, Nat.zero_add]
 cases rebM F t.args[ds.length] with
 | none => rfl
 | some u =>
  cases rebL F (t.args.drop (ds.length + 1)) with
  | none => rfl
  | some es => simp
theorem resume_none : ∀ R : List (TermM × List TermM), resume F R none = none
 | [] => rfl
 | _ :: rest => resume_none rest
end
/-- how many nodes are still to be opened below the open nodes: the innermost's open argument isn't open yet -/
noncomputable def leftB : List (TermM × List TermM) → Nat
 | [] => 0
 | (t, ds) :: rest => sizes (t.args.drop (ds.length + 1)) + leftB rest
noncomputable def left (t : TermM) (ds : List TermM) (R : List (TermM × List TermM)) : Nat := 2 * (sizes (t.args.drop ds.length) + leftB R) + R.length
theorem sizes_cons (a : TermM) (l : List TermM) : sizes (a :: l) = size a + sizes l := by simp [sizes]
theorem left_push {t : TermM} {ds : List TermM} {R : List (TermM × List TermM)} (h : ds.length < t.args.length) : left (t.args.getD ds.length default) [] ((t, ds) :: R) < left t ds R := by
 have e : t.args.getD ds.length default = t.args[ds.length] := by simp [List.getD, h]
 have h1 : size t.args[ds.length] = 1 + sizes t.args[ds.length].args := by
  have := t.args[ds.length].eta
  rw [← this, size_mk]
  rfl
 unfold left
 rw [List.drop_eq_getElem_cons h, e, sizes_cons]
 simp only [leftB, List.length_nil, List.drop_zero, List.length_cons]
 omega
theorem left_pop {t t' : TermM} {ds ds' : List TermM} {R : List (TermM × List TermM)} (u : TermM) : left t' (ds' ++ [u]) R < left t ds ((t', ds') :: R) := by
 unfold left
 simp only [leftB, List.length_append, List.length_cons, List.length_nil, Nat.zero_add]
 omega
end Go.Proofs.YtkkmjaggebjcbaaGreat.rebm
