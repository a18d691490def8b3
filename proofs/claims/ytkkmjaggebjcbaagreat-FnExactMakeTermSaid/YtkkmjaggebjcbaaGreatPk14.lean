/-
  Tmm, Tmc, merged.
-/
import Derived.Test.YtkkmjaggebjcbaaGreatPk13
import Derived.Test.YtkkmjaggebjcbaaGreatPk06
/-
 THE FORM OF AN APPLICATION TO TERMS IS A TERM: mathematics alone.
-/
namespace Go.Proofs.YtkkmjaggebjcbaaGreat.tmm
open mem dec setm sets sortm sortn sortp sorti sortf sortu sortg sigm sigs sigt sigl rowl trm trmv terml termb termt termx termz termro termsd termvr termvo termev frm termlm sigi sigj sigk gram gramo graml gramk gramc gramn gramt grami formlf formnd formk formr formf formm tma

section
variable {P : List (List UInt8)} {Q : List (Int × Int)} {O : List OpM}
noncomputable abbrev partsO (O : List OpM) (k : Nat) (L : List TermM) : List TermM := partsM (O.getD k default).unt (O.getD k default).ass k L
noncomputable abbrev formO (O : List OpM) (k : Nat) (L : List TermM) : TermM := formM (O.getD k default).unt (O.getD k default).ass (O.getD k default).com k L
/-- the number of the arguments is right -/
def NumS (O : List OpM) (k : Nat) (L : List TermM) : Prop := if (O.getD k default).ass = true then 2 ≤ L.length else L.length = ar (O.getD k default)
/-- so are their kinds -/
def CanS (P : List (List UInt8)) (Q : List (Int × Int)) (O : List OpM) (k : Nat) (L : List TermM) : Prop :=
 NumS O k L ∧ ∀ i, i < L.length → κK P.length Q (srtT O (L.getD i default)) = κK P.length Q ((hd0 (O.getD k default).decls).1.getD (atS (O.getD k default).ass i) 0)
theorem ax_at (hok : sigOk P Q O = true) {k : Nat} (hk : k < O.length) : axOk (κK P.length Q) O (O.getD k default) = true := by
 obtain ⟨_, _, _, _, hx⟩ := sigOk_parts hok
 exact hx _ (op_mem hk)
theorem args_at (hok : sigOk P Q O = true) {k : Nat} (hk : k < O.length) : ((O.getD k default).ass = false ∧ (O.getD k default).com = false ∧ (O.getD k default).unt = 0) ∨
  (ar (O.getD k default) = 2 ∧ κK P.length Q (a0 (O.getD k default)) = κK P.length Q (a1 (O.getD k default)) ∧ (((O.getD k default).ass = false ∧ (O.getD k default).unt = 0) ∨ κK P.length Q (a0 (O.getD k default)) = κK P.length Q (rs (O.getD k default)))) := by
 have h4 := ax_at hok hk
 simp only [axOk, argsOk, Bool.and_eq_true, Bool.or_eq_true, decide_eq_true_eq, Bool.not_eq_true'] at h4
 rcases h4.1 with h5 | h5
 ·exact .inl ⟨h5.1.1, h5.1.2, h5.2⟩
 ·exact .inr ⟨h5.1.1, h5.1.2, h5.2⟩
theorem at_lt (hok : sigOk P Q O = true) {k : Nat} (hk : k < O.length) {L : List TermM} (hn : NumS O k L) : ∀ i, i < L.length → atS (O.getD k default).ass i < (hd0 (O.getD k default).decls).1.length := fun i hi => by
 unfold NumS at hn
 cases ha : (O.getD k default).ass with
 | false =>
  rw [ha, if_neg (by simp)] at hn
  show i < ar (O.getD k default)
  omega
 | true =>
  have h5 : ar (O.getD k default) = 2 := by
   rcases args_at hok hk with h5 | h5
   ·rw [ha] at h5; exact absurd h5.1 (by simp)
   ·exact h5.1
  have h6 : (hd0 (O.getD k default).decls).1.length = 2 := h5
  rw [h6]
  exact Nat.zero_lt_two
theorem mem_at {L : List TermM} {i : Nat} (hi : i < L.length) : L.getD i default ∈ L := by rw [List.getD_eq_getElem?_getD, List.getElem?_eq_getElem hi]; exact List.getElem_mem _
/-- the program's test of number and kinds is the model's -/
theorem can_iff (hok : sigOk P Q O = true) {k : Nat} (hk : k < O.length) (L : List TermM) (hL : ∀ a ∈ L, RangeT P O a) : CanP (grM P Q O) (k : Int) L ↔ CanS P Q O k L := by
 have hE : (grM P Q O).E.length = O.length := by rw [grM_ok hok]; exact opsE_len _ _
 unfold CanP CanS
 rw [hE, Int.toNat_natCast, grE_at hok hk]
 have htk : takesB (O.getD k default, k, shp (κU (kindsU P Q)) (hd0 (O.getD k default).decls)) L.length = true ↔ NumS O k L := by
  unfold takesB NumS
  split
  ·rw [decide_eq_true_iff]
  ·rw [decide_eq_true_iff]; rfl
 rw [htk]
 have hr : (0 : Int) ≤ (k : Int) ∧ (k : Int) < (O.length : Int) := by omega
 constructor
 ·rintro ⟨_, h1, h2⟩
  refine ⟨h1, fun i hi => ?_⟩
  have hR := hL _ (mem_at hi)
  have h3 := h2 i hi
  rw [gKind_eq hok hR, kAt_eq hok hk (at_lt hok hk h1 i hi)] at h3
  exact (kU_kK hok (srt_in hok hR) ((okD_parts (hd_ok hok hk)).2.2 _ (at_lt hok hk h1 i hi))).1 h3
 ·rintro ⟨h1, h2⟩
  refine ⟨hr, h1, fun i hi => ?_⟩
  have hR := hL _ (mem_at hi)
  rw [gKind_eq hok hR, kAt_eq hok hk (at_lt hok hk h1 i hi)]
  exact (kU_kK hok (srt_in hok hR) ((okD_parts (hd_ok hok hk)).2.2 _ (at_lt hok hk h1 i hi))).2 (h2 i hi)
/-- what one of the parts is -/
theorem mem_part1 {u : Int} {b : Bool} {k : Nat} {a p : TermM} (h : p ∈ part1 u b k a) : (p = a ∧ ¬ (u ≠ 0 ∧ a.op = u - 1) ∧ ¬ (b = true ∧ a.op = (k : Int))) ∨ (p ∈ a.args ∧ b = true ∧ a.op = (k : Int)) := by
 by_cases h1 : u ≠ 0 ∧ a.op = u - 1
 ·rw [part1_unit h1] at h; cases h
 ·by_cases h2 : b = true ∧ a.op = (k : Int)
  ·rw [part1_flat h1 h2] at h
   exact .inr ⟨h, h2.1, h2.2⟩
  ·rw [part1_self h1 h2] at h
   simp at h
   exact .inl ⟨h, h1, h2⟩
theorem mem_parts {u : Int} {b : Bool} {k : Nat} {L : List TermM} {p : TermM} (h : p ∈ partsM u b k L) : ∃ a ∈ L, (p = a ∧ ¬ (u ≠ 0 ∧ a.op = u - 1) ∧ ¬ (b = true ∧ a.op = (k : Int))) ∨ (p ∈ a.args ∧ b = true ∧ a.op = (k : Int)) := by
 obtain ⟨a, ha, h⟩ := List.mem_flatMap.1 h
 exact ⟨a, ha, mem_part1 h⟩
theorem parts_flat {u : Int} {k : Nat} : ∀ {L : List TermM}, (partsM u false k L).length ≤ L.length ∧ ((partsM u false k L).length = L.length → partsM u false k L = L)
 | [] => ⟨Nat.le_refl _, fun _ => rfl⟩
 | a :: L => by
  have ih := parts_flat (u := u) (k := k) (L := L)
  have e : partsM u false k (a :: L) = part1 u false k a ++ partsM u false k L := rfl
  rw [e, List.length_append, List.length_cons]
  by_cases h1 : u ≠ 0 ∧ a.op = u - 1
  ·rw [part1_unit h1]
   exact ⟨by simp; omega, fun h => by simp at h; omega⟩
  ·rw [part1_self h1 (by simp)]
   refine ⟨by simp; omega, fun h => ?_⟩
   rw [ih.2 (by simp at h; omega)]
   rfl
theorem parts_none {b : Bool} {k : Nat} : ∀ {L : List TermM}, (b = true → ∀ a ∈ L, a.op = (k : Int) → 2 ≤ a.args.length) → L.length ≤ (partsM 0 b k L).length
 | [], _ => Nat.le_refl _
 | a :: L, h => by
  have ih := parts_none (b := b) (k := k) (L := L) (fun hb a ha => h hb a (by simp [ha]))
  have e : partsM 0 b k (a :: L) = part1 0 b k a ++ partsM 0 b k L := rfl
  rw [e, List.length_append, List.length_cons]
  by_cases h2 : b = true ∧ a.op = (k : Int)
  ·rw [part1_flat (by simp) h2]
   have := h h2.1 a (by simp) h2.2
   omega
  ·rw [part1_self (by simp) h2]
   simp; omega
/-- an application of an associative operator has two arguments at least -/
theorem two_args {k : Nat} {a : TermM} (h : FormS P Q O a) (hb : (O.getD k default).ass = true) (ho : a.op = (k : Int)) : 2 ≤ a.args.length := by
 have h1 := ((formS_eta P Q O a).1 h).1
 unfold NodeS at h1
 rw [if_neg (by omega), ho, Int.toNat_natCast, if_pos hb] at h1
 exact h1.2.2.2.1
/-- where a node is made: how many parts there are -/
theorem parts_num (hok : sigOk P Q O = true) {k : Nat} (hk : k < O.length) {L : List TermM} (hL : ∀ a ∈ L, FormS P Q O a) (hC : NumS O k L) (h0 : ¬ ((O.getD k default).unt ≠ 0 ∧ (partsO O k L).length = 0)) (h1 : ¬ ((O.getD k default).unt ≠ 0 ∧ (partsO O k L).length = 1)) :
  ((O.getD k default).ass = true → 2 ≤ (partsO O k L).length) ∧ ((O.getD k default).ass = false → partsO O k L = L ∧ L.length = ar (O.getD k default)) := by
 unfold NumS at hC
 constructor
 ·intro hass
  rw [if_pos hass] at hC
  by_cases hu : (O.getD k default).unt = 0
  ·have := parts_none (b := (O.getD k default).ass) (k := k) (L := L) (fun hb a ha ho => two_args (hL a ha) hb ho)
   unfold partsO
   rw [hu]
   omega
  ·have : (partsO O k L).length ≠ 0 := fun e => h0 ⟨hu, e⟩
   have : (partsO O k L).length ≠ 1 := fun e => h1 ⟨hu, e⟩
   omega
 ·intro hass
  rw [if_neg (by rw [hass]; simp)] at hC
  refine ⟨?_, hC⟩
  have hf := parts_flat (u := (O.getD k default).unt) (k := k) (L := L)
  unfold partsO at h0 h1 ⊢
  rw [hass] at h0 h1 ⊢
  apply hf.2
  by_cases hu : (O.getD k default).unt = 0
  ·have := parts_none (b := false) (k := k) (L := L) (fun hb => by cases hb)
   rw [hu] at hf ⊢
   omega
  ·have : (partsM (O.getD k default).unt false k L).length ≠ 0 := fun e => h0 ⟨hu, e⟩
   have : (partsM (O.getD k default).unt false k L).length ≠ 1 := fun e => h1 ⟨hu, e⟩
   have : ar (O.getD k default) = 2 := by
    rcases args_at hok hk with h5 | h5
    ·exact absurd h5.2.2 hu
    ·exact h5.1
   omega
theorem wide_kid {a p : TermM} (h : wide a) (hp : p ∈ a.args) : wide p := ((allN_eta _ a).1 h).2 p hp
theorem lim_kid {a p : TermM} (h : LimT a) (hp : p ∈ a.args) : LimT p := by
 obtain ⟨h1, h2, h3⟩ := h
 have s1 := sizes_mem hp
 have s2 := size_eq a
 have d1 := depth_mem hp
 have d2 := depth_eq a
 exact ⟨by omega, by omega, wide_kid h3 hp⟩
theorem parts_lim {u : Int} {b : Bool} {k : Nat} {L : List TermM} (hL : ∀ a ∈ L, LimT a) : ∀ p ∈ partsM u b k L, LimT p := by
 intro p hp
 obtain ⟨a, ha, h | h⟩ := mem_parts hp
 ·rw [h.1]; exact hL a ha
 ·exact lim_kid (hL a ha) h.1
/-- what the model makes: always put in order -/
noncomputable def formX (u : Int) (b c : Bool) (k : Nat) (L : List TermM) : TermM :=
 if u ≠ 0 ∧ (partsM u b k L).length = 0 then .mk (u - 1) [] 0 [] else if u ≠ 0 ∧ (partsM u b k L).length = 1 then (partsM u b k L).getD 0 default
 else .mk k [] 0 (if c = true then sortM (partsM u b k L) else partsM u b k L)
/-- the model's test of the limits -/
def okX (u : Int) (b c : Bool) (k : Nat) (L : List TermM) : Prop :=
 (u ≠ 0 ∧ (partsM u b k L).length = 0) ∨ (u ≠ 0 ∧ (partsM u b k L).length = 1) ∨ ((b = true → (partsM u b k L).length ≤ 7) ∧ size (formX u b c k L) ≤ 60 ∧ depth (formX u b c k L) ≤ 20)
theorem wide_node {k : Int} {ps : List TermM} (h : ∀ p ∈ ps, wide p) : wide (.mk k [] 0 ps) ↔ ps.length ≤ 7 := by
 unfold wide
 rw [allN_mk]
 exact ⟨fun h => h.1, fun h1 => ⟨h1, h⟩⟩
theorem ok_iff (hok : sigOk P Q O = true) {k : Nat} (hk : k < O.length) {L : List TermM} (hL : ∀ a ∈ L, FormS P Q O a) (hl : ∀ a ∈ L, LimT a) (hC : NumS O k L) :
  (okX (O.getD k default).unt (O.getD k default).ass (O.getD k default).com k L ↔ LimT (formO O k L)) ∧ (LimT (formO O k L) → formX (O.getD k default).unt (O.getD k default).ass (O.getD k default).com k L = formO O k L) := by
 have hpl := parts_lim (u := (O.getD k default).unt) (b := (O.getD k default).ass) (k := k) hl
 by_cases h0 : (O.getD k default).unt ≠ 0 ∧ (partsO O k L).length = 0
 ·have eF : formO O k L = .mk ((O.getD k default).unt - 1) [] 0 [] := by unfold formO formM; rw [if_pos h0]
  have eX : formX (O.getD k default).unt (O.getD k default).ass (O.getD k default).com k L = .mk ((O.getD k default).unt - 1) [] 0 [] := by unfold formX; rw [if_pos h0]
  rw [eF, eX]
  exact ⟨⟨fun _ => ⟨by rw [size_mk]; simp [sizes], by rw [depth_mk]; simp [depths], (wide_node (by simp)).2 (by simp)⟩, fun _ => .inl h0⟩, fun _ => rfl⟩
 by_cases h1 : (O.getD k default).unt ≠ 0 ∧ (partsO O k L).length = 1
 ·have eF : formO O k L = (partsO O k L).getD 0 default := by unfold formO formM; rw [if_neg h0, if_pos h1]
  have eX : formX (O.getD k default).unt (O.getD k default).ass (O.getD k default).com k L = (partsO O k L).getD 0 default := by unfold formX; rw [if_neg h0, if_pos h1]
  rw [eF, eX]
  exact ⟨⟨fun _ => hpl _ (mem_at (by unfold partsO at h1; omega)), fun _ => .inr (.inl h1)⟩, fun _ => rfl⟩
 obtain ⟨n1, n2⟩ := parts_num hok hk hL hC h0 h1
 have eF : formO O k L = .mk k [] 0 (if (O.getD k default).com = true ∧ (partsO O k L).length ≤ 7 then sortM (partsO O k L) else partsO O k L) := by unfold formO formM; rw [if_neg h0, if_neg h1]
 have eX : formX (O.getD k default).unt (O.getD k default).ass (O.getD k default).com k L = .mk k [] 0 (if (O.getD k default).com = true then sortM (partsO O k L) else partsO O k L) := by unfold formX; rw [if_neg h0, if_neg h1]
 unfold okX
 rw [eF, eX]
 clear eF eX
 unfold partsO at h0 h1 n1 n2 ⊢
 obtain ⟨ps, hps⟩ : ∃ ps, ps = partsM (O.getD k default).unt (O.getD k default).ass k L := ⟨_, rfl⟩
 rw [← hps] at h0 h1 n1 n2 hpl ⊢
 have h3 : (O.getD k default).ass = false → ps.length ≤ 3 := fun ha => by
  obtain ⟨e, e2⟩ := n2 ha
  rw [e, e2]
  exact (okD_parts (hd_ok hok hk)).1
 have hpw : ∀ (b : Bool), wide (.mk (k : Int) [] 0 (if b = true then sortM ps else ps)) ↔ ps.length ≤ 7 := fun b => by
  cases b with
  | false => exact wide_node (fun p hp => (hpl p hp).2.2)
  | true =>
   rw [if_pos rfl, ← (sortM_spec ps).2.length_eq]
   exact wide_node (fun p hp => (hpl p ((sortM_spec ps).2.mem_iff.1 hp)).2.2)
 by_cases h7 : ps.length ≤ 7
 ·have e : (if (O.getD k default).com = true ∧ ps.length ≤ 7 then sortM ps else ps) = (if (O.getD k default).com = true then sortM ps else ps) := by
   by_cases hc : (O.getD k default).com = true
   ·rw [if_pos ⟨hc, h7⟩, if_pos hc]
   ·rw [if_neg (fun h => hc h.1), if_neg hc]
  rw [e]
  refine ⟨⟨fun h => ?_, fun h => .inr (.inr ⟨fun _ => h7, h.1, h.2.1⟩)⟩, fun _ => rfl⟩
  rcases h with h | h | h
  ·exact absurd h h0
  ·exact absurd h h1
  ·exact ⟨h.2.1, h.2.2, (hpw _).2 h7⟩
 ·have ha : (O.getD k default).ass = true := by
   cases ha : (O.getD k default).ass with
   | true => rfl
   | false => exact absurd (h3 ha) (by omega)
  have hno : ¬ LimT (.mk (k : Int) [] 0 (if (O.getD k default).com = true ∧ ps.length ≤ 7 then sortM ps else ps)) := fun h => by
   rw [if_neg (fun e => h7 e.2)] at h
   exact h7 ((wide_node (fun p hp => (hpl p hp).2.2)).1 h.2.2)
  refine ⟨⟨fun h => ?_, fun h => absurd h hno⟩, fun h => absurd h hno⟩
  rcases h with h | h | h
  ·exact absurd h h0
  ·exact absurd h h1
  ·exact absurd (h.1 ha) h7
end
end Go.Proofs.YtkkmjaggebjcbaaGreat.tmm
/-
 THE CANONICAL FORM OF A TREE: mathematics alone.
-/
namespace Go.Proofs.YtkkmjaggebjcbaaGreat.tmc
open mem dec setm sets sortm sortn sortp sorti sortf sortu sortg sigm sigs sigt sigl rowl trm trmv terml termb termt termx termz termro termsd termvr termvo termev frm termlm sigi sigj sigk gram gramo graml gramk gramc gramn gramt grami formlf formnd formk formr formf formm tma tmm

section
variable {P : List (List UInt8)} {Q : List (Int × Int)} {O : List OpM}
theorem sizes_parts (u : Int) (b : Bool) (k : Nat) : ∀ L : List TermM, sizes (partsM u b k L) ≤ sizes L
 | [] => Nat.le_refl _
 | a :: L => by
  have ih := sizes_parts u b k L
  have e : partsM u b k (a :: L) = part1 u b k a ++ partsM u b k L := rfl
  have e2 : sizes (part1 u b k a ++ partsM u b k L) = sizes (part1 u b k a) + sizes (partsM u b k L) := by simp [sizes]
  rw [e, e2]
  have e3 : sizes (a :: L) = size a + sizes L := by simp [sizes]
  have e4 : sizes (part1 u b k a) ≤ size a := by
   have := termro.size_eq a
   unfold part1
   split
   ·simp [sizes]
   ·split
    ·omega
    ·simp [sizes]
  omega
theorem sizes_perm {l m : List TermM} (h : l.Perm m) : sizes l = sizes m := by
 unfold sizes
 exact (h.map size).sum_nat
theorem size_formM (u : Int) (b c : Bool) (k : Nat) (L : List TermM) : size (formM u b c k L) ≤ 1 + sizes L := by
 have h := sizes_parts u b k L
 unfold formM
 split
 ·rw [size_mk]; simp [sizes]
 ·split
  ·rename_i h1
   have := size_le_sizes (l := partsM u b k L) (j := 0) (by omega)
   omega
  ·rw [size_mk]
   split
   ·rw [sizes_perm (sortM_spec _).2]; omega
   ·omega
end
end Go.Proofs.YtkkmjaggebjcbaaGreat.tmc
