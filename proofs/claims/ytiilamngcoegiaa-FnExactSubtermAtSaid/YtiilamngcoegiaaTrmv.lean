/-
  PLAIN MATHEMATICS OF TERMS: variables, occurrences, sorted lists. No program.
-/
import Derived.Test.YtiilamngcoegiaaTrm
namespace Go.Proofs.Ytiilamngcoegiaa.trmv
open trm

theorem getD_at {l : List TermM} {k : Nat} (h : k < l.length) : l.getD k default = l[k] := by simp [List.getD, List.getElem?_eq_getElem h]
def var (n : List UInt8) (s : Int) : TermM := .mk (-1) n s []
/-- into an ascending list, once -/
noncomputable def insT : List TermM → TermM → List TermM
  | [], t => [t]
  | a :: l, t => if cmp a t < 0 then a :: insT l t else if cmp a t = 0 then a :: l else t :: a :: l
theorem insT_at : ∀ (k : Nat) (l : List TermM) (t : TermM), k ≤ l.length → (∀ j, j < k → cmp (l.getD j default) t < 0) → (k < l.length → ¬ cmp (l.getD k default) t < 0) →
    insT l t = if k < l.length ∧ cmp (l.getD k default) t = 0 then l else l.take k ++ t :: l.drop k
  | 0, [], t, _, _, _ => by simp [insT]
  | 0, a :: l, t, _, _, h => by
    have h0 : ¬ cmp a t < 0 := by simpa using h (by simp)
    rw [insT, if_neg h0]
    simp
  | k + 1, [], t, h, _, _ => by simp at h
  | k + 1, a :: l, t, h1, h2, h3 => by
    have h0 : cmp a t < 0 := by simpa using h2 0 (by omega)
    rw [insT, if_pos h0, insT_at k l t (by simpa using h1) (fun j hj => by simpa using h2 (j + 1) (by omega)) (fun hk => by simpa using h3 (by simpa using hk))]
    have e : (k + 1 < (a :: l).length ∧ cmp ((a :: l).getD (k + 1) default) t = 0) ↔ (k < l.length ∧ cmp (l.getD k default) t = 0) := by simp
    by_cases hc : k < l.length ∧ cmp (l.getD k default) t = 0
    · rw [if_pos hc, if_pos (e.2 hc)]
    · rw [if_neg hc, if_neg (fun h => hc (e.1 h))]; simp
/-- strictly ascending -/
def Asc (l : List TermM) : Prop := l.Pairwise fun a b => cmp a b < 0
theorem cmp_lt_trans {a b c : TermM} (h1 : cmp a b < 0) (h2 : cmp b c < 0) : cmp a c < 0 := by
  have h := cmp_trans a b c (by omega) (by omega)
  have hne : cmp a c ≠ 0 := fun e => by
    have e2 := (cmp_zero a c).1 e
    subst e2
    have := cmp_swap a b
    omega
  omega
theorem mem_insT {x : TermM} : ∀ (l : List TermM) (t : TermM), x ∈ insT l t ↔ x = t ∨ x ∈ l
  | [], t => by simp [insT]
  | a :: l, t => by
    rw [insT]
    split
    · rw [List.mem_cons, mem_insT l t, List.mem_cons]
      constructor
      · rintro (h | h | h)
        · exact .inr (.inl h)
        · exact .inl h
        · exact .inr (.inr h)
      · rintro (h | h | h)
        · exact .inr (.inl h)
        · exact .inl h
        · exact .inr (.inr h)
    · split
      · rename_i h1 h2
        have e := (cmp_zero a t).1 h2
        subst e
        simp
      · simp
theorem asc_insT : ∀ (l : List TermM) (t : TermM), Asc l → Asc (insT l t)
  | [], t, _ => by simp [insT, Asc]
  | a :: l, t, h => by
    obtain ⟨h1, h2⟩ := List.pairwise_cons.1 h
    rw [insT]
    split
    · rename_i h3
      refine List.pairwise_cons.2 ⟨fun b hb => ?_, asc_insT l t h2⟩
      rcases (mem_insT l t).1 hb with rfl | hb
      · exact h3
      · exact h1 b hb
    · split
      · exact h
      · rename_i h3 h4
        have hta : cmp t a < 0 := by have := cmp_swap a t; omega
        refine List.pairwise_cons.2 ⟨fun b hb => ?_, h⟩
        rcases List.mem_cons.1 hb with rfl | hb
        · exact hta
        · exact cmp_lt_trans hta (h1 b hb)
/-- ascending lists with the same elements are the same -/
theorem asc_unique : ∀ (l m : List TermM), Asc l → Asc m → (∀ x, x ∈ l ↔ x ∈ m) → l = m
  | [], [], _, _, _ => rfl
  | [], b :: m, _, _, h => absurd ((h b).2 (by simp)) (by simp)
  | a :: l, [], _, _, h => absurd ((h a).1 (by simp)) (by simp)
  | a :: l, b :: m, hl, hm, h => by
    obtain ⟨l1, l2⟩ := List.pairwise_cons.1 hl
    obtain ⟨m1, m2⟩ := List.pairwise_cons.1 hm
    have hab : a = b := by
      rcases List.mem_cons.1 ((h a).1 (by simp)) with e | ha
      · exact e
      · rcases List.mem_cons.1 ((h b).2 (by simp)) with e | hb
        · exact e.symm
        · have h1 := m1 a ha
          have h2 := l1 b hb
          have := cmp_swap a b
          omega
    subst hab
    have ha : ∀ x, x ∈ l → x ≠ a := fun x hx e => by subst e; have := l1 _ hx; rw [cmp_self] at this; omega
    have hb : ∀ x, x ∈ m → x ≠ a := fun x hx e => by subst e; have := m1 _ hx; rw [cmp_self] at this; omega
    rw [asc_unique l m l2 m2 (fun x => ?_)]
    constructor
    · intro hx
      rcases List.mem_cons.1 ((h x).1 (List.mem_cons_of_mem _ hx)) with e | e
      · exact absurd e (ha x hx)
      · exact e
    · intro hx
      rcases List.mem_cons.1 ((h x).2 (List.mem_cons_of_mem _ hx)) with e | e
      · exact absurd e (hb x hx)
      · exact e

/-- the variables, gathered into a list -/
noncomputable def colT (t : TermM) : List TermM → List TermM :=
  TermM.rec (motive_1 := fun _ => List TermM → List TermM) (motive_2 := fun _ => List TermM → List TermM)
    (fun o n s _ f acc => if o = -1 then insT acc (var n s) else f acc) (fun acc => acc) (fun _ _ fa fl acc => fl (fa acc)) t
noncomputable def cols (l : List TermM) (acc : List TermM) : List TermM := l.foldl (fun acc a => colT a acc) acc
theorem colT_mk (o : Int) (n : List UInt8) (s : Int) (l acc : List TermM) : colT (.mk o n s l) acc = if o = -1 then insT acc (var n s) else cols l acc := by
  have : ∀ (l acc : List TermM), (TermM.rec_1 (motive_1 := fun _ => List TermM → List TermM) (motive_2 := fun _ => List TermM → List TermM)
      (fun o n s _ f acc => if o = -1 then insT acc (var n s) else f acc) (fun acc => acc) (fun _ _ fa fl acc => fl (fa acc)) l : List TermM → List TermM) acc = cols l acc := by
    intro l
    induction l with
    | nil => intro acc; rfl
    | cons a l ih => intro acc; rw [cols, List.foldl_cons]; exact ih (colT a acc)
  rw [← this]
  rfl
theorem cols_nil (acc : List TermM) : cols [] acc = acc := rfl
theorem cols_take (l : List TermM) (acc : List TermM) (k : Nat) (h : k < l.length) : cols (l.take (k + 1)) acc = colT (l.getD k default) (cols (l.take k) acc) := by
  rw [cols, List.take_succ_eq_append_getElem h, List.foldl_append, getD_at h]
  rfl
noncomputable def varsT (t : TermM) : List TermM := colT t []
/-- x is a variable of t -/
def vin (x : TermM) (t : TermM) : Prop :=
  TermM.rec (motive_1 := fun _ => Prop) (motive_2 := fun _ => Prop) (fun o n s _ p => (o = -1 ∧ x = var n s) ∨ (o ≠ -1 ∧ p)) False (fun _ _ p q => p ∨ q) t
theorem vin_mk (x : TermM) (o : Int) (n : List UInt8) (s : Int) (l : List TermM) : vin x (.mk o n s l) ↔ (o = -1 ∧ x = var n s) ∨ (o ≠ -1 ∧ ∃ a ∈ l, vin x a) := by
  have : ∀ l : List TermM, (TermM.rec_1 (motive_1 := fun _ => Prop) (motive_2 := fun _ => Prop) (fun o n s _ p => (o = -1 ∧ x = var n s) ∨ (o ≠ -1 ∧ p)) False (fun _ _ p q => p ∨ q) l : Prop) ↔ ∃ a ∈ l, vin x a := by
    intro l
    induction l with
    | nil => simp
    | cons a l ih =>
      simp only [List.mem_cons, exists_eq_or_imp]
      exact or_congr Iff.rfl ih
  rw [← this]
  rfl
theorem mem_colT (x : TermM) : ∀ (t : TermM) (acc : List TermM), x ∈ colT t acc ↔ x ∈ acc ∨ vin x t := by
  refine TermM.ind (fun o n s l ih acc => ?_)
  rw [colT_mk, vin_mk]
  split
  · rename_i h
    rw [mem_insT]
    simp only [h, true_and, ne_eq, not_true_eq_false, false_and, or_false]
    exact or_comm
  · rename_i h
    have hL : ∀ (l : List TermM), (∀ t ∈ l, ∀ acc, x ∈ colT t acc ↔ x ∈ acc ∨ vin x t) → ∀ acc, x ∈ cols l acc ↔ x ∈ acc ∨ ∃ a ∈ l, vin x a := by
      intro l
      induction l with
      | nil => intro _ acc; simp [cols]
      | cons a l ihl =>
        intro h acc
        have e : cols (a :: l) acc = cols l (colT a acc) := rfl
        rw [e, ihl (fun t ht => h t (by simp [ht])), h a (by simp)]
        simp only [List.mem_cons, exists_eq_or_imp, or_assoc]
    rw [hL l ih acc]
    simp only [h, false_and, ne_eq, not_false_eq_true, true_and, false_or]
theorem asc_colT : ∀ (t : TermM) (acc : List TermM), Asc acc → Asc (colT t acc) := by
  refine TermM.ind (fun o n s l ih acc hacc => ?_)
  rw [colT_mk]
  split
  · exact asc_insT _ _ hacc
  · have hL : ∀ (l : List TermM), (∀ t ∈ l, ∀ acc, Asc acc → Asc (colT t acc)) → ∀ acc, Asc acc → Asc (cols l acc) := by
      intro l
      induction l with
      | nil => intro _ acc h; exact h
      | cons a l ihl =>
        intro h acc hacc
        exact ihl (fun t ht => h t (by simp [ht])) _ (h a (by simp) acc hacc)
    exact hL l ih acc hacc
theorem mem_varsT {x t : TermM} : x ∈ varsT t ↔ vin x t := by rw [varsT, mem_colT]; simp
theorem asc_varsT (t : TermM) : Asc (varsT t) := asc_colT t [] List.Pairwise.nil
theorem vars_unique {l : List TermM} {t : TermM} (h1 : Asc l) (h2 : ∀ x, x ∈ l ↔ vin x t) : l = varsT t := asc_unique _ _ h1 (asc_varsT t) (fun x => by rw [h2, mem_varsT])
theorem vin_var {x : TermM} : ∀ t, vin x t → x.op = -1 ∧ x.args = [] := by
  refine TermM.ind (fun o n s l ih h => ?_)
  rcases (vin_mk x o n s l).1 h with ⟨_, rfl⟩ | ⟨_, a, ha, h⟩
  · exact ⟨rfl, rfl⟩
  · exact ih a ha h

/-- v is t or a part of t -/
noncomputable def occT (v : TermM) (t : TermM) : Bool :=
  TermM.rec (motive_1 := fun _ => Bool) (motive_2 := fun _ => Bool) (fun o n s l p => decide (cmp v (.mk o n s l) = 0) || p) false (fun _ _ p q => p || q) t
theorem occT_mk (v : TermM) (o : Int) (n : List UInt8) (s : Int) (l : List TermM) : occT v (.mk o n s l) = (decide (cmp v (.mk o n s l) = 0) || l.any (occT v)) := by
  have : ∀ l : List TermM, (TermM.rec_1 (motive_1 := fun _ => Bool) (motive_2 := fun _ => Bool) (fun o n s l p => decide (cmp v (.mk o n s l) = 0) || p) false (fun _ _ p q => p || q) l : Bool) = l.any (occT v) := by
    intro l
    induction l with
    | nil => rfl
    | cons a l ih => rw [List.any_cons, ← ih]; rfl
  rw [← this]
  rfl
theorem occ_of_vin {x : TermM} : ∀ t, vin x t → (∀ n s l, t = .mk (-1) n s l → l = []) → (∀ o n s l, t = .mk o n s l → o ≠ -1 → ∀ a ∈ l, vin x a → occT x a = true) → occT x t = true := by
  intro t h h1 h2
  obtain ⟨o, n, s, l⟩ := t
  rw [occT_mk]
  rcases (vin_mk x o n s l).1 h with ⟨ho, hx⟩ | ⟨ho, a, ha, hv⟩
  · subst ho
    have hl := h1 n s l rfl
    subst hl
    subst hx
    have : cmp (var n s) (.mk (-1) n s []) = 0 := cmp_self _
    simp [this]
  · have := h2 o n s l rfl ho a ha hv
    simp only [Bool.or_eq_true, List.any_eq_true]
    exact .inr ⟨a, ha, this⟩
/-- every variable node of t is without arguments -/
def bare (t : TermM) : Prop :=
  TermM.rec (motive_1 := fun _ => Prop) (motive_2 := fun _ => Prop) (fun o _ _ l p => (o = -1 → l = []) ∧ p) True (fun _ _ p q => p ∧ q) t
theorem bare_mk (o : Int) (n : List UInt8) (s : Int) (l : List TermM) : bare (.mk o n s l) ↔ (o = -1 → l = []) ∧ ∀ a ∈ l, bare a := by
  have : ∀ l : List TermM, (TermM.rec_1 (motive_1 := fun _ => Prop) (motive_2 := fun _ => Prop) (fun o _ _ l p => (o = -1 → l = []) ∧ p) True (fun _ _ p q => p ∧ q) l : Prop) ↔ ∀ a ∈ l, bare a := by
    intro l
    induction l with
    | nil => simp
    | cons a l ih =>
      simp only [List.mem_cons, forall_eq_or_imp]
      exact and_congr Iff.rfl ih
  rw [← this]
  exact Iff.rfl
/-- of a bare tree: the variables are the parts that are variables -/
theorem occ_vin {x : TermM} (hx : x.op = -1 ∧ x.args = []) : ∀ t, bare t → (occT x t = true ↔ vin x t) := by
  obtain ⟨xo, xn, xs, xl⟩ := x
  obtain ⟨h1, h2⟩ := hx
  simp only [TermM.op, TermM.args] at h1 h2
  subst h1 h2
  refine TermM.ind (fun o n s l ih hb => ?_)
  obtain ⟨hb1, hb2⟩ := (bare_mk o n s l).1 hb
  rw [occT_mk, vin_mk]
  simp only [Bool.or_eq_true, decide_eq_true_eq, List.any_eq_true, cmp_zero, TermM.mk.injEq]
  constructor
  · rintro (⟨rfl, rfl, rfl, rfl⟩ | ⟨a, ha, h⟩)
    · exact .inl ⟨rfl, rfl⟩
    · have ho : o ≠ -1 := fun e => by rw [hb1 e] at ha; simp at ha
      exact .inr ⟨ho, a, ha, (ih a ha (hb2 a ha)).1 h⟩
  · rintro (⟨ho, hv⟩ | ⟨_, a, ha, h⟩)
    · have hl := hb1 ho
      rw [var, TermM.mk.injEq] at hv
      exact .inl ⟨ho.symm, hv.2.1, hv.2.2.1, hl.symm⟩
    · exact .inr ⟨a, ha, (ih a ha (hb2 a ha)).2 h⟩

/-- in non-descending order -/
def Srt (l : List TermM) : Prop := l.Pairwise fun a b => cmp a b ≤ 0
theorem srt_unique : ∀ (l m : List TermM), Srt l → Srt m → l.Perm m → l = m
  | [], m, _, _, h => (List.Perm.nil_eq h)
  | a :: l, [], _, _, h => absurd h.length_eq (by simp)
  | a :: l, b :: m, hl, hm, h => by
    obtain ⟨l1, l2⟩ := List.pairwise_cons.1 hl
    obtain ⟨m1, m2⟩ := List.pairwise_cons.1 hm
    have hab : a = b := by
      rcases List.mem_cons.1 (h.mem_iff.1 (show a ∈ a :: l by simp)) with e | ha
      · exact e
      · rcases List.mem_cons.1 (h.mem_iff.2 (show b ∈ b :: m by simp)) with e | hb
        · exact e.symm
        · have h1 := m1 a ha
          have h2 := l1 b hb
          have := cmp_swap a b
          exact (cmp_zero a b).1 (by omega)
    subst hab
    rw [srt_unique l m l2 m2 (List.Perm.cons_inv h)]
/-- one element put where all behind it are greater and the one before it isn't -/
theorem srt_put {l : List TermM} {t : TermM} {k : Nat} (hl : Srt l) (hk : k ≤ l.length) (h1 : ∀ j, k ≤ j → j < l.length → 0 < cmp (l.getD j default) t) (h2 : 0 < k → ¬ 0 < cmp (l.getD (k - 1) default) t) :
    Srt (l.take k ++ t :: l.drop k) ∧ (l.take k ++ t :: l.drop k).Perm (t :: l) := by
  have hsplit : l.take k ++ l.drop k = l := List.take_append_drop k l
  have hl2 : Srt (l.take k ++ l.drop k) := by rw [hsplit]; exact hl
  obtain ⟨a1, a2, a3⟩ := List.pairwise_append.1 hl2
  have hdrop : ∀ b ∈ l.drop k, 0 < cmp b t := by
    intro b hb
    obtain ⟨j, hj, rfl⟩ := List.getElem_of_mem hb
    have hjl : k + j < l.length := by rw [List.length_drop] at hj; omega
    have := h1 (k + j) (by omega) hjl
    rw [getD_at hjl] at this
    rw [List.getElem_drop]; exact this
  have htake : ∀ b ∈ l.take k, cmp b t ≤ 0 := by
    intro b hb
    obtain ⟨j, hj, rfl⟩ := List.getElem_of_mem hb
    have hjk : j < k := by rw [List.length_take] at hj; omega
    have hp : cmp (l.getD (k - 1) default) t ≤ 0 := by have := h2 (by omega); omega
    have hk1 : k - 1 < l.length := by omega
    rw [getD_at hk1] at hp
    rw [List.getElem_take]
    by_cases e : j = k - 1
    · subst e; exact hp
    · exact cmp_trans _ _ _ (List.pairwise_iff_getElem.1 hl j (k - 1) (by omega) hk1 (by omega)) hp
  refine ⟨List.pairwise_append.2 ⟨a1, List.pairwise_cons.2 ⟨fun b hb => ?_, a2⟩, fun b hb c hc => ?_⟩, ?_⟩
  · have := hdrop b hb
    have := cmp_swap b t
    omega
  · rcases List.mem_cons.1 hc with rfl | hc
    · exact htake b hb
    · exact a3 b hb c hc
  · have hp : (l.take k ++ t :: l.drop k).Perm (t :: (l.take k ++ l.drop k)) := List.perm_middle
    rw [hsplit] at hp
    exact hp
/-- there is a sorted form of every list -/
noncomputable def insS : List TermM → TermM → List TermM
  | [], t => [t]
  | a :: l, t => if cmp a t ≤ 0 then a :: insS l t else t :: a :: l
theorem insS_perm : ∀ (l : List TermM) (t : TermM), (insS l t).Perm (t :: l)
  | [], t => List.Perm.refl _
  | a :: l, t => by
    rw [insS]
    split
    · exact ((insS_perm l t).cons a).trans (List.Perm.swap t a l)
    · exact List.Perm.refl _
theorem insS_srt : ∀ (l : List TermM) (t : TermM), Srt l → Srt (insS l t)
  | [], t, _ => by simp [insS, Srt]
  | a :: l, t, h => by
    obtain ⟨h1, h2⟩ := List.pairwise_cons.1 h
    rw [insS]
    split
    · rename_i h3
      refine List.pairwise_cons.2 ⟨fun b hb => ?_, insS_srt l t h2⟩
      rcases List.mem_cons.1 ((insS_perm l t).mem_iff.1 hb) with rfl | hb
      · exact h3
      · exact h1 b hb
    · rename_i h3
      have hta : cmp t a ≤ 0 := by have := cmp_swap a t; omega
      refine List.pairwise_cons.2 ⟨fun b hb => ?_, h⟩
      rcases List.mem_cons.1 hb with rfl | hb
      · exact hta
      · exact cmp_trans _ _ _ hta (h1 b hb)
noncomputable def sortM (l : List TermM) : List TermM := l.foldl insS []
theorem sortM_spec (l : List TermM) : Srt (sortM l) ∧ (sortM l).Perm l := by
  have : ∀ (l acc : List TermM), Srt acc → Srt (l.foldl insS acc) ∧ (l.foldl insS acc).Perm (acc ++ l) := by
    intro l
    induction l with
    | nil => intro acc h; exact ⟨h, by simp⟩
    | cons a l ih =>
      intro acc h
      obtain ⟨h1, h2⟩ := ih (insS acc a) (insS_srt acc a h)
      refine ⟨h1, h2.trans ?_⟩
      refine ((insS_perm acc a).append_right l).trans ?_
      exact (List.perm_middle (l₁ := acc) (l₂ := l) (a := a)).symm
  simpa [sortM] using this l [] List.Pairwise.nil
theorem sortM_unique {l m : List TermM} (h1 : Srt m) (h2 : m.Perm l) : m = sortM l := srt_unique _ _ h1 (sortM_spec l).1 (h2.trans (sortM_spec l).2.symm)
end Go.Proofs.Ytiilamngcoegiaa.trmv
