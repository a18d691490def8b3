/-
  PLAIN MATHEMATICS OF TERMS: trees, their order, their variables, lists of them. No program.
-/
import Derived.Test.YtiilamngcoegiaaMem
namespace Go.Proofs.Ytiilamngcoegiaa.trm

/-- a term: the operator (-1: a variable), the name, the sort, the arguments -/
inductive TermM where
  | mk (op : Int) (name : List UInt8) (sort : Int) (args : List TermM)
instance : Inhabited TermM := ⟨.mk 0 [] 0 []⟩
def TermM.op : TermM → Int | .mk o _ _ _ => o
def TermM.name : TermM → List UInt8 | .mk _ n _ _ => n
def TermM.sort : TermM → Int | .mk _ _ s _ => s
def TermM.args : TermM → List TermM | .mk _ _ _ l => l
theorem TermM.eta (t : TermM) : TermM.mk t.op t.name t.sort t.args = t := by cases t; rfl
/-- induction over the arguments -/
theorem TermM.ind {P : TermM → Prop} (h : ∀ o n s l, (∀ t ∈ l, P t) → P (.mk o n s l)) : ∀ t, P t :=
  fun t => TermM.rec (motive_1 := P) (motive_2 := fun l => ∀ t ∈ l, P t) h (fun t ht => by simp at ht) (fun a l ha hl t ht => by
    rcases List.mem_cons.1 ht with rfl | ht
    · exact ha
    · exact hl t ht) t

/-- the number of nodes -/
noncomputable def size (t : TermM) : Nat := TermM.rec (motive_1 := fun _ => Nat) (motive_2 := fun _ => Nat) (fun _ _ _ _ k => 1 + k) 0 (fun _ _ a b => a + b) t
noncomputable def sizes (l : List TermM) : Nat := (l.map size).sum
theorem size_mk (o : Int) (n : List UInt8) (s : Int) (l : List TermM) : size (.mk o n s l) = 1 + sizes l := by
  have : ∀ l : List TermM, (TermM.rec_1 (motive_1 := fun _ => Nat) (motive_2 := fun _ => Nat) (fun _ _ _ _ k => 1 + k) 0 (fun _ _ a b => a + b) l : Nat) = sizes l := by
    intro l
    induction l with
    | nil => rfl
    | cons a l ih => simp only [sizes, List.map_cons, List.sum_cons]; rw [sizes] at ih; rw [← ih]; rfl
  show 1 + _ = _
  rw [this]
/-- the depth -/
noncomputable def depth (t : TermM) : Nat := TermM.rec (motive_1 := fun _ => Nat) (motive_2 := fun _ => Nat) (fun _ _ _ _ k => k + 1) 0 (fun _ _ a b => max a b) t
noncomputable def depths (l : List TermM) : Nat := l.foldr (fun t k => max (depth t) k) 0
theorem depth_mk (o : Int) (n : List UInt8) (s : Int) (l : List TermM) : depth (.mk o n s l) = depths l + 1 := by
  have : ∀ l : List TermM, (TermM.rec_1 (motive_1 := fun _ => Nat) (motive_2 := fun _ => Nat) (fun _ _ _ _ k => k + 1) 0 (fun _ _ a b => max a b) l : Nat) = depths l := by
    intro l
    induction l with
    | nil => rfl
    | cons a l ih => simp only [depths, List.foldr_cons]; rw [depths] at ih; rw [← ih]; rfl
  show _ + 1 = _
  rw [this]

/-- the order of byte strings: 'less' as Go compares -/
def lessB : List UInt8 → List UInt8 → Bool
  | _, [] => false
  | [], _ :: _ => true
  | a :: l, b :: m => if a = b then lessB l m else decide (a < b)
def cmpB (a b : List UInt8) : Int := if a = b then 0 else if lessB a b then -1 else 1
def cmpI (a b : Int) : Int := if a = b then 0 else if a < b then -1 else 1
/-- the order of terms -/
noncomputable def cmp (t : TermM) : TermM → Int :=
  TermM.rec (motive_1 := fun _ => TermM → Int) (motive_2 := fun _ => List TermM → Int)
    (fun o n s _ f u => if cmpI o u.op ≠ 0 then cmpI o u.op else if cmpB n u.name ≠ 0 then cmpB n u.name else if cmpI s u.sort ≠ 0 then cmpI s u.sort else f u.args)
    (fun m => match m with | [] => 0 | _ :: _ => -1)
    (fun _ _ fa fl m => match m with | [] => 1 | b :: m => if fa b ≠ 0 then fa b else fl m) t
/-- lexicographic, a proper prefix first -/
noncomputable def cmpL : List TermM → List TermM → Int
  | [], [] => 0
  | [], _ :: _ => -1
  | _ :: _, [] => 1
  | a :: l, b :: m => if cmp a b ≠ 0 then cmp a b else cmpL l m
theorem cmp_mk (o : Int) (n : List UInt8) (s : Int) (l : List TermM) (u : TermM) :
    cmp (.mk o n s l) u = if cmpI o u.op ≠ 0 then cmpI o u.op else if cmpB n u.name ≠ 0 then cmpB n u.name else if cmpI s u.sort ≠ 0 then cmpI s u.sort else cmpL l u.args := by
  have : ∀ (l m : List TermM), (TermM.rec_1 (motive_1 := fun _ => TermM → Int) (motive_2 := fun _ => List TermM → Int)
      (fun o n s _ f u => if cmpI o u.op ≠ 0 then cmpI o u.op else if cmpB n u.name ≠ 0 then cmpB n u.name else if cmpI s u.sort ≠ 0 then cmpI s u.sort else f u.args)
      (fun m => match m with | [] => 0 | _ :: _ => -1)
      (fun _ _ fa fl m => match m with | [] => 1 | b :: m => if fa b ≠ 0 then fa b else fl m) l : List TermM → Int) m = cmpL l m := by
    intro l
    induction l with
    | nil => intro m; cases m <;> rfl
    | cons a l ih =>
      intro m
      cases m with
      | nil => rfl
      | cons b m => rw [cmpL, ← ih m]; rfl
  rw [← this]
  rfl
theorem cmp_mk2 (o : Int) (n : List UInt8) (s : Int) (l : List TermM) (o' : Int) (n' : List UInt8) (s' : Int) (m : List TermM) :
    cmp (.mk o n s l) (.mk o' n' s' m) = if cmpI o o' ≠ 0 then cmpI o o' else if cmpB n n' ≠ 0 then cmpB n n' else if cmpI s s' ≠ 0 then cmpI s s' else cmpL l m := cmp_mk o n s l _
/-- of one list what the loop has compared: the first k are equal -/
theorem cmpL_skip : ∀ (k : Nat) (l m : List TermM), k ≤ l.length → k ≤ m.length → (∀ j, j < k → cmp (l.getD j default) (m.getD j default) = 0) → cmpL l m = cmpL (l.drop k) (m.drop k)
  | 0, _, _, _, _, _ => by simp
  | k + 1, [], _, h, _, _ => by simp at h
  | k + 1, _ :: _, [], _, h, _ => by simp at h
  | k + 1, a :: l, b :: m, h1, h2, h => by
    have h0 : cmp a b = 0 := by simpa using h 0 (by omega)
    rw [cmpL, if_neg (by simp [h0]), List.drop_succ_cons, List.drop_succ_cons]
    exact cmpL_skip k l m (by simpa using h1) (by simpa using h2) (fun j hj => by simpa using h (j + 1) (by omega))
theorem cmpL_hit {l m : List TermM} {k : Nat} (h1 : k < l.length) (h2 : k < m.length) (h : ∀ j, j < k → cmp (l.getD j default) (m.getD j default) = 0) (hk : cmp (l.getD k default) (m.getD k default) ≠ 0) : cmpL l m = cmp (l.getD k default) (m.getD k default) := by
  rw [cmpL_skip k l m (by omega) (by omega) h, List.drop_eq_getElem_cons h1, List.drop_eq_getElem_cons h2, cmpL]
  have e1 : l.getD k default = l[k] := by simp [List.getD, List.getElem?_eq_getElem h1]
  have e2 : m.getD k default = m[k] := by simp [List.getD, List.getElem?_eq_getElem h2]
  rw [e1, e2] at hk ⊢
  rw [if_pos hk]
theorem cmpL_end {l m : List TermM} (h : ∀ j, j < l.length → j < m.length → cmp (l.getD j default) (m.getD j default) = 0) : cmpL l m = cmpI l.length m.length := by
  rw [cmpL_skip (min l.length m.length) l m (Nat.min_le_left _ _) (Nat.min_le_right _ _) (fun j hj => h j (by omega) (by omega))]
  rcases Nat.lt_trichotomy l.length m.length with hlt | heq | hgt
  · have e1 : l.drop (min l.length m.length) = [] := List.drop_eq_nil_of_le (by omega)
    have hl : (m.drop (min l.length m.length)).length = m.length - min l.length m.length := List.length_drop
    rw [e1]
    cases hm : m.drop (min l.length m.length) with
    | nil => rw [hm] at hl; simp at hl; omega
    | cons b r => rw [cmpL, cmpI, if_neg (by omega), if_pos (by omega)]
  · have e1 : l.drop (min l.length m.length) = [] := List.drop_eq_nil_of_le (by omega)
    have e2 : m.drop (min l.length m.length) = [] := List.drop_eq_nil_of_le (by omega)
    rw [e1, e2, cmpL, cmpI, if_pos (by omega)]
  · have e2 : m.drop (min l.length m.length) = [] := List.drop_eq_nil_of_le (by omega)
    have hl : (l.drop (min l.length m.length)).length = l.length - min l.length m.length := List.length_drop
    rw [e2]
    cases hm : l.drop (min l.length m.length) with
    | nil => rw [hm] at hl; simp at hl; omega
    | cons b r => rw [cmpL, cmpI, if_neg (by omega), if_neg (by omega)]
/-- the order is a total one -/
theorem lessB_irr : ∀ l, lessB l l = false
  | [] => rfl
  | a :: l => by simp [lessB, lessB_irr l]
theorem lessB_total : ∀ l m, l ≠ m → lessB l m = false → lessB m l = true
  | [], [], h, _ => absurd rfl h
  | [], _ :: _, _, h => by simp [lessB] at h
  | _ :: _, [], _, _ => by simp [lessB]
  | a :: l, b :: m, hne, h => by
    simp only [lessB] at h ⊢
    by_cases e : a = b
    · subst e
      simp only [if_true] at h ⊢
      exact lessB_total l m (fun e => hne (by rw [e])) h
    · rw [if_neg e] at h
      rw [if_neg (fun e2 => e e2.symm)]
      simp only [decide_eq_false_iff_not, decide_eq_true_eq] at h ⊢
      have h1 : a.toNat ≠ b.toNat := fun e2 => e (UInt8.toNat_inj.1 e2)
      rw [UInt8.lt_iff_toNat_lt] at h ⊢
      omega
theorem lessB_asymm : ∀ l m, lessB l m = true → lessB m l = false
  | [], [], h => by simp [lessB] at h
  | [], _ :: _, _ => by simp [lessB]
  | _ :: _, [], h => by simp [lessB] at h
  | a :: l, b :: m, h => by
    simp only [lessB] at h ⊢
    by_cases e : a = b
    · subst e
      simp only [if_true] at h ⊢
      exact lessB_asymm l m h
    · rw [if_neg e] at h
      rw [if_neg (fun e2 => e e2.symm)]
      simp only [decide_eq_false_iff_not, decide_eq_true_eq] at h ⊢
      rw [UInt8.lt_iff_toNat_lt] at h ⊢
      omega
theorem lessB_trans : ∀ l m r, lessB l m = true → lessB m r = true → lessB l r = true
  | _, _, [], _, h => by simp [lessB] at h
  | [], _, _ :: _, _, _ => by simp [lessB]
  | _ :: _, [], _, h, _ => by simp [lessB] at h
  | a :: l, b :: m, c :: r, h1, h2 => by
    simp only [lessB] at h1 h2 ⊢
    by_cases e : a = b
    · subst e
      simp only [if_true] at h1
      by_cases e2 : a = c
      · subst e2
        simp only [if_true] at h2 ⊢
        exact lessB_trans l m r h1 h2
      · rw [if_neg e2] at h2 ⊢; exact h2
    · rw [if_neg e] at h1
      by_cases e2 : b = c
      · subst e2
        rw [if_neg e]; exact h1
      · rw [if_neg e2] at h2
        simp only [decide_eq_true_eq] at h1 h2
        rw [UInt8.lt_iff_toNat_lt] at h1 h2
        have : a ≠ c := fun e3 => by subst e3; omega
        rw [if_neg this]
        simp only [decide_eq_true_eq]
        rw [UInt8.lt_iff_toNat_lt]; omega
theorem cmpI_range (a b : Int) : -1 ≤ cmpI a b ∧ cmpI a b ≤ 1 := by unfold cmpI; split <;> (try split) <;> omega
theorem cmpB_range (a b : List UInt8) : -1 ≤ cmpB a b ∧ cmpB a b ≤ 1 := by unfold cmpB; split <;> (try split) <;> omega
theorem cmpI_swap (a b : Int) : cmpI b a = - cmpI a b := by unfold cmpI; (repeat' split) <;> omega
theorem cmpB_swap (a b : List UInt8) : cmpB b a = - cmpB a b := by
  unfold cmpB
  by_cases e : a = b
  · subst e; simp
  · rw [if_neg e, if_neg (fun e2 => e e2.symm)]
    cases h : lessB a b with
    | true => rw [lessB_asymm a b h]; simp
    | false => rw [lessB_total a b e h]; simp
theorem cmpI_zero {a b : Int} : cmpI a b = 0 ↔ a = b := by unfold cmpI; (repeat' split) <;> simp_all
theorem cmpB_zero {a b : List UInt8} : cmpB a b = 0 ↔ a = b := by unfold cmpB; (repeat' split) <;> simp_all
theorem cmp_range : ∀ t u, -1 ≤ cmp t u ∧ cmp t u ≤ 1 := by
  refine TermM.ind (fun o n s l ih u => ?_)
  rw [cmp_mk]
  have hL : ∀ l : List TermM, (∀ t ∈ l, ∀ u, -1 ≤ cmp t u ∧ cmp t u ≤ 1) → ∀ m, -1 ≤ cmpL l m ∧ cmpL l m ≤ 1 := by
    intro l
    induction l with
    | nil => intro _ m; cases m <;> simp [cmpL]
    | cons a l ihl =>
      intro h m
      cases m with
      | nil => simp [cmpL]
      | cons b m =>
        rw [cmpL]
        split
        · exact h a (by simp) b
        · exact ihl (fun t ht => h t (by simp [ht])) m
  split
  · exact cmpI_range _ _
  · split
    · exact cmpB_range _ _
    · split
      · exact cmpI_range _ _
      · exact hL l ih u.args
theorem cmp_swap : ∀ t u, cmp u t = - cmp t u := by
  refine TermM.ind (fun o n s l ih u => ?_)
  obtain ⟨o', n', s', m⟩ := u
  rw [cmp_mk2, cmp_mk2]
  rw [cmpI_swap o o', cmpB_swap n n', cmpI_swap s s']
  have hL : ∀ l : List TermM, (∀ t ∈ l, ∀ u, cmp u t = - cmp t u) → ∀ m, cmpL m l = - cmpL l m := by
    intro l
    induction l with
    | nil => intro _ m; cases m <;> simp [cmpL]
    | cons a l ihl =>
      intro h m
      cases m with
      | nil => simp [cmpL]
      | cons b m =>
        rw [cmpL, cmpL, h a (by simp) b, ihl (fun t ht => h t (by simp [ht])) m]
        by_cases e : cmp a b = 0
        · simp [e]
        · have : ¬ - cmp a b = 0 := by omega
          simp [e, this]
  rw [hL l ih m]
  by_cases h1 : cmpI o o' = 0
  · by_cases h2 : cmpB n n' = 0
    · by_cases h3 : cmpI s s' = 0
      · simp [h1, h2, h3]
      · have : ¬ - cmpI s s' = 0 := by omega
        simp [h1, h2, h3, this]
    · have : ¬ - cmpB n n' = 0 := by omega
      simp [h1, h2, this]
  · have : ¬ - cmpI o o' = 0 := by omega
    simp [h1, this]
theorem cmp_zero : ∀ t u, cmp t u = 0 ↔ t = u := by
  refine TermM.ind (fun o n s l ih u => ?_)
  obtain ⟨o', n', s', m⟩ := u
  rw [cmp_mk2]
  simp only [TermM.mk.injEq]
  have hL : ∀ l : List TermM, (∀ t ∈ l, ∀ u, cmp t u = 0 ↔ t = u) → ∀ m, cmpL l m = 0 ↔ l = m := by
    intro l
    induction l with
    | nil => intro _ m; cases m <;> simp [cmpL]
    | cons a l ihl =>
      intro h m
      cases m with
      | nil => simp [cmpL]
      | cons b m =>
        rw [cmpL, List.cons.injEq, ← h a (by simp) b, ← ihl (fun t ht => h t (by simp [ht])) m]
        by_cases e : cmp a b = 0 <;> simp [e]
  rw [← cmpI_zero (a := o), ← cmpB_zero (a := n), ← cmpI_zero (a := s), ← hL l ih m]
  by_cases h1 : cmpI o o' = 0
  · by_cases h2 : cmpB n n' = 0
    · by_cases h3 : cmpI s s' = 0
      · simp [h1, h2, h3]
      · simp [h1, h2, h3]
    · simp [h1, h2]
  · simp [h1]
theorem cmp_self (t : TermM) : cmp t t = 0 := (cmp_zero t t).2 rfl
/-- the order is transitive -/
theorem cmp_trans : ∀ t u v, cmp t u ≤ 0 → cmp u v ≤ 0 → cmp t v ≤ 0 := by
  have hI : ∀ a b c : Int, cmpI a b ≤ 0 → cmpI b c ≤ 0 → (cmpI a c ≤ 0 ∧ (cmpI a c = 0 → cmpI a b = 0 ∧ cmpI b c = 0)) := by
    intro a b c h1 h2
    unfold cmpI at *
    (repeat' split at h1) <;> (repeat' split at h2) <;> (repeat' split) <;> simp_all <;> omega
  have hB : ∀ a b c : List UInt8, cmpB a b ≤ 0 → cmpB b c ≤ 0 → (cmpB a c ≤ 0 ∧ (cmpB a c = 0 → cmpB a b = 0 ∧ cmpB b c = 0)) := by
    intro a b c h1 h2
    by_cases e1 : a = b
    · subst e1
      exact ⟨h2, fun h => ⟨by simp [cmpB], h⟩⟩
    · by_cases e2 : b = c
      · subst e2
        exact ⟨h1, fun h => ⟨h, by simp [cmpB]⟩⟩
      · have l1 : lessB a b = true := by
          unfold cmpB at h1; rw [if_neg e1] at h1
          cases h : lessB a b with
          | true => rfl
          | false => simp [h] at h1
        have l2 : lessB b c = true := by
          unfold cmpB at h2; rw [if_neg e2] at h2
          cases h : lessB b c with
          | true => rfl
          | false => simp [h] at h2
        have l3 := lessB_trans a b c l1 l2
        have e3 : a ≠ c := fun e => by subst e; rw [lessB_irr] at l3; cases l3
        have : cmpB a c = -1 := by rw [cmpB, if_neg e3, if_pos l3]
        exact ⟨by omega, fun h => by omega⟩
  refine TermM.ind (fun o n s l ih u v => ?_)
  obtain ⟨o2, n2, s2, m⟩ := u
  obtain ⟨o3, n3, s3, r⟩ := v
  rw [cmp_mk2, cmp_mk2, cmp_mk2]
  have hL : ∀ l : List TermM, (∀ t ∈ l, ∀ u v, cmp t u ≤ 0 → cmp u v ≤ 0 → cmp t v ≤ 0) → ∀ m r, cmpL l m ≤ 0 → cmpL m r ≤ 0 → cmpL l r ≤ 0 := by
    intro l
    induction l with
    | nil => intro _ m r _ _; cases r <;> simp [cmpL]
    | cons a l ihl =>
      intro h m r h1 h2
      cases m with
      | nil => simp [cmpL] at h1
      | cons b m =>
        cases r with
        | nil => simp [cmpL] at h2
        | cons c r =>
          rw [cmpL] at h1 h2 ⊢
          have hab : cmp a b ≤ 0 := by
            by_cases e : cmp a b = 0
            · omega
            · simpa [e] using h1
          have hbc : cmp b c ≤ 0 := by
            by_cases e : cmp b c = 0
            · omega
            · simpa [e] using h2
          have hac := h a (by simp) b c hab hbc
          by_cases e : cmp a c = 0
          · have eac := (cmp_zero a c).1 e
            have e1 : cmp a b = 0 := by
              have := cmp_swap b c
              rw [← eac] at this hbc
              have := cmp_swap a b
              omega
            have e2 : cmp b c = 0 := by
              rw [← eac, cmp_swap a b, e1]; rfl
            simp only [e1, e2, ne_eq, not_true_eq_false, if_false] at h1 h2
            simp only [e, ne_eq, not_true_eq_false, if_false]
            exact ihl (fun t ht => h t (by simp [ht])) m r h1 h2
          · simp only [e, ne_eq, not_false_eq_true, if_true]; exact hac
  intro h1 h2
  have k1 : cmpI o o2 ≤ 0 := by
    by_cases e : cmpI o o2 = 0
    · omega
    · simpa [e] using h1
  have k2 : cmpI o2 o3 ≤ 0 := by
    by_cases e : cmpI o2 o3 = 0
    · omega
    · simpa [e] using h2
  obtain ⟨k3, k4⟩ := hI o o2 o3 k1 k2
  by_cases e : cmpI o o3 = 0
  · obtain ⟨z1, z2⟩ := k4 e
    simp only [z1, z2, e, ne_eq, not_true_eq_false, if_false] at h1 h2 ⊢
    have q1 : cmpB n n2 ≤ 0 := by
      by_cases e : cmpB n n2 = 0
      · omega
      · simpa [e] using h1
    have q2 : cmpB n2 n3 ≤ 0 := by
      by_cases e : cmpB n2 n3 = 0
      · omega
      · simpa [e] using h2
    obtain ⟨q3, q4⟩ := hB n n2 n3 q1 q2
    by_cases e : cmpB n n3 = 0
    · obtain ⟨z1, z2⟩ := q4 e
      simp only [z1, z2, e, not_true_eq_false, if_false] at h1 h2 ⊢
      have r1 : cmpI s s2 ≤ 0 := by
        by_cases e : cmpI s s2 = 0
        · omega
        · simpa [e] using h1
      have r2 : cmpI s2 s3 ≤ 0 := by
        by_cases e : cmpI s2 s3 = 0
        · omega
        · simpa [e] using h2
      obtain ⟨r3, r4⟩ := hI s s2 s3 r1 r2
      by_cases e : cmpI s s3 = 0
      · obtain ⟨z1, z2⟩ := r4 e
        simp only [z1, z2, e, not_true_eq_false, if_false] at h1 h2 ⊢
        exact hL l ih m r h1 h2
      · simp only [e, not_false_eq_true, if_true]; exact r3
    · simp only [e, not_false_eq_true, if_true]; exact q3
  · simp only [e, ne_eq, not_false_eq_true, if_true]; exact k3
end Go.Proofs.Ytiilamngcoegiaa.trm
