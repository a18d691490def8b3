/-
  Trm, Trmv, Terml, Termb, Termt, Termu, Termw, Termx, merged.
-/
import Derived.Test.YtjejdcehlckfhaaGreatMem
import Derived.Test.YtjejdcehlckfhaaGreatRowl
import Derived.Test.YtjejdcehlckfhaaGreatIntl
import Derived.Deep.AppendLies
import Derived.Deep.Quiet
import Derived.Lib.QuietBelow
import Derived.Test.YtjejdcehlckfhaaGreatStrl
import Derived.Deep.RegionHeld3
import Derived.Deep.LoopGhost
import Derived.BigQuiet
import Derived.Deep.RegionLaw
/-
  PLAIN MATHEMATICS OF TERMS: trees, their order, their variables, lists of them. No program.
-/
namespace Go.Proofs.YtjejdcehlckfhaaGreat.trm

/-- a term: the operator (-1: a variable), the name, the sort, the arguments -/
inductive TermM where
  | mk (op : Int) (name : List UInt8) (sort : Int) (args : List TermM)
instance : Inhabited TermM := ⟨.mk 0 [] 0 []⟩
def TermM.op : TermM → Int | .mk o _ _ _ => o
def TermM.name : TermM → List UInt8 | .mk _ n _ _ => n
def TermM.sort : TermM → Int | .mk _ _ s _ => s
def TermM.args : TermM → List TermM | .mk _ _ _ l => l
theorem TermM.eta (t : TermM) : TermM.mk t.op t.name t.sort t.args = t := by cases t; rfl
/-- induction over the arguments -/
theorem TermM.ind {P : TermM → Prop} (h : ∀ o n s l, (∀ t ∈ l, P t) → P (.mk o n s l)) : ∀ t, P t :=
  fun t => TermM.rec (motive_1 := P) (motive_2 := fun l => ∀ t ∈ l, P t) h (fun t ht => by simp at ht) (fun a l ha hl t ht => by
    rcases List.mem_cons.1 ht with rfl | ht
    · exact ha
    · exact hl t ht) t

/-- the number of nodes -/
noncomputable def size (t : TermM) : Nat := TermM.rec (motive_1 := fun _ => Nat) (motive_2 := fun _ => Nat) (fun _ _ _ _ k => 1 + k) 0 (fun _ _ a b => a + b) t
noncomputable def sizes (l : List TermM) : Nat := (l.map size).sum
theorem size_mk (o : Int) (n : List UInt8) (s : Int) (l : List TermM) : size (.mk o n s l) = 1 + sizes l := by
  have : ∀ l : List TermM, (TermM.rec_1 (motive_1 := fun _ => Nat) (motive_2 := fun _ => Nat) (fun _ _ _ _ k => 1 + k) 0 (fun _ _ a b => a + b) l : Nat) = sizes l := by
    intro l
    induction l with
    | nil => rfl
    | cons a l ih => simp only [sizes, List.map_cons, List.sum_cons]; rw [sizes] at ih; rw [← ih]; rfl
  show 1 + _ = _
  rw [this]
/-- the depth -/
noncomputable def depth (t : TermM) : Nat := TermM.rec (motive_1 := fun _ => Nat) (motive_2 := fun _ => Nat) (fun _ _ _ _ k => k + 1) 0 (fun _ _ a b => max a b) t
noncomputable def depths (l : List TermM) : Nat := l.foldr (fun t k => max (depth t) k) 0
theorem depth_mk (o : Int) (n : List UInt8) (s : Int) (l : List TermM) : depth (.mk o n s l) = depths l + 1 := by
  have : ∀ l : List TermM, (TermM.rec_1 (motive_1 := fun _ => Nat) (motive_2 := fun _ => Nat) (fun _ _ _ _ k => k + 1) 0 (fun _ _ a b => max a b) l : Nat) = depths l := by
    intro l
    induction l with
    | nil => rfl
    | cons a l ih => simp only [depths, List.foldr_cons]; rw [depths] at ih; rw [← ih]; rfl
  show _ + 1 = _
  rw [this]

/-- the order of byte strings: 'less' as Go compares -/
def lessB : List UInt8 → List UInt8 → Bool
  | _, [] => false
  | [], _ :: _ => true
  | a :: l, b :: m => if a = b then lessB l m else decide (a < b)
def cmpB (a b : List UInt8) : Int := if a = b then 0 else if lessB a b then -1 else 1
def cmpI (a b : Int) : Int := if a = b then 0 else if a < b then -1 else 1
/-- the order of terms -/
noncomputable def cmp (t : TermM) : TermM → Int :=
  TermM.rec (motive_1 := fun _ => TermM → Int) (motive_2 := fun _ => List TermM → Int)
    (fun o n s _ f u => if cmpI o u.op ≠ 0 then cmpI o u.op else if cmpB n u.name ≠ 0 then cmpB n u.name else if cmpI s u.sort ≠ 0 then cmpI s u.sort else f u.args)
    (fun m => match m with | [] => 0 | _ :: _ => -1)
    (fun _ _ fa fl m => match m with | [] => 1 | b :: m => if fa b ≠ 0 then fa b else fl m) t
/-- lexicographic, a proper prefix first -/
noncomputable def cmpL : List TermM → List TermM → Int
  | [], [] => 0
  | [], _ :: _ => -1
  | _ :: _, [] => 1
  | a :: l, b :: m => if cmp a b ≠ 0 then cmp a b else cmpL l m
theorem cmp_mk (o : Int) (n : List UInt8) (s : Int) (l : List TermM) (u : TermM) :
    cmp (.mk o n s l) u = if cmpI o u.op ≠ 0 then cmpI o u.op else if cmpB n u.name ≠ 0 then cmpB n u.name else if cmpI s u.sort ≠ 0 then cmpI s u.sort else cmpL l u.args := by
  have : ∀ (l m : List TermM), (TermM.rec_1 (motive_1 := fun _ => TermM → Int) (motive_2 := fun _ => List TermM → Int)
      (fun o n s _ f u => if cmpI o u.op ≠ 0 then cmpI o u.op else if cmpB n u.name ≠ 0 then cmpB n u.name else if cmpI s u.sort ≠ 0 then cmpI s u.sort else f u.args)
      (fun m => match m with | [] => 0 | _ :: _ => -1)
      (fun _ _ fa fl m => match m with | [] => 1 | b :: m => if fa b ≠ 0 then fa b else fl m) l : List TermM → Int) m = cmpL l m := by
    intro l
    induction l with
    | nil => intro m; cases m <;> rfl
    | cons a l ih =>
      intro m
      cases m with
      | nil => rfl
      | cons b m => rw [cmpL, ← ih m]; rfl
  rw [← this]
  rfl
theorem cmp_mk2 (o : Int) (n : List UInt8) (s : Int) (l : List TermM) (o' : Int) (n' : List UInt8) (s' : Int) (m : List TermM) :
    cmp (.mk o n s l) (.mk o' n' s' m) = if cmpI o o' ≠ 0 then cmpI o o' else if cmpB n n' ≠ 0 then cmpB n n' else if cmpI s s' ≠ 0 then cmpI s s' else cmpL l m := cmp_mk o n s l _
/-- of one list what the loop has compared: the first k are equal -/
theorem cmpL_skip : ∀ (k : Nat) (l m : List TermM), k ≤ l.length → k ≤ m.length → (∀ j, j < k → cmp (l.getD j default) (m.getD j default) = 0) → cmpL l m = cmpL (l.drop k) (m.drop k)
  | 0, _, _, _, _, _ => by simp
  | k + 1, [], _, h, _, _ => by simp at h
  | k + 1, _ :: _, [], _, h, _ => by simp at h
  | k + 1, a :: l, b :: m, h1, h2, h => by
    have h0 : cmp a b = 0 := by simpa using h 0 (by omega)
    rw [cmpL, if_neg (by simp [h0]), List.drop_succ_cons, List.drop_succ_cons]
    exact cmpL_skip k l m (by simpa using h1) (by simpa using h2) (fun j hj => by simpa using h (j + 1) (by omega))
theorem cmpL_hit {l m : List TermM} {k : Nat} (h1 : k < l.length) (h2 : k < m.length) (h : ∀ j, j < k → cmp (l.getD j default) (m.getD j default) = 0) (hk : cmp (l.getD k default) (m.getD k default) ≠ 0) : cmpL l m = cmp (l.getD k default) (m.getD k default) := by
  rw [cmpL_skip k l m (by omega) (by omega) h, List.drop_eq_getElem_cons h1, List.drop_eq_getElem_cons h2, cmpL]
  have e1 : l.getD k default = l[k] := by simp [List.getD, List.getElem?_eq_getElem h1]
  have e2 : m.getD k default = m[k] := by simp [List.getD, List.getElem?_eq_getElem h2]
  rw [e1, e2] at hk ⊢
  rw [if_pos hk]
theorem cmpL_end {l m : List TermM} (h : ∀ j, j < l.length → j < m.length → cmp (l.getD j default) (m.getD j default) = 0) : cmpL l m = cmpI l.length m.length := by
  rw [cmpL_skip (min l.length m.length) l m (Nat.min_le_left _ _) (Nat.min_le_right _ _) (fun j hj => h j (by omega) (by omega))]
  rcases Nat.lt_trichotomy l.length m.length with hlt | heq | hgt
  · have e1 : l.drop (min l.length m.length) = [] := List.drop_eq_nil_of_le (by omega)
    have hl : (m.drop (min l.length m.length)).length = m.length - min l.length m.length := List.length_drop
    rw [e1]
    cases hm : m.drop (min l.length m.length) with
    | nil => rw [hm] at hl; simp at hl; omega
    | cons b r => rw [cmpL, cmpI, if_neg (by omega), if_pos (by omega)]
  · have e1 : l.drop (min l.length m.length) = [] := List.drop_eq_nil_of_le (by omega)
    have e2 : m.drop (min l.length m.length) = [] := List.drop_eq_nil_of_le (by omega)
    rw [e1, e2, cmpL, cmpI, if_pos (by omega)]
  · have e2 : m.drop (min l.length m.length) = [] := List.drop_eq_nil_of_le (by omega)
    have hl : (l.drop (min l.length m.length)).length = l.length - min l.length m.length := List.length_drop
    rw [e2]
    cases hm : l.drop (min l.length m.length) with
    | nil => rw [hm] at hl; simp at hl; omega
    | cons b r => rw [cmpL, cmpI, if_neg (by omega), if_neg (by omega)]
/-- the order is a total one -/
theorem lessB_irr : ∀ l, lessB l l = false
  | [] => rfl
  | a :: l => by simp [lessB, lessB_irr l]
theorem lessB_total : ∀ l m, l ≠ m → lessB l m = false → lessB m l = true
  | [], [], h, _ => absurd rfl h
  | [], _ :: _, _, h => by simp [lessB] at h
  | _ :: _, [], _, _ => by simp [lessB]
  | a :: l, b :: m, hne, h => by
    simp only [lessB] at h ⊢
    by_cases e : a = b
    · subst e
      simp only [if_true] at h ⊢
      exact lessB_total l m (fun e => hne (by rw [e])) h
    · rw [if_neg e] at h
      rw [if_neg (fun e2 => e e2.symm)]
      simp only [decide_eq_false_iff_not, decide_eq_true_eq] at h ⊢
      have h1 : a.toNat ≠ b.toNat := fun e2 => e (UInt8.toNat_inj.1 e2)
      rw [UInt8.lt_iff_toNat_lt] at h ⊢
      omega
theorem lessB_asymm : ∀ l m, lessB l m = true → lessB m l = false
  | [], [], h => by simp [lessB] at h
  | [], _ :: _, _ => by simp [lessB]
  | _ :: _, [], h => by simp [lessB] at h
  | a :: l, b :: m, h => by
    simp only [lessB] at h ⊢
    by_cases e : a = b
    · subst e
      simp only [if_true] at h ⊢
      exact lessB_asymm l m h
    · rw [if_neg e] at h
      rw [if_neg (fun e2 => e e2.symm)]
      simp only [decide_eq_false_iff_not, decide_eq_true_eq] at h ⊢
      rw [UInt8.lt_iff_toNat_lt] at h ⊢
      omega
theorem lessB_trans : ∀ l m r, lessB l m = true → lessB m r = true → lessB l r = true
  | _, _, [], _, h => by simp [lessB] at h
  | [], _, _ :: _, _, _ => by simp [lessB]
  | _ :: _, [], _, h, _ => by simp [lessB] at h
  | a :: l, b :: m, c :: r, h1, h2 => by
    simp only [lessB] at h1 h2 ⊢
    by_cases e : a = b
    · subst e
      simp only [if_true] at h1
      by_cases e2 : a = c
      · subst e2
        simp only [if_true] at h2 ⊢
        exact lessB_trans l m r h1 h2
      · rw [if_neg e2] at h2 ⊢; exact h2
    · rw [if_neg e] at h1
      by_cases e2 : b = c
      · subst e2
        rw [if_neg e]; exact h1
      · rw [if_neg e2] at h2
        simp only [decide_eq_true_eq] at h1 h2
        rw [UInt8.lt_iff_toNat_lt] at h1 h2
        have : a ≠ c := fun e3 => by subst e3; omega
        rw [if_neg this]
        simp only [decide_eq_true_eq]
        rw [UInt8.lt_iff_toNat_lt]; omega
theorem cmpI_range (a b : Int) : -1 ≤ cmpI a b ∧ cmpI a b ≤ 1 := by unfold cmpI; split <;> (try split) <;> omega
theorem cmpB_range (a b : List UInt8) : -1 ≤ cmpB a b ∧ cmpB a b ≤ 1 := by unfold cmpB; split <;> (try split) <;> omega
theorem cmpI_swap (a b : Int) : cmpI b a = - cmpI a b := by unfold cmpI; (repeat' split) <;> omega
theorem cmpB_swap (a b : List UInt8) : cmpB b a = - cmpB a b := by
  unfold cmpB
  by_cases e : a = b
  · subst e; simp
  · rw [if_neg e, if_neg (fun e2 => e e2.symm)]
    cases h : lessB a b with
    | true => rw [lessB_asymm a b h]; simp
    | false => rw [lessB_total a b e h]; simp
theorem cmpI_zero {a b : Int} : cmpI a b = 0 ↔ a = b := by unfold cmpI; (repeat' split) <;> simp_all
theorem cmpB_zero {a b : List UInt8} : cmpB a b = 0 ↔ a = b := by unfold cmpB; (repeat' split) <;> simp_all
theorem cmp_range : ∀ t u, -1 ≤ cmp t u ∧ cmp t u ≤ 1 := by
  refine TermM.ind (fun o n s l ih u => ?_)
  rw [cmp_mk]
  have hL : ∀ l : List TermM, (∀ t ∈ l, ∀ u, -1 ≤ cmp t u ∧ cmp t u ≤ 1) → ∀ m, -1 ≤ cmpL l m ∧ cmpL l m ≤ 1 := by
    intro l
    induction l with
    | nil => intro _ m; cases m <;> simp [cmpL]
    | cons a l ihl =>
      intro h m
      cases m with
      | nil => simp [cmpL]
      | cons b m =>
        rw [cmpL]
        split
        · exact h a (by simp) b
        · exact ihl (fun t ht => h t (by simp [ht])) m
  split
  · exact cmpI_range _ _
  · split
    · exact cmpB_range _ _
    · split
      · exact cmpI_range _ _
      · exact hL l ih u.args
theorem cmp_swap : ∀ t u, cmp u t = - cmp t u := by
  refine TermM.ind (fun o n s l ih u => ?_)
  obtain ⟨o', n', s', m⟩ := u
  rw [cmp_mk2, cmp_mk2]
  rw [cmpI_swap o o', cmpB_swap n n', cmpI_swap s s']
  have hL : ∀ l : List TermM, (∀ t ∈ l, ∀ u, cmp u t = - cmp t u) → ∀ m, cmpL m l = - cmpL l m := by
    intro l
    induction l with
    | nil => intro _ m; cases m <;> simp [cmpL]
    | cons a l ihl =>
      intro h m
      cases m with
      | nil => simp [cmpL]
      | cons b m =>
        rw [cmpL, cmpL, h a (by simp) b, ihl (fun t ht => h t (by simp [ht])) m]
        by_cases e : cmp a b = 0
        · simp [e]
        · have : ¬ - cmp a b = 0 := by omega
          simp [e, this]
  rw [hL l ih m]
  by_cases h1 : cmpI o o' = 0
  · by_cases h2 : cmpB n n' = 0
    · by_cases h3 : cmpI s s' = 0
      · simp [h1, h2, h3]
      · have : ¬ - cmpI s s' = 0 := by omega
        simp [h1, h2, h3, this]
    · have : ¬ - cmpB n n' = 0 := by omega
      simp [h1, h2, this]
  · have : ¬ - cmpI o o' = 0 := by omega
    simp [h1, this]
theorem cmp_zero : ∀ t u, cmp t u = 0 ↔ t = u := by
  refine TermM.ind (fun o n s l ih u => ?_)
  obtain ⟨o', n', s', m⟩ := u
  rw [cmp_mk2]
  simp only [TermM.mk.injEq]
  have hL : ∀ l : List TermM, (∀ t ∈ l, ∀ u, cmp t u = 0 ↔ t = u) → ∀ m, cmpL l m = 0 ↔ l = m := by
    intro l
    induction l with
    | nil => intro _ m; cases m <;> simp [cmpL]
    | cons a l ihl =>
      intro h m
      cases m with
      | nil => simp [cmpL]
      | cons b m =>
        rw [cmpL, List.cons.injEq, ← h a (by simp) b, ← ihl (fun t ht => h t (by simp [ht])) m]
        by_cases e : cmp a b = 0 <;> simp [e]
  rw [← cmpI_zero (a := o), ← cmpB_zero (a := n), ← cmpI_zero (a := s), ← hL l ih m]
  by_cases h1 : cmpI o o' = 0
  · by_cases h2 : cmpB n n' = 0
    · by_cases h3 : cmpI s s' = 0
      · simp [h1, h2, h3]
      · simp [h1, h2, h3]
    · simp [h1, h2]
  · simp [h1]
theorem cmp_self (t : TermM) : cmp t t = 0 := (cmp_zero t t).2 rfl
/-- the order is transitive -/
theorem cmp_trans : ∀ t u v, cmp t u ≤ 0 → cmp u v ≤ 0 → cmp t v ≤ 0 := by
  have hI : ∀ a b c : Int, cmpI a b ≤ 0 → cmpI b c ≤ 0 → (cmpI a c ≤ 0 ∧ (cmpI a c = 0 → cmpI a b = 0 ∧ cmpI b c = 0)) := by
    intro a b c h1 h2
    unfold cmpI at *
    (repeat' split at h1) <;> (repeat' split at h2) <;> (repeat' split) <;> simp_all <;> omega
  have hB : ∀ a b c : List UInt8, cmpB a b ≤ 0 → cmpB b c ≤ 0 → (cmpB a c ≤ 0 ∧ (cmpB a c = 0 → cmpB a b = 0 ∧ cmpB b c = 0)) := by
    intro a b c h1 h2
    by_cases e1 : a = b
    · subst e1
      exact ⟨h2, fun h => ⟨by simp [cmpB], h⟩⟩
    · by_cases e2 : b = c
      · subst e2
        exact ⟨h1, fun h => ⟨h, by simp [cmpB]⟩⟩
      · have l1 : lessB a b = true := by
          unfold cmpB at h1; rw [if_neg e1] at h1
          cases h : lessB a b with
          | true => rfl
          | false => simp [h] at h1
        have l2 : lessB b c = true := by
          unfold cmpB at h2; rw [if_neg e2] at h2
          cases h : lessB b c with
          | true => rfl
          | false => simp [h] at h2
        have l3 := lessB_trans a b c l1 l2
        have e3 : a ≠ c := fun e => by subst e; rw [lessB_irr] at l3; cases l3
        have : cmpB a c = -1 := by rw [cmpB, if_neg e3, if_pos l3]
        exact ⟨by omega, fun h => by omega⟩
  refine TermM.ind (fun o n s l ih u v => ?_)
  obtain ⟨o2, n2, s2, m⟩ := u
  obtain ⟨o3, n3, s3, r⟩ := v
  rw [cmp_mk2, cmp_mk2, cmp_mk2]
  have hL : ∀ l : List TermM, (∀ t ∈ l, ∀ u v, cmp t u ≤ 0 → cmp u v ≤ 0 → cmp t v ≤ 0) → ∀ m r, cmpL l m ≤ 0 → cmpL m r ≤ 0 → cmpL l r ≤ 0 := by
    intro l
    induction l with
    | nil => intro _ m r _ _; cases r <;> simp [cmpL]
    | cons a l ihl =>
      intro h m r h1 h2
      cases m with
      | nil => simp [cmpL] at h1
      | cons b m =>
        cases r with
        | nil => simp [cmpL] at h2
        | cons c r =>
          rw [cmpL] at h1 h2 ⊢
          have hab : cmp a b ≤ 0 := by
            by_cases e : cmp a b = 0
            · omega
            · simpa [e] using h1
          have hbc : cmp b c ≤ 0 := by
            by_cases e : cmp b c = 0
            · omega
            · simpa [e] using h2
          have hac := h a (by simp) b c hab hbc
          by_cases e : cmp a c = 0
          · have eac := (cmp_zero a c).1 e
            have e1 : cmp a b = 0 := by
              have := cmp_swap b c
              rw [← eac] at this hbc
              have := cmp_swap a b
              omega
            have e2 : cmp b c = 0 := by
              rw [← eac, cmp_swap a b, e1]; rfl
            simp only [e1, e2, ne_eq, not_true_eq_false, if_false] at h1 h2
            simp only [e, ne_eq, not_true_eq_false, if_false]
            exact ihl (fun t ht => h t (by simp [ht])) m r h1 h2
          · simp only [e, ne_eq, not_false_eq_true, if_true]; exact hac
  intro h1 h2
  have k1 : cmpI o o2 ≤ 0 := by
    by_cases e : cmpI o o2 = 0
    · omega
    · simpa [e] using h1
  have k2 : cmpI o2 o3 ≤ 0 := by
    by_cases e : cmpI o2 o3 = 0
    · omega
    · simpa [e] using h2
  obtain ⟨k3, k4⟩ := hI o o2 o3 k1 k2
  by_cases e : cmpI o o3 = 0
  · obtain ⟨z1, z2⟩ := k4 e
    simp only [z1, z2, e, ne_eq, not_true_eq_false, if_false] at h1 h2 ⊢
    have q1 : cmpB n n2 ≤ 0 := by
      by_cases e : cmpB n n2 = 0
      · omega
      · simpa [e] using h1
    have q2 : cmpB n2 n3 ≤ 0 := by
      by_cases e : cmpB n2 n3 = 0
      · omega
      · simpa [e] using h2
    obtain ⟨q3, q4⟩ := hB n n2 n3 q1 q2
    by_cases e : cmpB n n3 = 0
    · obtain ⟨z1, z2⟩ := q4 e
      simp only [z1, z2, e, not_true_eq_false, if_false] at h1 h2 ⊢
      have r1 : cmpI s s2 ≤ 0 := by
        by_cases e : cmpI s s2 = 0
        · omega
        · simpa [e] using h1
      have r2 : cmpI s2 s3 ≤ 0 := by
        by_cases e : cmpI s2 s3 = 0
        · omega
        · simpa [e] using h2
      obtain ⟨r3, r4⟩ := hI s s2 s3 r1 r2
      by_cases e : cmpI s s3 = 0
      · obtain ⟨z1, z2⟩ := r4 e
        simp only [z1, z2, e, not_true_eq_false, if_false] at h1 h2 ⊢
        exact hL l ih m r h1 h2
      · simp only [e, not_false_eq_true, if_true]; exact r3
    · simp only [e, not_false_eq_true, if_true]; exact q3
  · simp only [e, ne_eq, not_false_eq_true, if_true]; exact k3
end Go.Proofs.YtjejdcehlckfhaaGreat.trm
/-
  PLAIN MATHEMATICS OF TERMS: variables, occurrences, sorted lists. No program.
-/
namespace Go.Proofs.YtjejdcehlckfhaaGreat.trmv
open trm

theorem getD_at {l : List TermM} {k : Nat} (h : k < l.length) : l.getD k default = l[k] := by simp [List.getD, List.getElem?_eq_getElem h]
def var (n : List UInt8) (s : Int) : TermM := .mk (-1) n s []
/-- into an ascending list, once -/
noncomputable def insT : List TermM → TermM → List TermM
  | [], t => [t]
  | a :: l, t => if cmp a t < 0 then a :: insT l t else if cmp a t = 0 then a :: l else t :: a :: l
theorem insT_at : ∀ (k : Nat) (l : List TermM) (t : TermM), k ≤ l.length → (∀ j, j < k → cmp (l.getD j default) t < 0) → (k < l.length → ¬ cmp (l.getD k default) t < 0) →
    insT l t = if k < l.length ∧ cmp (l.getD k default) t = 0 then l else l.take k ++ t :: l.drop k
  | 0, [], t, _, _, _ => by simp [insT]
  | 0, a :: l, t, _, _, h => by
    have h0 : ¬ cmp a t < 0 := by simpa using h (by simp)
    rw [insT, if_neg h0]
    simp
  | k + 1, [], t, h, _, _ => by simp at h
  | k + 1, a :: l, t, h1, h2, h3 => by
    have h0 : cmp a t < 0 := by simpa using h2 0 (by omega)
    rw [insT, if_pos h0, insT_at k l t (by simpa using h1) (fun j hj => by simpa using h2 (j + 1) (by omega)) (fun hk => by simpa using h3 (by simpa using hk))]
    have e : (k + 1 < (a :: l).length ∧ cmp ((a :: l).getD (k + 1) default) t = 0) ↔ (k < l.length ∧ cmp (l.getD k default) t = 0) := by simp
    by_cases hc : k < l.length ∧ cmp (l.getD k default) t = 0
    · rw [if_pos hc, if_pos (e.2 hc)]
    · rw [if_neg hc, if_neg (fun h => hc (e.1 h))]; simp
/-- strictly ascending -/
def Asc (l : List TermM) : Prop := l.Pairwise fun a b => cmp a b < 0
theorem cmp_lt_trans {a b c : TermM} (h1 : cmp a b < 0) (h2 : cmp b c < 0) : cmp a c < 0 := by
  have h := cmp_trans a b c (by omega) (by omega)
  have hne : cmp a c ≠ 0 := fun e => by
    have e2 := (cmp_zero a c).1 e
    subst e2
    have := cmp_swap a b
    omega
  omega
theorem mem_insT {x : TermM} : ∀ (l : List TermM) (t : TermM), x ∈ insT l t ↔ x = t ∨ x ∈ l
  | [], t => by simp [insT]
  | a :: l, t => by
    rw [insT]
    split
    · rw [List.mem_cons, mem_insT l t, List.mem_cons]
      constructor
      · rintro (h | h | h)
        · exact .inr (.inl h)
        · exact .inl h
        · exact .inr (.inr h)
      · rintro (h | h | h)
        · exact .inr (.inl h)
        · exact .inl h
        · exact .inr (.inr h)
    · split
      · rename_i h1 h2
        have e := (cmp_zero a t).1 h2
        subst e
        simp
      · simp
theorem asc_insT : ∀ (l : List TermM) (t : TermM), Asc l → Asc (insT l t)
  | [], t, _ => by simp [insT, Asc]
  | a :: l, t, h => by
    obtain ⟨h1, h2⟩ := List.pairwise_cons.1 h
    rw [insT]
    split
    · rename_i h3
      refine List.pairwise_cons.2 ⟨fun b hb => ?_, asc_insT l t h2⟩
      rcases (mem_insT l t).1 hb with rfl | hb
      · exact h3
      · exact h1 b hb
    · split
      · exact h
      · rename_i h3 h4
        have hta : cmp t a < 0 := by have := cmp_swap a t; omega
        refine List.pairwise_cons.2 ⟨fun b hb => ?_, h⟩
        rcases List.mem_cons.1 hb with rfl | hb
        · exact hta
        · exact cmp_lt_trans hta (h1 b hb)
/-- ascending lists with the same elements are the same -/
theorem asc_unique : ∀ (l m : List TermM), Asc l → Asc m → (∀ x, x ∈ l ↔ x ∈ m) → l = m
  | [], [], _, _, _ => rfl
  | [], b :: m, _, _, h => absurd ((h b).2 (by simp)) (by simp)
  | a :: l, [], _, _, h => absurd ((h a).1 (by simp)) (by simp)
  | a :: l, b :: m, hl, hm, h => by
    obtain ⟨l1, l2⟩ := List.pairwise_cons.1 hl
    obtain ⟨m1, m2⟩ := List.pairwise_cons.1 hm
    have hab : a = b := by
      rcases List.mem_cons.1 ((h a).1 (by simp)) with e | ha
      · exact e
      · rcases List.mem_cons.1 ((h b).2 (by simp)) with e | hb
        · exact e.symm
        · have h1 := m1 a ha
          have h2 := l1 b hb
          have := cmp_swap a b
          omega
    subst hab
    have ha : ∀ x, x ∈ l → x ≠ a := fun x hx e => by subst e; have := l1 _ hx; rw [cmp_self] at this; omega
    have hb : ∀ x, x ∈ m → x ≠ a := fun x hx e => by subst e; have := m1 _ hx; rw [cmp_self] at this; omega
    rw [asc_unique l m l2 m2 (fun x => ?_)]
    constructor
    · intro hx
      rcases List.mem_cons.1 ((h x).1 (List.mem_cons_of_mem _ hx)) with e | e
      · exact absurd e (ha x hx)
      · exact e
    · intro hx
      rcases List.mem_cons.1 ((h x).2 (List.mem_cons_of_mem _ hx)) with e | e
      · exact absurd e (hb x hx)
      · exact e

/-- the variables, gathered into a list -/
noncomputable def colT (t : TermM) : List TermM → List TermM :=
  TermM.rec (motive_1 := fun _ => List TermM → List TermM) (motive_2 := fun _ => List TermM → List TermM)
    (fun o n s _ f acc => if o = -1 then insT acc (var n s) else f acc) (fun acc => acc) (fun _ _ fa fl acc => fl (fa acc)) t
noncomputable def cols (l : List TermM) (acc : List TermM) : List TermM := l.foldl (fun acc a => colT a acc) acc
theorem colT_mk (o : Int) (n : List UInt8) (s : Int) (l acc : List TermM) : colT (.mk o n s l) acc = if o = -1 then insT acc (var n s) else cols l acc := by
  have : ∀ (l acc : List TermM), (TermM.rec_1 (motive_1 := fun _ => List TermM → List TermM) (motive_2 := fun _ => List TermM → List TermM)
      (fun o n s _ f acc => if o = -1 then insT acc (var n s) else f acc) (fun acc => acc) (fun _ _ fa fl acc => fl (fa acc)) l : List TermM → List TermM) acc = cols l acc := by
    intro l
    induction l with
    | nil => intro acc; rfl
    | cons a l ih => intro acc; rw [cols, List.foldl_cons]; exact ih (colT a acc)
  rw [← this]
  rfl
theorem cols_nil (acc : List TermM) : cols [] acc = acc := rfl
theorem cols_take (l : List TermM) (acc : List TermM) (k : Nat) (h : k < l.length) : cols (l.take (k + 1)) acc = colT (l.getD k default) (cols (l.take k) acc) := by
  rw [cols, List.take_succ_eq_append_getElem h, List.foldl_append, getD_at h]
  rfl
noncomputable def varsT (t : TermM) : List TermM := colT t []
/-- x is a variable of t -/
def vin (x : TermM) (t : TermM) : Prop :=
  TermM.rec (motive_1 := fun _ => Prop) (motive_2 := fun _ => Prop) (fun o n s _ p => (o = -1 ∧ x = var n s) ∨ (o ≠ -1 ∧ p)) False (fun _ _ p q => p ∨ q) t
theorem vin_mk (x : TermM) (o : Int) (n : List UInt8) (s : Int) (l : List TermM) : vin x (.mk o n s l) ↔ (o = -1 ∧ x = var n s) ∨ (o ≠ -1 ∧ ∃ a ∈ l, vin x a) := by
  have : ∀ l : List TermM, (TermM.rec_1 (motive_1 := fun _ => Prop) (motive_2 := fun _ => Prop) (fun o n s _ p => (o = -1 ∧ x = var n s) ∨ (o ≠ -1 ∧ p)) False (fun _ _ p q => p ∨ q) l : Prop) ↔ ∃ a ∈ l, vin x a := by
    intro l
    induction l with
    | nil => simp
    | cons a l ih =>
      simp only [List.mem_cons, exists_eq_or_imp]
      exact or_congr Iff.rfl ih
  rw [← this]
  rfl
theorem mem_colT (x : TermM) : ∀ (t : TermM) (acc : List TermM), x ∈ colT t acc ↔ x ∈ acc ∨ vin x t := by
  refine TermM.ind (fun o n s l ih acc => ?_)
  rw [colT_mk, vin_mk]
  split
  · rename_i h
    rw [mem_insT]
    simp only [h, true_and, ne_eq, not_true_eq_false, false_and, or_false]
    exact or_comm
  · rename_i h
    have hL : ∀ (l : List TermM), (∀ t ∈ l, ∀ acc, x ∈ colT t acc ↔ x ∈ acc ∨ vin x t) → ∀ acc, x ∈ cols l acc ↔ x ∈ acc ∨ ∃ a ∈ l, vin x a := by
      intro l
      induction l with
      | nil => intro _ acc; simp [cols]
      | cons a l ihl =>
        intro h acc
        have e : cols (a :: l) acc = cols l (colT a acc) := rfl
        rw [e, ihl (fun t ht => h t (by simp [ht])), h a (by simp)]
        simp only [List.mem_cons, exists_eq_or_imp, or_assoc]
    rw [hL l ih acc]
    simp only [h, false_and, ne_eq, not_false_eq_true, true_and, false_or]
theorem asc_colT : ∀ (t : TermM) (acc : List TermM), Asc acc → Asc (colT t acc) := by
  refine TermM.ind (fun o n s l ih acc hacc => ?_)
  rw [colT_mk]
  split
  · exact asc_insT _ _ hacc
  · have hL : ∀ (l : List TermM), (∀ t ∈ l, ∀ acc, Asc acc → Asc (colT t acc)) → ∀ acc, Asc acc → Asc (cols l acc) := by
      intro l
      induction l with
      | nil => intro _ acc h; exact h
      | cons a l ihl =>
        intro h acc hacc
        exact ihl (fun t ht => h t (by simp [ht])) _ (h a (by simp) acc hacc)
    exact hL l ih acc hacc
theorem mem_varsT {x t : TermM} : x ∈ varsT t ↔ vin x t := by rw [varsT, mem_colT]; simp
theorem asc_varsT (t : TermM) : Asc (varsT t) := asc_colT t [] List.Pairwise.nil
theorem vars_unique {l : List TermM} {t : TermM} (h1 : Asc l) (h2 : ∀ x, x ∈ l ↔ vin x t) : l = varsT t := asc_unique _ _ h1 (asc_varsT t) (fun x => by rw [h2, mem_varsT])
theorem vin_var {x : TermM} : ∀ t, vin x t → x.op = -1 ∧ x.args = [] := by
  refine TermM.ind (fun o n s l ih h => ?_)
  rcases (vin_mk x o n s l).1 h with ⟨_, rfl⟩ | ⟨_, a, ha, h⟩
  · exact ⟨rfl, rfl⟩
  · exact ih a ha h

/-- v is t or a part of t -/
noncomputable def occT (v : TermM) (t : TermM) : Bool :=
  TermM.rec (motive_1 := fun _ => Bool) (motive_2 := fun _ => Bool) (fun o n s l p => decide (cmp v (.mk o n s l) = 0) || p) false (fun _ _ p q => p || q) t
theorem occT_mk (v : TermM) (o : Int) (n : List UInt8) (s : Int) (l : List TermM) : occT v (.mk o n s l) = (decide (cmp v (.mk o n s l) = 0) || l.any (occT v)) := by
  have : ∀ l : List TermM, (TermM.rec_1 (motive_1 := fun _ => Bool) (motive_2 := fun _ => Bool) (fun o n s l p => decide (cmp v (.mk o n s l) = 0) || p) false (fun _ _ p q => p || q) l : Bool) = l.any (occT v) := by
    intro l
    induction l with
    | nil => rfl
    | cons a l ih => rw [List.any_cons, ← ih]; rfl
  rw [← this]
  rfl
theorem occ_of_vin {x : TermM} : ∀ t, vin x t → (∀ n s l, t = .mk (-1) n s l → l = []) → (∀ o n s l, t = .mk o n s l → o ≠ -1 → ∀ a ∈ l, vin x a → occT x a = true) → occT x t = true := by
  intro t h h1 h2
  obtain ⟨o, n, s, l⟩ := t
  rw [occT_mk]
  rcases (vin_mk x o n s l).1 h with ⟨ho, hx⟩ | ⟨ho, a, ha, hv⟩
  · subst ho
    have hl := h1 n s l rfl
    subst hl
    subst hx
    have : cmp (var n s) (.mk (-1) n s []) = 0 := cmp_self _
    simp [this]
  · have := h2 o n s l rfl ho a ha hv
    simp only [Bool.or_eq_true, List.any_eq_true]
    exact .inr ⟨a, ha, this⟩
/-- every variable node of t is without arguments -/
def bare (t : TermM) : Prop :=
  TermM.rec (motive_1 := fun _ => Prop) (motive_2 := fun _ => Prop) (fun o _ _ l p => (o = -1 → l = []) ∧ p) True (fun _ _ p q => p ∧ q) t
theorem bare_mk (o : Int) (n : List UInt8) (s : Int) (l : List TermM) : bare (.mk o n s l) ↔ (o = -1 → l = []) ∧ ∀ a ∈ l, bare a := by
  have : ∀ l : List TermM, (TermM.rec_1 (motive_1 := fun _ => Prop) (motive_2 := fun _ => Prop) (fun o _ _ l p => (o = -1 → l = []) ∧ p) True (fun _ _ p q => p ∧ q) l : Prop) ↔ ∀ a ∈ l, bare a := by
    intro l
    induction l with
    | nil => simp
    | cons a l ih =>
      simp only [List.mem_cons, forall_eq_or_imp]
      exact and_congr Iff.rfl ih
  rw [← this]
  exact Iff.rfl
/-- of a bare tree: the variables are the parts that are variables -/
theorem occ_vin {x : TermM} (hx : x.op = -1 ∧ x.args = []) : ∀ t, bare t → (occT x t = true ↔ vin x t) := by
  obtain ⟨xo, xn, xs, xl⟩ := x
  obtain ⟨h1, h2⟩ := hx
  simp only [TermM.op, TermM.args] at h1 h2
  subst h1 h2
  refine TermM.ind (fun o n s l ih hb => ?_)
  obtain ⟨hb1, hb2⟩ := (bare_mk o n s l).1 hb
  rw [occT_mk, vin_mk]
  simp only [Bool.or_eq_true, decide_eq_true_eq, List.any_eq_true, cmp_zero, TermM.mk.injEq]
  constructor
  · rintro (⟨rfl, rfl, rfl, rfl⟩ | ⟨a, ha, h⟩)
    · exact .inl ⟨rfl, rfl⟩
    · have ho : o ≠ -1 := fun e => by rw [hb1 e] at ha; simp at ha
      exact .inr ⟨ho, a, ha, (ih a ha (hb2 a ha)).1 h⟩
  · rintro (⟨ho, hv⟩ | ⟨_, a, ha, h⟩)
    · have hl := hb1 ho
      rw [var, TermM.mk.injEq] at hv
      exact .inl ⟨ho.symm, hv.2.1, hv.2.2.1, hl.symm⟩
    · exact .inr ⟨a, ha, (ih a ha (hb2 a ha)).2 h⟩

/-- in non-descending order -/
def Srt (l : List TermM) : Prop := l.Pairwise fun a b => cmp a b ≤ 0
theorem srt_unique : ∀ (l m : List TermM), Srt l → Srt m → l.Perm m → l = m
  | [], m, _, _, h => (List.Perm.nil_eq h)
  | a :: l, [], _, _, h => absurd h.length_eq (by simp)
  | a :: l, b :: m, hl, hm, h => by
    obtain ⟨l1, l2⟩ := List.pairwise_cons.1 hl
    obtain ⟨m1, m2⟩ := List.pairwise_cons.1 hm
    have hab : a = b := by
      rcases List.mem_cons.1 (h.mem_iff.1 (show a ∈ a :: l by simp)) with e | ha
      · exact e
      · rcases List.mem_cons.1 (h.mem_iff.2 (show b ∈ b :: m by simp)) with e | hb
        · exact e.symm
        · have h1 := m1 a ha
          have h2 := l1 b hb
          have := cmp_swap a b
          exact (cmp_zero a b).1 (by omega)
    subst hab
    rw [srt_unique l m l2 m2 (List.Perm.cons_inv h)]
/-- one element put where all behind it are greater and the one before it isn't -/
theorem srt_put {l : List TermM} {t : TermM} {k : Nat} (hl : Srt l) (hk : k ≤ l.length) (h1 : ∀ j, k ≤ j → j < l.length → 0 < cmp (l.getD j default) t) (h2 : 0 < k → ¬ 0 < cmp (l.getD (k - 1) default) t) :
    Srt (l.take k ++ t :: l.drop k) ∧ (l.take k ++ t :: l.drop k).Perm (t :: l) := by
  have hsplit : l.take k ++ l.drop k = l := List.take_append_drop k l
  have hl2 : Srt (l.take k ++ l.drop k) := by rw [hsplit]; exact hl
  obtain ⟨a1, a2, a3⟩ := List.pairwise_append.1 hl2
  have hdrop : ∀ b ∈ l.drop k, 0 < cmp b t := by
    intro b hb
    obtain ⟨j, hj, rfl⟩ := List.getElem_of_mem hb
    have hjl : k + j < l.length := by rw [List.length_drop] at hj; omega
    have := h1 (k + j) (by omega) hjl
    rw [getD_at hjl] at this
    rw [List.getElem_drop]; exact this
  have htake : ∀ b ∈ l.take k, cmp b t ≤ 0 := by
    intro b hb
    obtain ⟨j, hj, rfl⟩ := List.getElem_of_mem hb
    have hjk : j < k := by rw [List.length_take] at hj; omega
    have hp : cmp (l.getD (k - 1) default) t ≤ 0 := by have := h2 (by omega); omega
    have hk1 : k - 1 < l.length := by omega
    rw [getD_at hk1] at hp
    rw [List.getElem_take]
    by_cases e : j = k - 1
    · subst e; exact hp
    · exact cmp_trans _ _ _ (List.pairwise_iff_getElem.1 hl j (k - 1) (by omega) hk1 (by omega)) hp
  refine ⟨List.pairwise_append.2 ⟨a1, List.pairwise_cons.2 ⟨fun b hb => ?_, a2⟩, fun b hb c hc => ?_⟩, ?_⟩
  · have := hdrop b hb
    have := cmp_swap b t
    omega
  · rcases List.mem_cons.1 hc with rfl | hc
    · exact htake b hb
    · exact a3 b hb c hc
  · have hp : (l.take k ++ t :: l.drop k).Perm (t :: (l.take k ++ l.drop k)) := List.perm_middle
    rw [hsplit] at hp
    exact hp
/-- there is a sorted form of every list -/
noncomputable def insS : List TermM → TermM → List TermM
  | [], t => [t]
  | a :: l, t => if cmp a t ≤ 0 then a :: insS l t else t :: a :: l
theorem insS_perm : ∀ (l : List TermM) (t : TermM), (insS l t).Perm (t :: l)
  | [], t => List.Perm.refl _
  | a :: l, t => by
    rw [insS]
    split
    · exact ((insS_perm l t).cons a).trans (List.Perm.swap t a l)
    · exact List.Perm.refl _
theorem insS_srt : ∀ (l : List TermM) (t : TermM), Srt l → Srt (insS l t)
  | [], t, _ => by simp [insS, Srt]
  | a :: l, t, h => by
    obtain ⟨h1, h2⟩ := List.pairwise_cons.1 h
    rw [insS]
    split
    · rename_i h3
      refine List.pairwise_cons.2 ⟨fun b hb => ?_, insS_srt l t h2⟩
      rcases List.mem_cons.1 ((insS_perm l t).mem_iff.1 hb) with rfl | hb
      · exact h3
      · exact h1 b hb
    · rename_i h3
      have hta : cmp t a ≤ 0 := by have := cmp_swap a t; omega
      refine List.pairwise_cons.2 ⟨fun b hb => ?_, h⟩
      rcases List.mem_cons.1 hb with rfl | hb
      · exact hta
      · exact cmp_trans _ _ _ hta (h1 b hb)
noncomputable def sortM (l : List TermM) : List TermM := l.foldl insS []
theorem sortM_spec (l : List TermM) : Srt (sortM l) ∧ (sortM l).Perm l := by
  have : ∀ (l acc : List TermM), Srt acc → Srt (l.foldl insS acc) ∧ (l.foldl insS acc).Perm (acc ++ l) := by
    intro l
    induction l with
    | nil => intro acc h; exact ⟨h, by simp⟩
    | cons a l ih =>
      intro acc h
      obtain ⟨h1, h2⟩ := ih (insS acc a) (insS_srt acc a h)
      refine ⟨h1, h2.trans ?_⟩
      refine ((insS_perm acc a).append_right l).trans ?_
      exact (List.perm_middle (l₁ := acc) (l₂ := l) (a := a)).symm
  simpa [sortM] using this l [] List.Pairwise.nil
theorem sortM_unique {l m : List TermM} (h1 : Srt m) (h2 : m.Perm l) : m = sortM l := srt_unique _ _ h1 (sortM_spec l).1 (h2.trans (sortM_spec l).2.symm)
end Go.Proofs.YtjejdcehlckfhaaGreat.trmv
/-
  TERMS IN MEMORY, over any program: how rows of terms read (RT), and rows of terms of one's own, each block used once (OT).
-/
namespace Go.Proofs.YtjejdcehlckfhaaGreat.terml
open Go.ChangeShapes Go.WideShapes Go.ChangeAt Go.RowKit
open mem rowl trm trmv

/-- a term of at most this depth in four cells -/
def RT : Nat → Reads TermM
  | 0 => fun _ _ _ _ => False
  | n + 1 => fun lo w cs t => ∃ va, cs = [.int .i64 t.op, .string (bstr t.name), .int .i64 t.sort, va] ∧ HasR (RT n) 4 lo w va t.args ∧ t.name.length ≤ maxLen ∧ I64 t.op ∧ I64 t.sort
theorem RT_steady : ∀ n, Steady (RT n)
  | 0 => ⟨fun h _ => h.elim, fun h _ => h.elim⟩
  | n + 1 => ⟨fun ⟨va, e, h, r⟩ hk => ⟨va, e, h.kept (RT_steady n) hk, r⟩, fun ⟨va, e, h, r⟩ hl => ⟨va, e, h.mono (RT_steady n) hl, r⟩⟩
theorem RT_succ : ∀ (n : Nat) {lo : Nat} {w : World} {cs : List Value} {t : TermM}, RT n lo w cs t → RT (n + 1) lo w cs t
  | 0, _, _, _, _, h => h.elim
  | n + 1, _, _, _, _, ⟨va, e, h, r⟩ => ⟨va, e, h.map (fun h => RT_succ n h), r⟩
theorem RT_up {n m : Nat} (h : n ≤ m) {lo : Nat} {w : World} {cs : List Value} {t : TermM} (hr : RT n lo w cs t) : RT m lo w cs t := by
  induction h with
  | refl => exact hr
  | step _ ih => exact RT_succ _ ih
/-- terms -/
abbrev HasTs (n lo : Nat) (w : World) (v : Value) (L : List TermM) : Prop := HasR (RT n) 4 lo w v L
theorem HasTs.up {n m : Nat} (h : n ≤ m) {lo : Nat} {w : World} {v : Value} {L : List TermM} (hr : HasTs n lo w v L) : HasTs m lo w v L := hr.map (fun h' => RT_up h h')
theorem HasTs.below {n lo : Nat} {w w' : World} {v : Value} {L : List TermM} (h : HasTs n lo w v L) {B : Nat} (hB : w.heap.size ≤ B) (hb : Below B w w') : HasTs n lo w' v L := HasR.below (RT_steady n) h hB hb
/-- an element of a row: its cells, and its arguments, one level down -/
theorem term_at {n lo : Nat} {w : World} {A : Option Addr} {m c : Nat} {L : List TermM} (h : HasTs n lo w (.slice A m c) L) {j : Nat} (hj : j < m) :
    ∃ (k g o : Nat) (A2 : Option Addr) (c2 : Nat), n = k + 1 ∧ A = some ⟨g, o, none⟩ ∧ lo ≤ g ∧ g < w.heap.size ∧ w.cell? ⟨g, o + j * 4, none⟩ = some (.int .i64 (L.getD j default).op) ∧ w.cell? ⟨g, o + j * 4 + 1, none⟩ = some (.string (bstr (L.getD j default).name)) ∧
      w.cell? ⟨g, o + j * 4 + 2, none⟩ = some (.int .i64 (L.getD j default).sort) ∧ w.cell? ⟨g, o + j * 4 + 3, none⟩ = some (.slice A2 (L.getD j default).args.length c2) ∧
      HasTs k lo w (.slice A2 (L.getD j default).args.length c2) (L.getD j default).args ∧ (L.getD j default).name.length ≤ maxLen ∧ I64 (L.getD j default).op ∧ I64 (L.getD j default).sort := by
  obtain ⟨g, o, cs, e, hl, hg, hc, hr⟩ := h.get hj
  cases n with
  | zero => exact hr.elim
  | succ k =>
    obtain ⟨va, ecs, hh, h1, h2, h3⟩ := hr
    subst ecs
    obtain ⟨A2, c2, rfl, hh'⟩ := HasR.shape hh rfl
    exact ⟨k, g, o, A2, c2, rfl, e, hl, hg, hc 0 (by omega), hc 1 (by omega), hc 2 (by omega), hc 3 (by omega), hh', h1, h2, h3⟩
/-- a term by value: its fields -/
def TV (n lo : Nat) (w : World) (v : Value) (t : TermM) : Prop := ∃ va, v = .agg #[.int .i64 t.op, .string (bstr t.name), .int .i64 t.sort, va] ∧ HasTs n lo w va t.args ∧ t.name.length ≤ maxLen ∧ I64 t.op ∧ I64 t.sort

/-- everything but the blocks of S is as it was -/
structure Chg (S : List Nat) (w w' : World) : Prop where
  os : w'.os = w.os
  tape : w'.tape = w.tape
  output : w'.output = w.output
  size : w.heap.size ≤ w'.heap.size
  block : ∀ k, k < w.heap.size → k ∉ S → w'.heap[k]? = w.heap[k]?
theorem Chg.refl (S : List Nat) (w : World) : Chg S w w := ⟨rfl, rfl, rfl, Nat.le_refl _, fun _ _ _ => rfl⟩
theorem Chg.trans {S : List Nat} {a b c : World} (h : Chg S a b) (k : Chg S b c) : Chg S a c :=
  ⟨k.os.trans h.os, k.tape.trans h.tape, k.output.trans h.output, Nat.le_trans h.size k.size, fun i hi hn => (k.block i (Nat.lt_of_lt_of_le hi h.size) hn).trans (h.block i hi hn)⟩
theorem Chg.mono {S S' : List Nat} {w w' : World} (h : Chg S w w') (hs : ∀ k ∈ S, k ∈ S') : Chg S' w w' := ⟨h.os, h.tape, h.output, h.size, fun k hk hn => h.block k hk (fun h' => hn (hs k h'))⟩
theorem Chg.of_below {S : List Nat} {w w' : World} (h : Below w.heap.size w w') : Chg S w w' := ⟨h.os, h.tape, h.output, h.size, fun k hk _ => h.block k hk⟩
theorem Chg.set {S : List Nat} {w : World} {g j : Nat} (hg : g ∈ S) (u : Value) : Chg S w (w.setCell ⟨g, j, none⟩ u) :=
  ⟨rfl, rfl, rfl, by simp [World.setCell], fun k _ hn => Below.heap_setCell w ⟨g, j, none⟩ u k (fun e => hn (by rw [e]; exact hg))⟩
theorem Chg.below {S : List Nat} {w w' : World} (h : Chg S w w') {B : Nat} (hB : B ≤ w.heap.size) (hs : ∀ k ∈ S, B ≤ k) : Below B w w' :=
  ⟨h.os, h.tape, h.output, h.size, fun k hk => h.block k (Nat.lt_of_lt_of_le hk hB) (fun hm => by have := hs k hm; omega)⟩
theorem Chg.own {S : List Nat} {w w' : World} (h : Chg S w w') {base n : Nat} {e : TypeId} {size : Nat} {v : Value} {xs : List Value} (ho : w.ownsRow base e size v n xs) (hn : ∀ g, v.ownBlock = some g → g ∉ S) : w'.ownsRow base e size v n xs := by
  refine ⟨ho.1, ?_⟩
  rcases ho.2 with h2 | ⟨g, cap, cur, rfl, hg, hh, r⟩
  · exact .inl h2
  · exact .inr ⟨g, cap, cur, rfl, hg, by rw [h.block g (Array.getElem?_eq_some_iff.1 hh).1 (hn g rfl)]; exact hh, r⟩

/-- a row of terms of one's own, at or above lo: its blocks are S, each used once -/
def OT (e : TypeId) : Nat → Nat → World → Value → List TermM → List Nat → Prop
  | 0, _, _, _, _, _ => False
  | n + 1, lo, w, v, L, S => ∃ (xs : List Value) (vs : Nat → Value) (Ss : Nat → List Nat), w.ownsRow lo e 4 v L.length xs ∧ S = v.ownBlock.toList ++ (List.range L.length).flatMap Ss ∧ S.Nodup ∧
      ∀ j, j < L.length → (xs[j * 4]? = some (.int .i64 (L.getD j default).op) ∧ xs[j * 4 + 1]? = some (.string (bstr (L.getD j default).name)) ∧ xs[j * 4 + 2]? = some (.int .i64 (L.getD j default).sort) ∧ xs[j * 4 + 3]? = some (vs j)) ∧
        ((L.getD j default).name.length ≤ maxLen ∧ I64 (L.getD j default).op ∧ I64 (L.getD j default).sort) ∧ OT e n lo w (vs j) (L.getD j default).args (Ss j)
theorem OT.lt {e : TypeId} : ∀ {n lo : Nat} {w : World} {v : Value} {L : List TermM} {S : List Nat}, OT e n lo w v L S → ∀ k ∈ S, lo ≤ k ∧ k < w.heap.size
  | 0, _, _, _, _, _, h => h.elim
  | n + 1, lo, w, v, L, S, ⟨xs, vs, Ss, ho, hS, hnd, hj⟩ => by
    intro k hk
    rw [hS, List.mem_append] at hk
    rcases hk with hk | hk
    · rcases ho.2 with ⟨rfl, _⟩ | ⟨g, cap, cur, rfl, hg, hh, _⟩
      · simp [Value.ownBlock] at hk
      · simp [Value.ownBlock] at hk
        subst hk
        exact ⟨hg, (Array.getElem?_eq_some_iff.1 hh).1⟩
    · obtain ⟨j, hjr, hk⟩ := List.mem_flatMap.1 hk
      exact OT.lt (hj j (by simpa using hjr)).2.2 k hk
theorem OT.chg {e : TypeId} : ∀ {n lo : Nat} {w w' : World} {v : Value} {L : List TermM} {S S' : List Nat}, OT e n lo w v L S → Chg S' w w' → (∀ k ∈ S, k ∉ S') → OT e n lo w' v L S
  | 0, _, _, _, _, _, _, _, h, _, _ => h.elim
  | n + 1, lo, w, w', v, L, S, S', ⟨xs, vs, Ss, ho, hS, hnd, hj⟩, hc, hd => by
    refine ⟨xs, vs, Ss, hc.own ho (fun g hg => hd g ?_), hS, hnd, fun j hjl => ⟨(hj j hjl).1, (hj j hjl).2.1, OT.chg (hj j hjl).2.2 hc (fun k hk => hd k ?_)⟩⟩
    · rw [hS, hg]; simp
    · rw [hS, List.mem_append]
      exact .inr (List.mem_flatMap.2 ⟨j, by simpa using hjl, hk⟩)
theorem OT.below {e : TypeId} {n lo : Nat} {w w' : World} {v : Value} {L : List TermM} {S : List Nat} (h : OT e n lo w v L S) (hb : Below w.heap.size w w') : OT e n lo w' v L S := h.chg (Chg.of_below (S := []) hb) (fun k _ => by simp)
theorem OT.mono {e : TypeId} : ∀ {n lo lo' : Nat} {w : World} {v : Value} {L : List TermM} {S : List Nat}, OT e n lo w v L S → lo' ≤ lo → OT e n lo' w v L S
  | 0, _, _, _, _, _, _, h, _ => h.elim
  | n + 1, lo, lo', w, v, L, S, ⟨xs, vs, Ss, ho, hS, hnd, hj⟩, hl => by
    refine ⟨xs, vs, Ss, ⟨ho.1, ?_⟩, hS, hnd, fun j hjl => ⟨(hj j hjl).1, (hj j hjl).2.1, OT.mono (hj j hjl).2.2 hl⟩⟩
    rcases ho.2 with h2 | ⟨g, cap, cur, rfl, hg, r⟩
    · exact .inl h2
    · exact .inr ⟨g, cap, cur, rfl, Nat.le_trans hl hg, r⟩
theorem OT.has {e : TypeId} : ∀ {n lo : Nat} {w : World} {v : Value} {L : List TermM} {S : List Nat}, OT e n lo w v L S → HasTs n lo w v L
  | 0, _, _, _, _, _, h => h.elim
  | n + 1, lo, w, v, L, S, ⟨xs, vs, Ss, ho, hS, hnd, hj⟩ => by
    refine HasR.of_own ho rfl (fun j hjl => ?_)
    obtain ⟨⟨h0, h1, h2, h3⟩, ⟨h4, h5, h6⟩, h7⟩ := hj j hjl
    refine ⟨[.int .i64 (L.getD j default).op, .string (bstr (L.getD j default).name), .int .i64 (L.getD j default).sort, vs j], fun i hi => ?_, vs j, rfl, OT.has h7, h4, h5, h6⟩
    match i, hi with
    | 0, _ => exact h0
    | 1, _ => exact h1
    | 2, _ => exact h2
    | 3, _ => exact h3
theorem OT.nodup {e : TypeId} : ∀ {n lo : Nat} {w : World} {v : Value} {L : List TermM} {S : List Nat}, OT e n lo w v L S → S.Nodup
  | 0, _, _, _, _, _, h => h.elim
  | _ + 1, _, _, _, _, _, ⟨_, _, _, _, _, hnd, _⟩ => hnd
/-- the empty row -/
theorem OT.nil (e : TypeId) (n lo : Nat) (w : World) : OT e (n + 1) lo w (.slice none 0 0) [] [] :=
  ⟨[], fun _ => undef, fun _ => [], ⟨rfl, .inl ⟨rfl, rfl⟩⟩, by simp [Value.ownBlock], List.nodup_nil, fun j hj => by simp at hj⟩

/-- the marks that the laws write: k, k + 1, .. over the nodes of the terms, the arguments behind their node; tx: the text of a number -/
noncomputable def mkT (tx : Nat → List UInt8) (t : TermM) : Nat → TermM :=
  TermM.rec (motive_1 := fun _ => Nat → TermM) (motive_2 := fun _ => Nat → List TermM) (fun _ _ _ _ f k => .mk (k : Int) (tx (k + 1)) ((k + 2 : Nat) : Int) (f (k + 3))) (fun _ => []) (fun a _ fa fl k => fa k :: fl (k + 3 * size a)) t
noncomputable def mkL (tx : Nat → List UInt8) : List TermM → Nat → List TermM
  | [], _ => []
  | a :: l, k => mkT tx a k :: mkL tx l (k + 3 * size a)
theorem mkT_mk (tx : Nat → List UInt8) (o : Int) (n : List UInt8) (s : Int) (l : List TermM) (k : Nat) : mkT tx (.mk o n s l) k = .mk (k : Int) (tx (k + 1)) ((k + 2 : Nat) : Int) (mkL tx l (k + 3)) := by
  have : ∀ (l : List TermM) (k : Nat), (TermM.rec_1 (motive_1 := fun _ => Nat → TermM) (motive_2 := fun _ => Nat → List TermM) (fun _ _ _ _ f k => .mk (k : Int) (tx (k + 1)) ((k + 2 : Nat) : Int) (f (k + 3))) (fun _ => []) (fun a _ fa fl k => fa k :: fl (k + 3 * size a)) l : Nat → List TermM) k = mkL tx l k := by
    intro l
    induction l with
    | nil => intro k; rfl
    | cons a l ih => intro k; rw [mkL, ← ih]; rfl
  rw [← this]
  rfl
theorem mkL_len (tx : Nat → List UInt8) : ∀ (l : List TermM) (k : Nat), (mkL tx l k).length = l.length
  | [], _ => rfl
  | a :: l, k => by rw [mkL, List.length_cons, mkL_len tx l, List.length_cons]
/-- the first mark of the element j -/
noncomputable def offs (l : List TermM) (k j : Nat) : Nat := k + 3 * sizes (l.take j)
theorem offs_succ (l : List TermM) (k j : Nat) (h : j < l.length) : offs l k (j + 1) = offs l k j + 3 * size (l.getD j default) := by
  rw [offs, offs, List.take_succ_eq_append_getElem h, getD_at h]
  simp only [sizes, List.map_append, List.map_cons, List.map_nil, List.sum_append, List.sum_cons, List.sum_nil]
  omega
theorem offs_le {l : List TermM} {k j : Nat} (h : j < l.length) : offs l k j + 3 * size (l.getD j default) ≤ k + 3 * sizes l := by
  rw [← offs_succ l k j h, offs]
  have : sizes (l.take (j + 1)) ≤ sizes l := by
    have e := List.take_append_drop (j + 1) l
    have : sizes l = sizes (l.take (j + 1)) + sizes (l.drop (j + 1)) := by
      conv => lhs; rw [← e]
      simp only [sizes, List.map_append, List.sum_append]
    omega
  omega
theorem mkL_get (tx : Nat → List UInt8) : ∀ (l : List TermM) (k j : Nat), j < l.length → (mkL tx l k).getD j default = mkT tx (l.getD j default) (offs l k j)
  | [], _, _, h => by simp at h
  | a :: l, k, 0, _ => by simp [mkL, offs, sizes]
  | a :: l, k, j + 1, h => by
    have hj : j < l.length := by simpa using h
    rw [mkL, List.getD_cons_succ, mkL_get tx l _ j hj, List.getD_cons_succ]
    congr 1
    simp only [offs, List.take_succ_cons, sizes, List.map_cons, List.sum_cons]
    omega
theorem size_pos (t : TermM) : 1 ≤ size t := by
  obtain ⟨o, n, s, l⟩ := t
  rw [size_mk]; omega
end Go.Proofs.YtjejdcehlckfhaaGreat.terml
/-
  SMALL LAWS FOR TERMS, over any program: 'Below' with the count of draws, append on a row of one's own with that count, a shortened row, a class of worlds for drawn regions.
-/
namespace Go.Proofs.YtjejdcehlckfhaaGreat.termb
open Go.ChangeShapes Go.WideShapes Go.ChangeAt Go.RowKit
open mem rowl

/-- as 'Below', and the tape was asked no less often -/
structure GB (B : Nat) (w w' : World) : Prop where
  below : Below B w w'
  drawn : w.drawn ≤ w'.drawn
theorem GB.refl (B : Nat) (w : World) : GB B w w := ⟨Below.refl _ _, Nat.le_refl _⟩
theorem GB.trans {B : Nat} {a b c : World} (h : GB B a b) (k : GB B b c) : GB B a c := ⟨h.below.trans k.below, Nat.le_trans h.drawn k.drawn⟩
theorem GB.mono {B B' : Nat} {w w' : World} (h : GB B w w') (hB : B' ≤ B) : GB B' w w' := ⟨h.below.mono hB, h.drawn⟩
theorem GB.drew {B : Nat} {a w : World} (h : GB B a w) : GB B a w.drew := ⟨h.below.drew, Nat.le_succ_of_le h.drawn⟩
theorem GB.drewN {B : Nat} {a w : World} (h : GB B a w) (q : Nat) : GB B a (w.drewN q) := ⟨below_drewN h.below q, Nat.le_trans h.drawn (Nat.le_add_right _ _)⟩
theorem GB.alloc {B : Nat} {a w : World} (h : GB B a w) (hB : B ≤ w.heap.size) (o : Obj) : GB B a (w.alloc o) := ⟨h.below.alloc hB o, h.drawn⟩
theorem GB.setCell {B : Nat} {a w : World} (h : GB B a w) {p : Addr} (hp : B ≤ p.block) (u : Value) : GB B a (w.setCell p u) := ⟨h.below.setCell hp u, h.drawn⟩
theorem GB.grown {B : Nat} {a w w' : World} {g : Nat} (h : GB B a w) (hg : w.grownBy w' (some g)) (hd : w.drawn ≤ w'.drawn) (hB : B ≤ w.heap.size) (hr : B ≤ g) : GB B a w' :=
  ⟨h.below.grown hg hB (fun k hk => by cases hk; exact hr), Nat.le_trans h.drawn hd⟩
theorem GB.grow {w w' : World} (h : GB w.heap.size w w') : ∃ q os', w' = Go.Sort.grow (w.drewN q) os' := by
  obtain ⟨p, hp⟩ := regrown_of_below h.below
  refine ⟨w'.drawn - w.drawn, p.os, ?_⟩
  have hd := h.drawn
  have e : p.d = w'.drawn := by rw [hp]; rfl
  rw [hp]
  unfold Go.Sort.grow redrawn World.drewN
  simp only [World.mk.injEq, true_and, and_true]
  show p.d = w.drawn + (p.d - w.drawn)
  omega
/-- the first m of a row -/
theorem own_take {w : World} {base n m g cap size : Nat} {e : TypeId} {xs : List Value} (h : w.ownsRow base e size (.slice (some ⟨g, 0, none⟩) n cap) n xs) (hm : m ≤ n) :
    w.ownsRow base e size (.slice (some ⟨g, 0, none⟩) m cap) m (xs.take (m * size)) := by
  have hms : m * size ≤ n * size := Nat.mul_le_mul_right _ hm
  refine ⟨by rw [List.length_take, h.1]; omega, ?_⟩
  rcases h.2 with ⟨h', _⟩ | ⟨g', cap', cur, h', hb, hg, hnc, hcm, hcs, htake⟩
  · cases h'
  · simp only [Value.slice.injEq, Option.some.injEq, Addr.mk.injEq, and_true, true_and] at h'
    obtain ⟨rfl, rfl⟩ := h'
    exact .inr ⟨g, cap, cur, rfl, hb, hg, by omega, hcm, hcs, by rw [← htake, List.take_take]; congr 1; omega⟩
section
variable {P : Program} {w : World}
/-- append of some cells to a row of one's own that isn't nil: what it gives, and that the count of draws doesn't fall -/
theorem run_append_d (base : Nat) (t ty e : TypeId) (i : TypeInfo) (z : Value) (size bytes : Nat) (ht : P.underlying t = some (.slice e)) (hi : P.info? e = some i) (hz : i.zero = some z)
    (hsize : i.size = size) (hby : i.bytes = bytes) (hzs : z.cells.size = size) (hsz : 0 < size) (g n cap : Nat) (xs : List Value) (hown : w.ownsRow base e size (.slice (some ⟨g, 0, none⟩) n cap) n xs)
    (ad : Addr) (m c : Nat) (news : List Value) (hl : news.length = m * size) (hnews : ∀ j u, news[j]? = some u → w.cell? (ad.add j) = some u) (h1 : ∀ u ∈ news, u.oneCell' = true)
    (h63 : n + m ≤ maxLen) (hbytes : (n + m) * bytes ≤ 140737488355328) (hbase : base ≤ w.heap.size) :
    ∃ g' cap' w', (Builtin.append_ #[t, t] ty #[.slice (some ⟨g, 0, none⟩) n cap, .slice (some ad) m c]).run P w = .ok (.slice (some ⟨g', 0, none⟩) (n + m) cap') w' ∧ w'.ownsRow base e size (.slice (some ⟨g', 0, none⟩) (n + m) cap') (n + m) (xs ++ news) ∧
      w.grownBy w' (some g) ∧ (g' = g ∨ g' = w.heap.size) ∧ g' < w'.heap.size ∧ w.drawn ≤ w'.drawn := by
  obtain ⟨v', w', hr, h2, h3, h4, h5⟩ := run_append_own_at (P := P) (w := w) base t ty e i z size bytes ht hi hz hsize hby hzs hsz _ n xs hown ad m c news hl hnews h1 h63 hbytes hbase
  have hd : w.drawn ≤ w'.drawn := by
    rcases hown.2 with ⟨h', _⟩ | ⟨g', cap', cur, h', hb, hg, hnc, hcm, hcs, htake⟩
    · cases h'
    · simp only [Value.slice.injEq, Option.some.injEq, Addr.mk.injEq, and_true, true_and] at h'
      obtain ⟨rfl, rfl⟩ := h'
      subst hsize hby
      by_cases hroom : n + m ≤ cap
      · have hr2 := run_append_room (P := P) w t ty e i ht hi g n cap cur hg ad m c news hl hnews h1 hroom (by rw [hl, hcs, ← Nat.add_mul]; exact Nat.mul_le_mul_right _ hroom)
        rw [hr] at hr2
        injection hr2 with _ e2
        rw [e2]
        exact Nat.le_refl _
      · have hr2 := run_append_grow (P := P) w t ty e i z ht hi hz ⟨g, 0, none⟩ n cap xs hown.1 (hown.cells (g := g) rfl) ad m c news hl hnews (by omega) (by unfold maxLen at h63; omega) (growslice_fits (by omega) hbytes)
        rw [hr] at hr2
        injection hr2 with _ e2
        rw [e2]
        exact Nat.le_succ _
  have hne : v' ≠ .slice none 0 0 := fun e => by have := (h4.1 e).1; cases this
  rcases h2.2 with ⟨h', _⟩ | ⟨g', cap', cur, h', hb, hg, hnc, hcm, hcs, htake⟩
  · exact absurd h' hne
  · subst h'
    refine ⟨g', cap', w', hr, h2, h3, ?_, (Array.getElem?_eq_some_iff.1 hg).1, hd⟩
    simpa [Value.ownBlock] using h5
theorem step_append_d {ops : Array Oper} {o : Oper} {a : Act} {K : Act → World → Prop} {Q : Exit → Act → World → Prop} {E : Prop} (hgd : o.guard = none) (s x : Operand) (t : TypeId)
    (ho : o.op = .call { callee := .builtin .append, args := #[s, x], argTypes := #[t, t] })
    (base : Nat) (e : TypeId) (i : TypeInfo) (z : Value) (size bytes : Nat) (ht : P.underlying t = some (.slice e)) (hi : P.info? e = some i) (hz : i.zero = some z)
    (hsize : i.size = size) (hby : i.bytes = bytes) (hzs : z.cells.size = size) (hsz : 0 < size) (g n cap : Nat) (xs : List Value) (hs : a.eval s = .slice (some ⟨g, 0, none⟩) n cap) (hown : w.ownsRow base e size (.slice (some ⟨g, 0, none⟩) n cap) n xs)
    (ad : Addr) (m c : Nat) (news : List Value) (hx : a.eval x = .slice (some ad) m c) (hl : news.length = m * size) (hnews : ∀ j u, news[j]? = some u → w.cell? (ad.add j) = some u) (h1 : ∀ u ∈ news, u.oneCell' = true)
    (h63 : n + m ≤ maxLen) (hbytes : (n + m) * bytes ≤ 140737488355328) (hbase : base ≤ w.heap.size)
    (h : ∀ g' cap' w', w'.ownsRow base e size (.slice (some ⟨g', 0, none⟩) (n + m) cap') (n + m) (xs ++ news) → w.grownBy w' (some g) → (g' = g ∨ g' = w.heap.size) → g' < w'.heap.size → w.drawn ≤ w'.drawn → K (a.put o.dst (.slice (some ⟨g', 0, none⟩) (n + m) cap')) w') :
    if Region.wanted o (yielded ops a.tmps) = true then Oper.wp P o a w K Q else E := by
  have hw : Region.wanted o (yielded ops a.tmps) = true := by simp [Region.wanted, hgd]
  rw [if_pos hw]
  obtain ⟨g', cap', w', hr, h2, h3, h4, h5, h6⟩ := run_append_d (P := P) (w := w) base t o.type e i z size bytes ht hi hz hsize hby hzs hsz g n cap xs hown ad m c news hl hnews h1 h63 hbytes hbase
  unfold Oper.wp execOp
  simp only [ho, resolve, invoke, builtin, Sem.run_bind, Sem.run_pure, Result.andThen_ok, List.map_toArray, List.map_cons, List.map_nil, hs, hx, hr]
  exact h _ _ _ h2 h3 h4 h5 h6
theorem wpList_append_d {ops : Array Oper} {rest : List Oper} {o : Oper} {a : Act} {Q : Exit → Act → World → Prop} (hgd : o.guard = none) (s x : Operand) (t : TypeId)
    (ho : o.op = .call { callee := .builtin .append, args := #[s, x], argTypes := #[t, t] })
    (base : Nat) (e : TypeId) (i : TypeInfo) (z : Value) (size bytes : Nat) (ht : P.underlying t = some (.slice e)) (hi : P.info? e = some i) (hz : i.zero = some z)
    (hsize : i.size = size) (hby : i.bytes = bytes) (hzs : z.cells.size = size) (hsz : 0 < size) (g n cap : Nat) (xs : List Value) (hs : a.eval s = .slice (some ⟨g, 0, none⟩) n cap) (hown : w.ownsRow base e size (.slice (some ⟨g, 0, none⟩) n cap) n xs)
    (ad : Addr) (m c : Nat) (news : List Value) (hx : a.eval x = .slice (some ad) m c) (hl : news.length = m * size) (hnews : ∀ j u, news[j]? = some u → w.cell? (ad.add j) = some u) (h1 : ∀ u ∈ news, u.oneCell' = true)
    (h63 : n + m ≤ maxLen) (hbytes : (n + m) * bytes ≤ 140737488355328) (hbase : base ≤ w.heap.size)
    (h : ∀ g' cap' w', w'.ownsRow base e size (.slice (some ⟨g', 0, none⟩) (n + m) cap') (n + m) (xs ++ news) → w.grownBy w' (some g) → (g' = g ∨ g' = w.heap.size) → g' < w'.heap.size → w.drawn ≤ w'.drawn → wpList P ops Q rest (a.put o.dst (.slice (some ⟨g', 0, none⟩) (n + m) cap')) w') :
    wpList P ops Q (o :: rest) a w := by
  refine wpList_plain hgd fun K hK => ?_
  obtain ⟨g', cap', w', hr, h2, h3, h4, h5, h6⟩ := run_append_d (P := P) (w := w) base t o.type e i z size bytes ht hi hz hsize hby hzs hsz g n cap xs hown ad m c news hl hnews h1 h63 hbytes hbase
  unfold Oper.wp execOp
  simp only [ho, resolve, invoke, builtin, Sem.run_bind, Sem.run_pure, Result.andThen_ok, List.map_toArray, List.map_cons, List.map_nil, hs, hx, hr]
  exact hK _ _ (h _ _ _ h2 h3 h4 h5 h6)
end
/-- a world of a class -/
structure BoxC (C : World → Prop) where
  W : World
  h : C W
theorem region_boxC {P : Program} {C : World → Prop} {id : Nat} {Q : Exit → Act → World → Prop} {a : Act} {w : World} {l : List Oper} (hm : P.follows .mixedOrders = true) (hB : Region.lexB .any l.toArray = true) (hC : C w.drew)
    (h : wpQuiet P l.toArray (fun w' => ∃ t : BoxC C, w' = t.W) (fun a' => ∀ w', (∃ t : BoxC C, w' = t.W) → Q .normal a' w') l a) : (Code.region id l.toArray true).wp P Q a w :=
  wp_region_quiet (C := fun w' => ∃ t : BoxC C, w' = t.W) hm hB ⟨⟨_, hC⟩, rfl⟩ (by simpa using h)
theorem BoxC.cell {W : World} (t : BoxC (Below W.heap.size W)) {g o : Nat} {v : Value} (h : W.cell? ⟨g, o, none⟩ = some v) (hg : g < W.heap.size) : t.W.cell? ⟨g, o, none⟩ = some v := (t.h.cell (p := ⟨g, o, none⟩) hg).trans h
theorem BoxC.step {W0 : World} (t : BoxC (Below W0.heap.size W0)) {w' : World} (h : Below t.W.heap.size t.W w') : ∃ t' : BoxC (Below W0.heap.size W0), w' = t'.W := ⟨⟨w', t.h.trans (h.mono t.h.size)⟩, rfl⟩
/-- the bytes' order of the model -/
theorem less_bstr (a b : List UInt8) : Op.bytesLess (bstr a).toList (bstr b).toList = trm.lessB a b := by
  have h : ∀ l, (bstr l).toList = l := fun l => by rw [ByteArray.toList_eq]; exact bstr_toList l
  rw [h, h]
  induction a generalizing b with
  | nil => cases b <;> simp [Op.bytesLess, trm.lessB]
  | cons x l ih =>
    cases b with
    | nil => simp [Op.bytesLess, trm.lessB]
    | cons y m =>
      simp only [Op.bytesLess, trm.lessB, ih]
      by_cases e : x = y
      · subst e; simp
      · simp [e]
end Go.Proofs.YtjejdcehlckfhaaGreat.termb
/-
  CONTRACTS OF THE LAWS' OWN FUNCTIONS ON TERMS: szTerm, toTerm, eqTerm and those of their rows.
-/
namespace Go.Proofs.YtjejdcehlckfhaaGreat.termt
open Go.ChangeShapes Go.WideShapes Go.ChangeAt Go.RowKit
open mem rowl trm trmv terml

/-- laws.szTermS, at terms of at most this depth -/
def SzS (n : Nat) : Prop := ∀ (L : List TermM) (v : Value) (w : World) (lo : Nat), HasTs n lo w v L → ∀ m : Int, 0 ≤ m → m ≤ 1048576 →
  Calls Tryz.prog 34 #[v, .int .i64 m] w fun e w' => ∃ r : Int, e = .returned (.int .i64 r) ∧ (0 ≤ r → r + sizes L ≤ m) ∧ -1 ≤ r ∧ r ≤ 1048576 ∧ Below w.heap.size w w'
/-- laws.szTerm -/
theorem szTerm_of {n : Nat} (hS : SzS n) (op : Int) (l : List UInt8) (s : Int) (L : List TermM) (va : Value) (w : World) {lo : Nat} (hl : l.length ≤ maxLen) (h : HasTs n lo w va L) (m : Int) (hm : 0 ≤ m) (hm2 : m ≤ 1048576) :
    Calls Tryz.prog 9 #[.agg #[.int .i64 op, .string (bstr l), .int .i64 s, va], .int .i64 m] w fun e w' => ∃ r : Int, e = .returned (.int .i64 r) ∧ (0 ≤ r → r + sizes L ≤ m) ∧ -1 ≤ r ∧ r ≤ 1048576 ∧ Below w.heap.size w w' := by
  have hsz := bstr_size l
  have HSZ := Lib.hid (fun W (hW : Below w.heap.size w W) m h1 h2 => hS L va W lo (h.below (Nat.le_refl _) hW) m h1 h2)
  obtain ⟨A, c, rfl, h⟩ := HasR.shape h rfl
  obtain ⟨k, hk⟩ : ∃ k, k = L.length := ⟨_, rfl⟩
  rw [← hk] at HSZ ⊢
  unfold maxLen at hl
  clear h hk
  by_cases hneg : m - (l.length : Int) < 0
  · go_enter Tryz.func9, Tryz.ntmps9
    go_wp2
    go_ret
    exact ⟨-1, rfl, fun h => by omega, by omega, by omega, (Below.refl _ _).alloc (Nat.le_refl _) _⟩
  · go_enter Tryz.func9, Tryz.ntmps9
    go_wp2_with fail
    refine (HSZ.out _ ((Below.refl _ _).alloc (Nat.le_refl _) _) (m - l.length) (by omega) (by omega)).mono ?_
    rintro e w1 ⟨r, rfl, hr, hr1, hr2, hb⟩
    have hbw : Below w.heap.size w w1 := ((Below.refl _ _).alloc (Nat.le_refl _) _).trans (hb.mono (by simp))
    clear hb
    by_cases hneg2 : r < 0
    · go_wp2
      go_ret
      exact ⟨-1, rfl, fun h => by omega, by omega, by omega, hbw⟩
    · go_wp2
      go_ret
      exact ⟨r, rfl, fun h => by have := hr h; omega, hr1, hr2, hbw⟩
theorem sizes_take {L : List TermM} {k : Nat} (h : k < L.length) : sizes (L.take (k + 1)) = sizes (L.take k) + size (L.getD k default) := by
  rw [List.take_succ_eq_append_getElem h, getD_at h]
  simp only [sizes, List.map_append, List.map_cons, List.map_nil, List.sum_append, List.sum_cons, List.sum_nil]
  omega
theorem sizes_len (L : List TermM) : L.length ≤ sizes L := by
  induction L with
  | nil => simp
  | cons a l ih =>
    have := size_pos a
    simp only [sizes, List.map_cons, List.sum_cons, List.length_cons] at ih ⊢
    omega
theorem size_le_sizes {l : List TermM} : ∀ {j : Nat}, j < l.length → size (l.getD j default) ≤ sizes l := by
  induction l with
  | nil => intro j h; simp at h
  | cons a l ih =>
    intro j h
    simp only [sizes, List.map_cons, List.sum_cons] at ih ⊢
    cases j with
    | zero => simp
    | succ j =>
      have := ih (j := j) (by simpa using h)
      rw [List.getD_cons_succ]
      omega
theorem szS_step {n : Nat} (hS : ∀ k, n = k + 1 → SzS k) : SzS n := by
  intro L v w lo h m hm hm2
  obtain ⟨N, hN⟩ : ∃ N, N = L.length := ⟨_, rfl⟩
  obtain ⟨A, c, rfl, h⟩ := HasR.shape h hN.symm
  have hl := h.len.2.1
  have HH := Lib.hid h
  have HN := Lib.hid hN
  have HS := Lib.hid hS
  clear h hN hS
  by_cases hneg : m - (N : Int) < 0
  · go_enter Tryz.func34, Tryz.ntmps34
    go_wp2
    go_ret
    exact ⟨-1, rfl, fun h => by omega, by omega, by omega, Below.refl _ _⟩
  · have hnm : (N : Int) ≤ m := by omega
    go_enter Tryz.func34, Tryz.ntmps34
    go_wp2
    go_loopw [1, 5] (fun v i wr => ∃ (k : Nat) (r : Int), k ≤ N ∧ i = .int .i64 k ∧ v = .int .i64 r ∧ 0 ≤ r ∧ r ≤ 1048576 ∧ Hid (r + (N - k) + sizes (L.take k) ≤ m) ∧ Below w.heap.size w wr) (fun _ i _ => N - (intOf i).toNat)
    case atStart => exact ⟨0, _, Nat.zero_le _, rfl, rfl, by omega, by omega, Lib.hid (by have : sizes (L.take 0) = 0 := rfl; omega), Below.refl _ _⟩
    case round =>
      obtain ⟨k, r, hk, rfl, rfl, hr0, hr1, HSM, hbel⟩ := hrel
      by_cases hlt : k < N
      · obtain ⟨k', g, o, A2, c2, hnk, rfl, _, hg, hc0, hc1, hc2, hc3, hh, hnm, _, _⟩ := term_at HH.out hlt
        rw [← hbel.cell (p := ⟨g, o + k * 4, none⟩) hg] at hc0
        rw [← hbel.cell (p := ⟨g, o + k * 4 + 1, none⟩) hg] at hc1
        rw [← hbel.cell (p := ⟨g, o + k * 4 + 2, none⟩) hg] at hc2
        rw [← hbel.cell (p := ⟨g, o + k * 4 + 3, none⟩) hg] at hc3
        have hh2 := hh.below (Nat.le_refl _) hbel
        have HST : Hid (sizes (L.take (k + 1)) = sizes (L.take k) + size (L.getD k default)) := Lib.hid (sizes_take (by have := HN.out; omega))
        obtain ⟨⟨op, l, s, ags⟩, ht⟩ : ∃ t, t = L.getD k default := ⟨_, rfl⟩
        rw [← ht] at hc0 hc1 hc2 hc3 hh2 hnm HST
        rw [size_mk] at HST
        simp only [TermM.op, TermM.name, TermM.sort, TermM.args] at hc0 hc1 hc2 hc3 hh2 hnm
        have HZ := Lib.hid (fun W (hW : Below wr.heap.size wr W) m h1 h2 => szTerm_of (HS.out k' hnk) op l s ags _ W hnm (hh2.below (Nat.le_refl _) hW) m h1 h2)
        obtain ⟨n2, hn2⟩ : ∃ n2, n2 = ags.length := ⟨_, rfl⟩
        rw [← hn2] at hc3 HZ
        clear hh hh2 hn2 ht hnm
        go_wp2_with fail
        refine (HZ.out _ (Below.refl _ _) r hr0 hr1).mono ?_
        rintro e w2 ⟨r2, rfl, hs, hs1, hs2, hb2⟩
        have HS2 := Lib.hid hs
        clear hs
        by_cases hneg2 : r2 < 0
        · go_wp2
          go_ret
          exact ⟨-1, rfl, fun h => by omega, by omega, by omega, hbel.trans (hb2.mono hbel.size)⟩
        · go_wp2
          go_roundw
          case rel => exact ⟨k + 1, r2, by omega, by go_num, rfl, by omega, hs2, Lib.hid (by have h1 := HS2.out (by omega); have h2 := HSM.out; have h3 := HST.out; omega), hbel.trans (hb2.mono hbel.size)⟩
          case measure => simp [intOf]; omega
      · obtain rfl : k = N := by omega
        have HE : Hid (r + sizes L ≤ m) := Lib.hid (by have h2 := HSM.out; rw [HN.out, List.take_length] at h2; omega)
        go_wp2
        go_ret
        exact ⟨r, rfl, fun _ => HE.out, by omega, hr1, hbel⟩
theorem szTermS_any : ∀ n, SzS n
  | 0 => szS_step (fun k h => by omega)
  | n + 1 => szS_step (fun k h => Nat.succ.inj h ▸ szTermS_any n)
theorem szTerm_any {n : Nat} (op : Int) (l : List UInt8) (s : Int) (L : List TermM) (va : Value) (w : World) {lo : Nat} (hl : l.length ≤ maxLen) (h : HasTs n lo w va L) (m : Int) (hm : 0 ≤ m) (hm2 : m ≤ 1048576) :
    Calls Tryz.prog 9 #[.agg #[.int .i64 op, .string (bstr l), .int .i64 s, va], .int .i64 m] w fun e w' => ∃ r : Int, e = .returned (.int .i64 r) ∧ (0 ≤ r → r + sizes L ≤ m) ∧ -1 ≤ r ∧ r ≤ 1048576 ∧ Below w.heap.size w w' :=
  szTerm_of (szTermS_any n) op l s L va w hl h m hm hm2
theorem bcell {W w1 : World} (hb : Below W.heap.size W w1) : (∀ b o, b < W.heap.size → w1.cell? ⟨b, o, none⟩ = W.cell? ⟨b, o, none⟩) ∧ (∀ b o, b < W.heap.size → w1.frozen? ⟨b, o, none⟩ = W.frozen? ⟨b, o, none⟩) :=
  ⟨fun b _ h => hb.cell (p := ⟨b, _, none⟩) h, fun b _ h => hb.frozen (p := ⟨b, _, none⟩) h⟩
theorem heap_at (w : World) (o : Obj) (g : Nat) (h : g = w.heap.size) : (w.alloc o).heap[g]? = some o := by subst h; show (w.heap.push o)[w.heap.size]? = _; simp
/-- four cells written into a row -/
theorem set4_old {ys : List Value} {p : Nat} {a b c d : Value} {i : Nat} (h : i < p ∨ p + 4 ≤ i) : ((((ys.set p a).set (p + 1) b).set (p + 2) c).set (p + 3) d)[i]? = ys[i]? := by
  rw [List.getElem?_set_ne (by omega), List.getElem?_set_ne (by omega), List.getElem?_set_ne (by omega), List.getElem?_set_ne (by omega)]
theorem set4_new {ys : List Value} {p : Nat} {a b c d : Value} (h : p + 4 ≤ ys.length) : ((((ys.set p a).set (p + 1) b).set (p + 2) c).set (p + 3) d)[p]? = some a ∧ ((((ys.set p a).set (p + 1) b).set (p + 2) c).set (p + 3) d)[p + 1]? = some b ∧
    ((((ys.set p a).set (p + 1) b).set (p + 2) c).set (p + 3) d)[p + 2]? = some c ∧ ((((ys.set p a).set (p + 1) b).set (p + 2) c).set (p + 3) d)[p + 3]? = some d := by
  refine ⟨?_, ?_, ?_, ?_⟩
  · rw [List.getElem?_set_ne (by omega), List.getElem?_set_ne (by omega), List.getElem?_set_ne (by omega), List.getElem?_set_self (by omega)]
  · rw [List.getElem?_set_ne (by omega), List.getElem?_set_ne (by omega), List.getElem?_set_self (by simp; omega)]
  · rw [List.getElem?_set_ne (by omega), List.getElem?_set_self (by simp; omega)]
  · rw [List.getElem?_set_self (by simp; omega)]
theorem flatMap_same {l : List Nat} {f g : Nat → List Nat} (h : ∀ a ∈ l, f a = g a) : l.flatMap f = l.flatMap g := by
  rw [List.flatMap_def, List.flatMap_def, List.map_congr_left h]
/-- one element's three plain cells and its row -/
def Cells4 (ys : List Value) (j : Nat) (t : TermM) (v : Value) : Prop := ys[j * 4]? = some (.int .i64 t.op) ∧ ys[j * 4 + 1]? = some (.string (bstr t.name)) ∧ ys[j * 4 + 2]? = some (.int .i64 t.sort) ∧ ys[j * 4 + 3]? = some v
def Bnd (t : TermM) : Prop := t.name.length ≤ maxLen ∧ I64 t.op ∧ I64 t.sort
/-- the first j elements of a row are written, each with a row of its own -/
def Part (T : TypeId) (n B : Nat) (w : World) (ys : List Value) (L : List TermM) (j : Nat) : Prop :=
  ∃ (vs : Nat → Value) (Ss : Nat → List Nat), ((List.range j).flatMap Ss).Nodup ∧ ∀ i, i < j → Cells4 ys i (L.getD i default) (vs i) ∧ Bnd (L.getD i default) ∧ OT T n B w (vs i) (L.getD i default).args (Ss i)
theorem Part.zero (T : TypeId) (n B : Nat) (w : World) (ys : List Value) (L : List TermM) : Part T n B w ys L 0 := ⟨fun _ => undef, fun _ => [], by simp, fun i hi => by omega⟩
theorem Part.step {T : TypeId} {n B : Nat} {w w2 w3 : World} {ys : List Value} {L : List TermM} {j g : Nat} {v2 : Value} {S2 : List Nat} {t : TermM} (h : Part T n B w ys L j) (ht : t = L.getD j default) (hb : Below w.heap.size w w2)
    (ho : OT T n w.heap.size w2 v2 t.args S2) (hB : B ≤ w.heap.size) (hc : Chg [g] w2 w3) (hg : g < B) (hl : j * 4 + 4 ≤ ys.length) (hbd : Bnd t) :
    Part T n B w3 ((((ys.set (j * 4) (.int .i64 t.op)).set (j * 4 + 1) (.string (bstr t.name))).set (j * 4 + 2) (.int .i64 t.sort)).set (j * 4 + 3) v2) L (j + 1) := by
  subst ht
  obtain ⟨vs, Ss, hnd, hi⟩ := h
  refine ⟨fun i => if i = j then v2 else vs i, fun i => if i = j then S2 else Ss i, ?_, fun i hij => ?_⟩
  · rw [List.range_succ, List.flatMap_append, flatMap_same (g := Ss) (fun a ha => by rw [if_neg (by have := List.mem_range.1 ha; omega)])]
    simp only [List.flatMap_cons, List.flatMap_nil, List.append_nil, if_pos]
    refine List.nodup_append.2 ⟨hnd, ho.nodup, fun a ha b hb2 e => ?_⟩
    obtain ⟨q, hq, haq⟩ := List.mem_flatMap.1 ha
    have h1 := ((hi q (List.mem_range.1 hq)).2.2.lt a haq).2
    have h2 := (ho.lt b hb2).1
    omega
  · show Cells4 _ i _ (if i = j then v2 else vs i) ∧ _ ∧ OT T n B w3 (if i = j then v2 else vs i) _ (if i = j then S2 else Ss i)
    by_cases e : i = j
    · subst e
      obtain ⟨a, b, c, d⟩ := set4_new (a := .int .i64 (L.getD i default).op) (b := .string (bstr (L.getD i default).name)) (c := .int .i64 (L.getD i default).sort) (d := v2) hl
      refine ⟨⟨a, b, c, by rw [if_pos rfl]; exact d⟩, hbd, ?_⟩
      rw [if_pos rfl, if_pos rfl]
      exact (ho.chg hc (fun k hk => by have := (ho.lt k hk).1; simp; omega)).mono hB
    · obtain ⟨⟨a, b, c, d⟩, hbd2, h3⟩ := hi i (by omega)
      rw [if_neg e, if_neg e]
      refine ⟨⟨?_, ?_, ?_, ?_⟩, hbd2, ?_⟩
      · rw [set4_old (by omega)]; exact a
      · rw [set4_old (by omega)]; exact b
      · rw [set4_old (by omega)]; exact c
      · rw [set4_old (by omega)]; exact d
      · exact (h3.below hb).chg hc (fun k hk => by have := (h3.lt k hk).1; simp; omega)
theorem Part.done {T : TypeId} {n B lo : Nat} {w : World} {ys : List Value} {L : List TermM} {v : Value} (h : Part T n B w ys L L.length) (ho : w.ownsRow lo T 4 v L.length ys) (hv : ∀ g, v.ownBlock = some g → g < B) (hB : lo ≤ B) : ∃ S, OT T (n + 1) lo w v L S := by
  obtain ⟨vs, Ss, hnd, hi⟩ := h
  refine ⟨_, ys, vs, Ss, ho, rfl, ?_, fun j hj => ⟨(hi j hj).1, (hi j hj).2.1, (hi j hj).2.2.mono hB⟩⟩
  refine List.nodup_append.2 ⟨?_, hnd, fun a ha b hb2 e => ?_⟩
  · cases v.ownBlock <;> simp
  · obtain ⟨q, hq, hbq⟩ := List.mem_flatMap.1 hb2
    have h1 := ((hi q (List.mem_range.1 hq)).2.2.lt b hbq).1
    have h2 := hv a (by simpa using ha)
    omega
theorem chg_set1 {w w' : World} {g : Nat} (h : Chg [g] w w') (j : Nat) (u : Value) : Chg [g] w (w'.setCell ⟨g, j, none⟩ u) := h.trans (Chg.set (by simp) u)
theorem info_term : (Tryz.prog.info? 44).map (fun i => (i.zero, i.size, i.bytes)) = some (some (.agg #[.int .i64 0, .string { data := #[] }, .int .i64 0, .slice none 0 0]), 4, 56) := by kernel_rfl
/-- laws.toTermS, at terms of at most this depth -/
def ToS (n : Nat) : Prop := ∀ (L : List TermM) (v : Value) (w : World) (lo : Nat), HasTs n lo w v L → sizes L ≤ 1048576 →
  Calls Tryz.prog 39 #[v] w fun e w' => ∃ v' S, e = .returned v' ∧ OT 44 (n + 1) w.heap.size w' v' L S ∧ Below w.heap.size w w'
theorem OT.shape {T : TypeId} {n lo : Nat} {w : World} {v : Value} {L : List TermM} {S : List Nat} (h : OT T (n + 1) lo w v L S) : ∃ A c, v = .slice A L.length c := by
  obtain ⟨xs, vs, Ss, ho, _⟩ := h
  obtain ⟨A, c, e, _⟩ := own_slice ho
  exact ⟨A, c, e⟩
/-- laws.toTerm -/
theorem toTerm_of {n : Nat} (hT : ToS n) (op : Int) (l : List UInt8) (s : Int) (L : List TermM) (hL : sizes L ≤ 1048576) (va : Value) (w : World) {lo : Nat} (h : HasTs n lo w va L) :
    Calls Tryz.prog 12 #[.agg #[.int .i64 op, .string (bstr l), .int .i64 s, va]] w fun e w' => ∃ v S, e = .returned (.agg #[.int .i64 op, .string (bstr l), .int .i64 s, v]) ∧ OT 44 (n + 1) w.heap.size w' v L S ∧ Below w.heap.size w w' := by
  have HSA := Lib.hid (fun W (hW : Below w.heap.size w W) => hT L va W lo (h.below (Nat.le_refl _) hW) hL)
  obtain ⟨A, ca, rfl, h'⟩ := HasR.shape h rfl
  obtain ⟨k, hk⟩ : ∃ k, k = L.length := ⟨_, rfl⟩
  have HN := Lib.hid hk
  rw [← hk] at HSA ⊢
  clear h h' hk
  go_enter Tryz.func12, Tryz.ntmps12
  go_wp2_with fail
  refine (HSA.out _ ?_).mono ?_
  · repeat (first | exact Below.refl _ _ | refine Below.setCell ?_ (by first | (simp; done) | (simp; omega)) _ | refine Below.alloc ?_ (by first | (simp; done) | (simp; omega)) _)
  rintro e w1 ⟨v1, S1, rfl, hh1, hb1⟩
  obtain ⟨A1, c1, rfl⟩ := OT.shape hh1
  rw [← HN.out] at hh1 ⊢
  have HO1 := Lib.hid (hh1.mono (lo' := w.heap.size + 1 + 1 + 1) (by simp))
  have hk1 : w1.heap[w.heap.size + 1]? = some (.cells #[.int .i64 0, .string { data := #[] }, .int .i64 0, .slice none 0 0] 44 (0, 0)) := by
    rw [hb1.block _ (by simp)]; exact (Below.heap_alloc _ _ _ (by simp)).trans (heap_at _ _ _ (by simp))
  have d0 : w1.cell? ⟨w.heap.size + 1, 0, none⟩ = some (.int .i64 0) := cell_of_row w1 _ 0 _ _ _ hk1
  have d1 : w1.cell? ⟨w.heap.size + 1, 1, none⟩ = some (.string { data := #[] }) := cell_of_row w1 _ 1 _ _ _ hk1
  have d2 : w1.cell? ⟨w.heap.size + 1, 2, none⟩ = some (.int .i64 0) := cell_of_row w1 _ 2 _ _ _ hk1
  have d3 : w1.cell? ⟨w.heap.size + 1, 3, none⟩ = some (.slice none 0 0) := cell_of_row w1 _ 3 _ _ _ hk1
  have e0 := frozen_of_row w1 _ 0 _ _ hk1
  have e1 := frozen_of_row w1 _ 1 _ _ hk1
  have e2 := frozen_of_row w1 _ 2 _ _ hk1
  have e3 := frozen_of_row w1 _ 3 _ _ hk1
  have hbw : Below w.heap.size w w1 := by
    refine Below.trans ?_ (hb1.mono ?_)
    · repeat (first | exact Below.refl _ _ | refine Below.setCell ?_ (by first | (simp; done) | (simp; omega)) _ | refine Below.alloc ?_ (by first | (simp; done) | (simp; omega)) _)
    · simp; omega
  obtain ⟨hc1, hf1⟩ := bcell hb1
  have hz : w.heap.size + 2 < w1.heap.size := by have := hb1.size; simp at this; omega
  clear hh1 hk1 hb1
  go_wp2
  refine bodyPost_ret (v := .agg #[.int .i64 op, .string (bstr l), .int .i64 s, .slice A1 k c1]) (by simp [results, Tryz.results12, go_sem, d0, d1, d2, d3]) rfl ⟨_, S1, rfl, ?_, ?_⟩
  · refine OT.mono (lo := w.heap.size + 1 + 1 + 1) ?_ (by omega)
    refine HO1.out.chg (S' := [w.heap.size + 1, w.heap.size + 2]) ?_ (fun q hq => by have := (HO1.out.lt q hq).1; simp; omega)
    refine Chg.trans ?_ (Chg.set (by simp) _)
    repeat (refine Chg.trans ?_ (Chg.set (by simp) _))
    exact Chg.refl _ _
  · repeat (refine Below.setCell ?_ (by first | (simp; done) | (simp; omega)) _)
    exact hbw
theorem toS_step {n : Nat} (hS : ∀ k, n = k + 1 → ToS k) : ToS n := by
  intro L v w lo h hsz
  obtain ⟨N, hN⟩ : ∃ N, N = L.length := ⟨_, rfl⟩
  obtain ⟨A, c, rfl, h⟩ := HasR.shape h hN.symm
  obtain ⟨i0, hi, hz0, hz1, hz2⟩ := info_parts info_term
  have hn2 : N ≤ 1048576 := by have := sizes_len L; omega
  have HH := Lib.hid h
  have HN := Lib.hid hN
  have HS := Lib.hid hS
  have HSZ := Lib.hid hsz
  clear h hN hS hsz
  go_enter Tryz.func39, Tryz.ntmps39
  go_wp2_with (at_make; refine wpList_make_full _ rfl _ _ 42 rfl w.heap.size 44 i0 _ 4 Tryz.underlying42 hi hz0 hz1 _ _ _ _ N rfl rfl rfl rfl (by rw [hz2]; omega) (by unfold maxLen; omega) (Nat.le_refl _) ?_)
  intro w1 hown hgrow
  have hsz1 : w.heap.size < w1.heap.size := by
    rcases hown.2 with ⟨hv, _⟩ | ⟨g, cap, cur, hv, hb, hg, _⟩
    · cases hv
    · have := (Array.getElem?_eq_some_iff.1 hg).1; omega
  go_wp2
  go_loopw [4] (fun i wr => ∃ (j : Nat) (ys : List Value), j ≤ N ∧ i = .int .i64 j ∧ wr.ownsRow w.heap.size 44 4 (.slice (some ⟨w.heap.size, 0, none⟩) N N) N ys ∧
      Hid (Part 44 n (w.heap.size + 1) wr ys L j) ∧ w.heap.size < wr.heap.size ∧ Below w.heap.size w wr) (fun i _ => N - (intOf i).toNat)
  case atStart => exact ⟨0, _, Nat.zero_le _, rfl, hown, Lib.hid (Part.zero _ _ _ _ _ _), hsz1, (Below.refl _ _).grown hgrow (Nat.le_refl _) (by intro k h; cases h)⟩
  case round =>
    obtain ⟨j, ys, hj, rfl, hown, HY, hsz, hbel⟩ := hrel
    by_cases hlt : j < N
    · obtain ⟨k', g, o, A2, c2, hnk, rfl, _, hg, hc0, hc1, hc2, hc3, hh, hbd⟩ := term_at HH.out hlt
      rw [← hbel.cell (p := ⟨g, o + j * 4, none⟩) hg] at hc0
      rw [← hbel.cell (p := ⟨g, o + j * 4 + 1, none⟩) hg] at hc1
      rw [← hbel.cell (p := ⟨g, o + j * 4 + 2, none⟩) hg] at hc2
      rw [← hbel.cell (p := ⟨g, o + j * 4 + 3, none⟩) hg] at hc3
      have hh2 := hh.below (Nat.le_refl _) hbel
      have hse : sizes (L.getD j default).args ≤ 1048576 := by
        have h1 := HSZ.out
        have h2 := size_le_sizes (l := L) (j := j) (by have := HN.out; omega)
        rw [← (L.getD j default).eta, size_mk] at h2
        omega
      obtain ⟨t, ht⟩ : ∃ t, t = L.getD j default := ⟨_, rfl⟩
      rw [← ht] at hc0 hc1 hc2 hc3 hh2 hbd hse
      have HT := Lib.hid (hnk ▸ toTerm_of (HS.out k' hnk) t.op t.name t.sort t.args hse _ wr hh2 : Calls Tryz.prog 12 _ wr fun e w' => ∃ v S, e = .returned (.agg #[.int .i64 t.op, .string (bstr t.name), .int .i64 t.sort, v]) ∧ OT 44 n wr.heap.size w' v t.args S ∧ Below wr.heap.size wr w')
      have HX := Lib.hid ht
      have HB := Lib.hid hbd
      have HOWN := Lib.hid hown
      obtain ⟨q, hq⟩ : ∃ q, q = t.args.length := ⟨_, rfl⟩
      obtain ⟨op, hop⟩ : ∃ x, x = t.op := ⟨_, rfl⟩
      obtain ⟨nm, hnm⟩ : ∃ x, x = t.name := ⟨_, rfl⟩
      obtain ⟨so, hso⟩ : ∃ x, x = t.sort := ⟨_, rfl⟩
      rw [← hq] at hc3 HT
      rw [← hop] at hc0 HT
      rw [← hnm] at hc1 HT
      rw [← hso] at hc2 HT
      have HE := Lib.hid (And.intro hop (And.intro hnm hso))
      have HK := Lib.hid hnk
      have HQ := Lib.hid hq
      clear hh hh2 ht hown hbd hq hop hnm hso hnk hse
      go_wp2_with fail
      refine (HT.out).mono ?_
      rintro e w2 ⟨v2, S2, rfl, hv2, hb2⟩
      have HO2 := Lib.hid (own_below HOWN.out hb2)
      have HV := Lib.hid hv2
      have HB2 := Lib.hid hb2
      obtain ⟨⟨v0, hw0⟩, hf0⟩ := own_get HO2.out (i := j * 4) (by omega)
      obtain ⟨⟨v1, hw1⟩, hf1⟩ := own_get HO2.out (i := j * 4 + 1) (by omega)
      obtain ⟨⟨v2', hw2⟩, hf2⟩ := own_get HO2.out (i := j * 4 + 2) (by omega)
      obtain ⟨⟨v3, hw3⟩, hf3⟩ := own_get HO2.out (i := j * 4 + 3) (by omega)
      obtain ⟨A3, c3, hsl⟩ : ∃ A c, v2 = .slice A t.args.length c := by
        have h := hv2
        rw [HK.out] at h
        exact OT.shape h
      rw [← HQ.out] at hsl
      subst hsl
      clear hv2
      go_wp2
      go_roundw
      case rel =>
        refine ⟨j + 1, _, by omega, by go_num, setCell_own (setCell_own (setCell_own (setCell_own HO2.out (j * 4) _) (j * 4 + 1) _) (j * 4 + 2) _) (j * 4 + 3) _, Lib.hid ?_, by simp [World.setCell]; have := hb2.size; omega, ((((hbel.trans (hb2.mono hbel.size)).setCell (Nat.le_refl _) _).setCell (Nat.le_refl _) _).setCell (Nat.le_refl _) _).setCell (Nat.le_refl _) _⟩
        have hlen : ys.length = N * 4 := by have := HOWN.out.1; omega
        obtain ⟨h1, h2, h3⟩ := HE.out
        rw [h1, h2, h3]
        exact Part.step HY.out HX.out HB2.out HV.out (by omega) (chg_set1 (chg_set1 (chg_set1 (chg_set1 (Chg.refl _ _) _ _) _ _) _ _) _ _) (Nat.lt_succ_self _) (by omega) HB.out
      case measure => simp [intOf]; omega
    · obtain rfl : j = N := by omega
      have HW : Hid (∃ S, OT 44 (n + 1) w.heap.size wr (.slice (some ⟨w.heap.size, 0, none⟩) j j) L S) := Lib.hid (by
        have h1 := HY.out
        rw [HN.out] at h1 hown
        rw [HN.out]
        exact Part.done h1 hown (fun g hg => by simp [Value.ownBlock] at hg; omega) (by omega))
      clear hown
      go_wp2
      go_ret
      obtain ⟨S, hS⟩ := HW.out
      exact ⟨_, S, rfl, hS, hbel⟩
theorem toTermS_any : ∀ n, ToS n
  | 0 => toS_step (fun k h => by omega)
  | n + 1 => toS_step (fun k h => Nat.succ.inj h ▸ toTermS_any n)
theorem toTerm_any {n : Nat} (op : Int) (l : List UInt8) (s : Int) (L : List TermM) (hL : sizes L ≤ 1048576) (va : Value) (w : World) {lo : Nat} (h : HasTs n lo w va L) :
    Calls Tryz.prog 12 #[.agg #[.int .i64 op, .string (bstr l), .int .i64 s, va]] w fun e w' => ∃ v S, e = .returned (.agg #[.int .i64 op, .string (bstr l), .int .i64 s, v]) ∧ OT 44 (n + 1) w.heap.size w' v L S ∧ Below w.heap.size w w' :=
  toTerm_of (toTermS_any n) op l s L hL va w h
end Go.Proofs.YtjejdcehlckfhaaGreat.termt
/-
  CONTRACTS OF THE LAWS' OWN FUNCTIONS ON TERMS: eqTerm (at equal terms), markTerm and heldTermS, and those of their rows.
-/
namespace Go.Proofs.YtjejdcehlckfhaaGreat.termu
open Go.ChangeShapes Go.WideShapes Go.ChangeAt Go.RowKit
open mem dec rowl trm trmv terml termt

theorem op_mk (o : Int) (n : List UInt8) (s : Int) (l : List TermM) : (TermM.mk o n s l).op = o := rfl
theorem name_mk (o : Int) (n : List UInt8) (s : Int) (l : List TermM) : (TermM.mk o n s l).name = n := rfl
theorem sort_mk (o : Int) (n : List UInt8) (s : Int) (l : List TermM) : (TermM.mk o n s l).sort = s := rfl
theorem args_mk (o : Int) (n : List UInt8) (s : Int) (l : List TermM) : (TermM.mk o n s l).args = l := rfl
/-- laws.eqTermS, at equal terms of at most this depth -/
def EqS (n : Nat) : Prop := ∀ (L : List TermM) (va vb : Value) (w : World) (lo lo' : Nat), HasTs n lo w va L → HasTs n lo' w vb L →
  Calls Tryz.prog 44 #[va, vb] w fun e w' => e = .returned (.bool true) ∧ Below w.heap.size w w'
/-- laws.eqTerm -/
theorem eqTerm_of {n : Nat} (hS : EqS n) (op : Int) (l : List UInt8) (s : Int) (L : List TermM) (va vb : Value) (w : World) {lo lo' : Nat} (ha : HasTs n lo w va L) (hb : HasTs n lo' w vb L) :
    Calls Tryz.prog 15 #[.agg #[.int .i64 op, .string (bstr l), .int .i64 s, va], .agg #[.int .i64 op, .string (bstr l), .int .i64 s, vb]] w fun e w' => e = .returned (.bool true) ∧ Below w.heap.size w w' := by
  have HE := Lib.hid (fun W (hW : Below w.heap.size w W) => hS L va vb W lo lo' (ha.below (Nat.le_refl _) hW) (hb.below (Nat.le_refl _) hW))
  obtain ⟨A, ca, rfl, _⟩ := HasR.shape ha rfl
  obtain ⟨B, cb, rfl, _⟩ := HasR.shape hb rfl
  obtain ⟨k, hk⟩ : ∃ k, k = L.length := ⟨_, rfl⟩
  rw [← hk] at HE ⊢
  clear ha hb hk
  go_enter Tryz.func15, Tryz.ntmps15
  go_wp2_with fail
  refine (HE.out _ (((Below.refl _ _).alloc (Nat.le_refl _) _).alloc (by simp) _)).mono ?_
  rintro e w1 ⟨rfl, hb1⟩
  have hbw : Below w.heap.size w w1 := (((Below.refl _ _).alloc (Nat.le_refl _) _).alloc (by simp) _).trans (hb1.mono (by simp; omega))
  clear hb1
  go_wp2
  go_ret
  exact ⟨rfl, hbw⟩
/-- eight cells stay, whatever a call adds -/
theorem keep_eight {wr w0 w1 : World} {g g' o o' : Nat} {a0 a1 a2 a3 b0 b1 b2 b3 : Value}
    (h : (w0.cell? ⟨g, o, none⟩ = some a0 ∧ w0.cell? ⟨g, o + 1, none⟩ = some a1 ∧ w0.cell? ⟨g, o + 2, none⟩ = some a2 ∧ w0.cell? ⟨g, o + 3, none⟩ = some a3 ∧
      w0.cell? ⟨g', o', none⟩ = some b0 ∧ w0.cell? ⟨g', o' + 1, none⟩ = some b1 ∧ w0.cell? ⟨g', o' + 2, none⟩ = some b2 ∧ w0.cell? ⟨g', o' + 3, none⟩ = some b3) ∧ Below wr.heap.size wr w0)
    (hp : g < wr.heap.size ∧ g' < wr.heap.size) (hb : Below w0.heap.size w0 w1) :
    (w1.cell? ⟨g, o, none⟩ = some a0 ∧ w1.cell? ⟨g, o + 1, none⟩ = some a1 ∧ w1.cell? ⟨g, o + 2, none⟩ = some a2 ∧ w1.cell? ⟨g, o + 3, none⟩ = some a3 ∧
      w1.cell? ⟨g', o', none⟩ = some b0 ∧ w1.cell? ⟨g', o' + 1, none⟩ = some b1 ∧ w1.cell? ⟨g', o' + 2, none⟩ = some b2 ∧ w1.cell? ⟨g', o' + 3, none⟩ = some b3) ∧ Below wr.heap.size wr w1 := by
  have hs := h.2.size
  have k : ∀ x, w1.cell? ⟨g, x, none⟩ = w0.cell? ⟨g, x, none⟩ := fun x => hb.cell (p := ⟨g, x, none⟩) (by show g < _; omega)
  have k' : ∀ x, w1.cell? ⟨g', x, none⟩ = w0.cell? ⟨g', x, none⟩ := fun x => hb.cell (p := ⟨g', x, none⟩) (by show g' < _; omega)
  rw [k, k, k, k, k', k', k', k']
  exact ⟨h.1, h.2.trans (hb.mono hs)⟩
/-- three cells stay, whatever a call adds -/
theorem keep_three3 {wr w0 w1 : World} {g o1 o2 o3 : Nat} {a1 a2 a3 : Value} (h : (w0.cell? ⟨g, o1, none⟩ = some a1 ∧ w0.cell? ⟨g, o2, none⟩ = some a2 ∧ w0.cell? ⟨g, o3, none⟩ = some a3) ∧ Below wr.heap.size wr w0)
    (hp : g < wr.heap.size) (hb : Below w0.heap.size w0 w1) : (w1.cell? ⟨g, o1, none⟩ = some a1 ∧ w1.cell? ⟨g, o2, none⟩ = some a2 ∧ w1.cell? ⟨g, o3, none⟩ = some a3) ∧ Below wr.heap.size wr w1 := by
  have hs := h.2.size
  have k : ∀ x, w1.cell? ⟨g, x, none⟩ = w0.cell? ⟨g, x, none⟩ := fun x => hb.cell (p := ⟨g, x, none⟩) (by show g < _; omega)
  rw [k, k, k]
  exact ⟨h.1, h.2.trans (hb.mono hs)⟩
theorem eqS_step {n : Nat} (hS : ∀ k, n = k + 1 → EqS k) : EqS n := by
  intro L va vb w lo lo' ha hb
  obtain ⟨N, hN⟩ : ∃ N, N = L.length := ⟨_, rfl⟩
  obtain ⟨A, ca, rfl, ha⟩ := HasR.shape ha hN.symm
  obtain ⟨B, cb, rfl, hb⟩ := HasR.shape hb hN.symm
  have hla := ha.len.2.1
  have HA := Lib.hid ha
  have HB := Lib.hid hb
  have HS := Lib.hid hS
  clear ha hb hN hS
  go_enter Tryz.func44, Tryz.ntmps44
  go_wp2
  go_loopw [5] (fun i wr => ∃ k : Nat, k ≤ N ∧ i = .int .i64 k ∧ Below w.heap.size w wr) (fun i _ => N - (intOf i).toNat)
  case atStart => exact ⟨0, Nat.zero_le _, rfl, Below.refl _ _⟩
  case round =>
    obtain ⟨k, hk, rfl, hbel⟩ := hrel
    by_cases hlt : k < N
    · obtain ⟨ka, ga, oa, A2, a2, hna, rfl, _, hga, ha0, ha1, ha2, ha3, hha, _⟩ := term_at HA.out hlt
      obtain ⟨kb, gb, ob, B2, b2, hnb, rfl, _, hgb, hb0, hb1, hb2, hb3, hhb, _⟩ := term_at HB.out hlt
      obtain rfl : ka = kb := by omega
      have qa : ∀ x, w.cell? ⟨ga, x, none⟩ = wr.cell? ⟨ga, x, none⟩ := fun x => (hbel.cell (p := ⟨ga, x, none⟩) hga).symm
      have qb : ∀ x, w.cell? ⟨gb, x, none⟩ = wr.cell? ⟨gb, x, none⟩ := fun x => (hbel.cell (p := ⟨gb, x, none⟩) hgb).symm
      rw [qa] at ha0 ha1 ha2 ha3
      rw [qb] at hb0 hb1 hb2 hb3
      have hga2 : ga < wr.heap.size := Nat.lt_of_lt_of_le hga hbel.size
      have hgb2 : gb < wr.heap.size := Nat.lt_of_lt_of_le hgb hbel.size
      have hh1 := hha.below (Nat.le_refl _) hbel
      have hh2 := hhb.below (Nat.le_refl _) hbel
      obtain ⟨⟨op, nm, so, D⟩, hd⟩ : ∃ d, d = L.getD k default := ⟨_, rfl⟩
      rw [← hd] at ha0 ha1 ha2 ha3 hb0 hb1 hb2 hb3 hh1 hh2
      obtain ⟨m, hm⟩ : ∃ m, m = D.length := ⟨_, rfl⟩
      simp only [TermM.op, TermM.name, TermM.sort, TermM.args, ← hm] at ha0 ha1 ha2 ha3 hb0 hb1 hb2 hb3 hh1 hh2
      have HE := Lib.hid (fun W (hW : Below wr.heap.size wr W) => eqTerm_of (HS.out ka hna) op nm so D _ _ W (hh1.below (Nat.le_refl _) hW) (hh2.below (Nat.le_refl _) hW))
      clear hh1 hh2 hha hhb hd hm qa qb hna hnb
      go_wp2_with fail
      go_region_held3 (fun w' => (w'.cell? ⟨ga, oa + k * 4, none⟩ = some (.int .i64 op) ∧ w'.cell? ⟨ga, oa + k * 4 + 1, none⟩ = some (.string (bstr nm)) ∧ w'.cell? ⟨ga, oa + k * 4 + 2, none⟩ = some (.int .i64 so) ∧ w'.cell? ⟨ga, oa + k * 4 + 3, none⟩ = some (.slice A2 m a2) ∧
          w'.cell? ⟨gb, ob + k * 4, none⟩ = some (.int .i64 op) ∧ w'.cell? ⟨gb, ob + k * 4 + 1, none⟩ = some (.string (bstr nm)) ∧ w'.cell? ⟨gb, ob + k * 4 + 2, none⟩ = some (.int .i64 so) ∧ w'.cell? ⟨gb, ob + k * 4 + 3, none⟩ = some (.slice B2 m b2)) ∧ Below wr.heap.size wr w')
        (first | (refine ⟨⟨?_, ?_, ?_, ?_, ?_, ?_, ?_, ?_⟩, (Below.refl _ _).drew⟩ <;> assumption) | (go_split_ands; exact keep_eight (g := ga) (g' := gb) ⟨⟨by assumption, by assumption, by assumption, by assumption, by assumption, by assumption, by assumption, by assumption⟩, by assumption⟩ ⟨hga2, hgb2⟩ (by assumption)))
        ((go_at_call 15; go_split_ands; refine (HE.out _ (by assumption)).mono ?_; rintro e w1 ⟨rfl, hb1⟩))
      go_wp2
      go_roundw
      case rel =>
        have hh : Below wr.heap.size wr w1 := by go_split_ands; assumption
        exact ⟨k + 1, by omega, by go_num, hbel.trans (hh.mono hbel.size)⟩
      case measure => simp [intOf]; omega
    · obtain rfl : k = N := by omega
      go_wp2
      go_ret
      exact ⟨rfl, hbel⟩
theorem eqTermS_same : ∀ n, EqS n
  | 0 => eqS_step (fun k h => by omega)
  | n + 1 => eqS_step (fun k h => Nat.succ.inj h ▸ eqTermS_same n)
theorem eqS_any {n m : Nat} (L : List TermM) (va vb : Value) (w : World) {lo lo' : Nat} (ha : HasTs n lo w va L) (hb : HasTs m lo' w vb L) :
    Calls Tryz.prog 44 #[va, vb] w fun e w' => e = .returned (.bool true) ∧ Below w.heap.size w w' :=
  eqTermS_same (max n m) L va vb w lo lo' (ha.up (Nat.le_max_left _ _)) (hb.up (Nat.le_max_right _ _))
theorem eqTerm_any {n m : Nat} (op : Int) (l : List UInt8) (s : Int) (L : List TermM) (va vb : Value) (w : World) {lo lo' : Nat} (ha : HasTs n lo w va L) (hb : HasTs m lo' w vb L) :
    Calls Tryz.prog 15 #[.agg #[.int .i64 op, .string (bstr l), .int .i64 s, va], .agg #[.int .i64 op, .string (bstr l), .int .i64 s, vb]] w fun e w' => e = .returned (.bool true) ∧ Below w.heap.size w w' :=
  eqTerm_of (eqTermS_same (max n m)) op l s L va vb w (ha.up (Nat.le_max_left _ _)) (hb.up (Nat.le_max_right _ _))
theorem far_cell {w : World} {g i j : Nat} {v : Value} (h : i ≠ j) : (w.setCell ⟨g, i, none⟩ v).cell? ⟨g, j, none⟩ = w.cell? ⟨g, j, none⟩ :=
  World.cell?_setCell_other w ⟨g, i, none⟩ ⟨g, j, none⟩ v (fun e => h (congrArg Addr.off e))
/-- the text of a mark -/
def tx (k : Nat) : List UInt8 := 109 :: dig k
/-- the first j terms marked -/
noncomputable def mixT (L : List TermM) (k j : Nat) : List TermM := (mkL tx L k).take j ++ L.drop j
theorem mixT_len (L : List TermM) (k j : Nat) (hj : j ≤ L.length) : (mixT L k j).length = L.length := by
  simp [mixT, mkL_len]; omega
theorem mixT_at (L : List TermM) (k j : Nat) (hj : j < L.length) : (mixT L k j).getD j default = L.getD j default := by
  simp [mixT, List.getD, mkL_len, List.getElem?_append, Nat.min_eq_left (Nat.le_of_lt hj)]
theorem mixT_step (L : List TermM) (k j : Nat) (hj : j < L.length) : mixT L k (j + 1) = (mixT L k j).set j (mkT tx (L.getD j default) (offs L k j)) := by
  have h1 : j < (mkL tx L k).length := by rw [mkL_len]; exact hj
  have h2 := mkL_get tx L k j hj
  rw [getD_at h1] at h2
  have h3 : ((mkL tx L k).take j).length = j := by rw [List.length_take]; omega
  rw [mixT, List.take_succ_eq_append_getElem h1, h2, mixT, List.set_append_right _ _ (by omega), h3, Nat.sub_self]
  conv => rhs; rw [List.drop_eq_getElem_cons hj]
  rw [List.set_cons_zero, List.append_assoc]
  rfl
theorem mixT_zero (L : List TermM) (k : Nat) : mixT L k 0 = L := by simp [mixT]
theorem mixT_all (L : List TermM) (k : Nat) : mixT L k L.length = mkL tx L k := by simp [mixT, ← mkL_len tx L k]
/-- one element written, its row too -/
theorem ot_set {T : TypeId} {n lo : Nat} {w w' : World} {v : Value} {M : List TermM} {S : List Nat} {xs xs' : List Value} {vs : Nat → Value} {Ss : Nat → List Nat} (hS : S = v.ownBlock.toList ++ (List.range M.length).flatMap Ss) (hnd : S.Nodup)
    (hj : ∀ j, j < M.length → Cells4 xs j (M.getD j default) (vs j) ∧ Bnd (M.getD j default) ∧ OT T n lo w (vs j) (M.getD j default).args (Ss j))
    {j : Nat} {t : TermM} (hlt : j < M.length) (ho : w'.ownsRow lo T 4 v M.length xs') (hold : ∀ i, i < j * 4 ∨ j * 4 + 4 ≤ i → xs'[i]? = xs[i]?) (hnew : Cells4 xs' j t (vs j)) (hb : Bnd t)
    (hc : Chg (v.ownBlock.toList ++ Ss j) w w') (hot : OT T n lo w' (vs j) t.args (Ss j)) : OT T (n + 1) lo w' v (M.set j t) S := by
  refine ⟨xs', vs, Ss, by rw [List.length_set]; exact ho, by rw [List.length_set]; exact hS, hnd, fun i hi => ?_⟩
  rw [List.length_set] at hi
  by_cases e : i = j
  · subst e
    have : (M.set i t).getD i default = t := by simp [List.getD, hi]
    rw [this]
    exact ⟨hnew, hb, hot⟩
  · have : (M.set j t).getD i default = M.getD i default := by simp [List.getD, List.getElem?_set_ne (Ne.symm e)]
    rw [this]
    obtain ⟨⟨a, b, c, d⟩, h2, h3⟩ := hj i hi
    refine ⟨⟨?_, ?_, ?_, ?_⟩, h2, h3.chg hc (fun q hq hm => ?_)⟩
    · rw [hold _ (by omega)]; exact a
    · rw [hold _ (by omega)]; exact b
    · rw [hold _ (by omega)]; exact c
    · rw [hold _ (by omega)]; exact d
    · rw [hS] at hnd
      obtain ⟨_, n2, n3⟩ := List.nodup_append.1 hnd
      rcases List.mem_append.1 hm with hm | hm
      · exact n3 q hm q (List.mem_flatMap.2 ⟨i, by simpa using hi, hq⟩) rfl
      · have h4 := (List.pairwise_flatMap.1 n2).2
        have h5 : ∀ a b, a < b → b < M.length → ∀ x, x ∈ Ss a → x ∉ Ss b := by
          intro a b hab hbl x hx hx2
          have := (List.pairwise_iff_getElem.1 h4) a b (by simp; omega) (by simpa using hbl) hab
          simp only [List.getElem_range] at this
          exact this x hx x hx2 rfl
        rcases Nat.lt_or_gt_of_ne e with h6 | h6
        · exact h5 i j h6 hlt q hq hm
        · exact h5 j i h6 hi q hm hq
/-- laws.markTermS, at rows of one's own of at most this depth -/
def MkS (n : Nat) : Prop := ∀ (L : List TermM) (v : Value) (S : List Nat) (w : World) (lo k : Nat), OT 44 n lo w v L S → k + 3 * sizes L ≤ 1073741824 →
  Calls Tryz.prog 66 #[v, .int .i64 k] w fun e w' => e = .returned (.int .i64 ((k + 3 * sizes L : Nat) : Int)) ∧ OT 44 n lo w' v (mkL tx L k) S ∧ Chg S w w'
set_option maxRecDepth 20000 in
set_option maxHeartbeats 2000000 in
theorem mkS_step {n : Nat} (hS : ∀ k, n = k + 1 → MkS k) : MkS n := by
  intro L v S w lo k h hk
  cases n with
  | zero => exact h.elim
  | succ n =>
  have HS := Lib.hid (hS n rfl)
  obtain ⟨N, hN⟩ : ∃ N, N = L.length := ⟨_, rfl⟩
  have HN := Lib.hid hN
  obtain ⟨A, c, rfl⟩ := OT.shape h
  have hNl : N ≤ 1073741824 := by have := sizes_len L; omega
  rw [← hN] at h ⊢
  have HH := Lib.hid h
  clear h hS hN
  go_enter Tryz.func66, Tryz.ntmps66
  go_wp2
  go_loopw [1, 5] (fun v i wr => ∃ j : Nat, j ≤ N ∧ i = .int .i64 j ∧ v = .int .i64 ((offs L k j : Nat) : Int) ∧ Hid (OT 44 (n + 1) lo wr (.slice A N c) (mixT L k j) S) ∧ Chg S w wr) (fun _ i _ => N - (intOf i).toNat)
  case atStart => exact ⟨0, Nat.zero_le _, rfl, by simp [offs, sizes], Lib.hid (by rw [mixT_zero]; exact HH.out), Chg.refl _ _⟩
  case round =>
    obtain ⟨j, hj, rfl, rfl, HO, hchg⟩ := hrel
    by_cases hlt : j < N
    · have hlt2 : j < L.length := by have := HN.out; omega
      obtain ⟨xs, vs, Ss, ho, hS, hnd, hjj⟩ := HO.out
      have hml := mixT_len L k j (by omega)
      rw [hml, ← HN.out] at ho
      have hxs : xs.length = N * 4 := ho.1
      obtain ⟨g, cap, hv, hlog, hgw⟩ := own_shape ho (by intro e; rw [e] at hxs; simp at hxs; omega)
      simp only [Value.slice.injEq] at hv
      obtain ⟨rfl, -, rfl⟩ := hv
      obtain ⟨hcl, hbd, hot⟩ := hjj j (by omega)
      rw [mixT_at L k j hlt2] at hcl hbd hot
      have hoff : offs L k (j + 1) = offs L k j + 3 * size (L.getD j default) := offs_succ L k j hlt2
      have hoffle : offs L k j + 3 * size (L.getD j default) ≤ 1073741824 := by
        have h1 := offs_le hlt2 (k := k)
        omega
      obtain ⟨t, ht⟩ : ∃ t, t = L.getD j default := ⟨_, rfl⟩
      rw [← ht] at hcl hbd hot hoff hoffle
      have hst : 3 * size t = 3 + 3 * sizes t.args := by rw [← t.eta, size_mk]; simp only [TermM.args]; omega
      obtain ⟨p, hp⟩ : ∃ p, p = offs L k j := ⟨_, rfl⟩
      rw [← hp] at hoff hoffle ⊢
      have hp30 : p ≤ 1073741821 := by omega
      have hns : ∃ n', n = n' + 1 := by
        cases n with
        | zero => exact hot.elim
        | succ n => exact ⟨n, rfl⟩
      obtain ⟨A3, c3, hsl⟩ : ∃ A c, vs j = .slice A t.args.length c := by
        obtain ⟨n', rfl⟩ := hns
        exact OT.shape hot
      obtain ⟨c0, c1, c2, c3'⟩ := hcl
      have hgs : ∀ q ∈ Ss j, q ≠ g := by
        intro q hq e
        rw [hS] at hnd
        exact (List.nodup_append.1 hnd).2.2 g (by simp [Value.ownBlock]) q (List.mem_flatMap.2 ⟨j, by simp; omega, hq⟩) e.symm
      have hsub : ∀ q ∈ [g] ++ Ss j, q ∈ S := by
        intro q hq
        rw [hS]
        rcases List.mem_append.1 hq with hq | hq
        · exact List.mem_append.2 (.inl (by simpa [Value.ownBlock] using hq))
        · exact List.mem_append.2 (.inr (List.mem_flatMap.2 ⟨j, by simp; omega, hq⟩))
      obtain ⟨⟨v0, hw0⟩, hf0⟩ := own_get ho (i := j * 4) (by omega)
      obtain ⟨⟨v1, hw1⟩, hf1⟩ := own_get ho (i := j * 4 + 1) (by omega)
      obtain ⟨⟨v2, hw2⟩, hf2⟩ := own_get ho (i := j * 4 + 2) (by omega)
      have hw3 : wr.cell? ⟨g, j * 4 + 3, none⟩ = some (.slice A3 t.args.length c3) := by rw [ho.cellAt (j * 4 + 3) (by omega), c3', hsl]
      have HOWN := Lib.hid ho
      have HALL := Lib.hid (And.intro hS (And.intro hnd hjj))
      have HOT := Lib.hid hot
      have HB := Lib.hid hbd
      have HT := Lib.hid ht
      have HSL := Lib.hid hsl
      have HP := Lib.hid hp
      have HC := Lib.hid (And.intro c0 (And.intro c1 (And.intro c2 c3')))
      have HM := Lib.hid hml
      have HOF := Lib.hid hoff
      have HSB := Lib.hid hsub
      have HGS := Lib.hid hgs
      have HST := Lib.hid hst
      obtain ⟨q, hq⟩ : ∃ q, q = t.args.length := ⟨_, rfl⟩
      rw [← hq] at hw3
      have HQ := Lib.hid hq
      have HXS := Lib.hid hxs
      clear ho hS hnd hjj hot hbd ht hsl hp c0 c1 c2 c3' hml hoff hsub hgs hst hq hxs HO
      go_wp2_with fail
      refine (strl.mark_any (p + 1) (by omega) _).mono ?_
      rintro e w1 ⟨rfl, hb1⟩
      have hb1' := hb1
      obtain ⟨hcc, hff⟩ := bcell hb1
      have hg1 : g < (wr.setCell ⟨g, j * 4, none⟩ (.int .i64 p)).heap.size := by simpa [World.setCell] using hgw
      have HB1 := Lib.hid hb1
      have k1 : w1.cell? ⟨g, j * 4 + 1, none⟩ = some v1 := by rw [hcc _ _ hg1, far_cell (by omega)]; exact hw1
      have k2 : w1.cell? ⟨g, j * 4 + 2, none⟩ = some v2 := by rw [hcc _ _ hg1, far_cell (by omega)]; exact hw2
      have k3 : w1.cell? ⟨g, j * 4 + 3, none⟩ = some (.slice A3 q c3) := by rw [hcc _ _ hg1, far_cell (by omega)]; exact hw3
      have f1 : w1.frozen? ⟨g, j * 4 + 1, none⟩ = false := by rw [hff _ _ hg1, World.frozen?_setCell]; exact hf1
      have f2 : w1.frozen? ⟨g, j * 4 + 2, none⟩ = false := by rw [hff _ _ hg1, World.frozen?_setCell]; exact hf2
      have HCH : Hid (Chg [g] wr w1) := Lib.hid ((Chg.set (by simp) _).trans (Chg.of_below hb1))
      have HO1 := Lib.hid (own_below (setCell_own HOWN.out (j * 4) (.int .i64 p)) hb1)
      clear hb1 hb1' hcc hff
      go_wp2_with fail
      have hcast : (((p + 3 : Nat) : Int)) = (p : Int) + 1 + 1 + 1 := by omega
      have HO2 := Lib.hid (setCell_own (setCell_own HO1.out (j * 4 + 1) (.string (bstr (109 :: dig (p + 1))))) (j * 4 + 2) (.int .i64 ((p : Int) + 1 + 1)))
      have HCH2 : Hid (Chg [g] wr ((w1.setCell ⟨g, j * 4 + 1, none⟩ (.string (bstr (109 :: dig (p + 1))))).setCell ⟨g, j * 4 + 2, none⟩ (.int .i64 ((p : Int) + 1 + 1)))) := Lib.hid (chg_set1 (chg_set1 HCH.out _ _) _ _)
      have hC := HS.out t.args (vs j) (Ss j) _ lo (p + 3) (HOT.out.chg HCH2.out (fun q hq => by simpa using HGS.out q hq)) (by have := HST.out; omega)
      rw [HSL.out, ← HQ.out, hcast] at hC
      refine hC.mono ?_
      rintro e w4 ⟨rfl, h4, hc4⟩
      have H4 := Lib.hid h4
      have HC4 := Lib.hid hc4
      have hlast : ((p + 3 + 3 * sizes t.args : Nat) : Int) = ((offs L k (j + 1) : Nat) : Int) := by have h1 := HOF.out; have h2 := HST.out; omega
      clear h4 hc4 hC
      go_wp2
      go_roundw
      case rel =>
        obtain ⟨hS, hnd, hjj⟩ := HALL.out
        obtain ⟨c0, c1, c2, c3'⟩ := HC.out
        have hxs := HXS.out
        have hchg4 : Chg ([g] ++ Ss j) wr w4 := (HCH2.out.mono (fun q hq => List.mem_append.2 (.inl hq))).trans (HC4.out.mono (fun q hq => List.mem_append.2 (.inr hq)))
        have hmk : mkT tx t p = .mk (p : Int) (109 :: dig (p + 1)) ((p + 2 : Nat) : Int) (mkL tx t.args (p + 3)) := by have h := mkT_mk tx t.op t.name t.sort t.args p; rw [t.eta] at h; exact h
        have hd : (dig (p + 1)).length ≤ 20 := dig_le64 (by omega)
        refine ⟨j + 1, by omega, by go_num, hlast ▸ rfl, Lib.hid ?_, hchg.trans (hchg4.mono HSB.out)⟩
        rw [mixT_step L k j hlt2, ← HT.out, ← HP.out]
        have hown := HC4.out.own HO2.out (by intro q hq; simp [Value.ownBlock] at hq; subst hq; intro hm; exact HGS.out _ hm rfl)
        have hml := HM.out
        have hN := HN.out
        refine ot_set hS hnd hjj (by omega) (by rw [hml, ← hN]; exact hown) (fun i hi => ?_) ?_ ?_ hchg4 ?_
        · rw [List.getElem?_set_ne (by omega), List.getElem?_set_ne (by omega), List.getElem?_set_ne (by omega)]
        · rw [hmk]
          refine ⟨?_, ?_, ?_, ?_⟩
          · rw [List.getElem?_set_ne (by omega), List.getElem?_set_ne (by omega), List.getElem?_set_self (by omega)]; rfl
          · rw [List.getElem?_set_ne (by omega), List.getElem?_set_self (by simp; omega)]; rfl
          · rw [List.getElem?_set_self (by simp; omega)]; simp only [TermM.sort]; congr 2
          · rw [List.getElem?_set_ne (by omega), List.getElem?_set_ne (by omega), List.getElem?_set_ne (by omega)]; exact c3'
        · rw [hmk]
          refine ⟨?_, ?_, ?_⟩
          · simp only [TermM.name, List.length_cons]; unfold maxLen; omega
          · simp only [TermM.op, I64]; omega
          · simp only [TermM.sort, I64]; omega
        · rw [hmk, HSL.out, ← HQ.out]; exact H4.out
      case measure => simp [intOf]; omega
    · obtain rfl : j = N := by omega
      have HE : Hid (OT 44 (n + 1) lo wr (.slice A j c) (mkL tx L k) S ∧ offs L k j = k + 3 * sizes L) := Lib.hid (by
        have h1 := HO.out
        have h2 := HN.out
        refine ⟨by rw [← mixT_all, ← h2]; exact h1, ?_⟩
        rw [offs, h2, List.take_length])
      go_wp2
      go_ret
      exact ⟨ret_int (by rw [HE.out.2]), HE.out.1, hchg⟩
theorem markTermS_any : ∀ n, MkS n
  | 0 => mkS_step (fun k h => by omega)
  | n + 1 => mkS_step (fun k h => Nat.succ.inj h ▸ markTermS_any n)
/-- laws.markTerm: marks the arguments' nodes alone -/
theorem markTerm_any {n : Nat} (op : Int) (l : List UInt8) (s : Int) (L : List TermM) (v : Value) (S : List Nat) (w : World) {lo k : Nat} (h : OT 44 n lo w v L S) (hk : k + 3 * sizes L ≤ 1073741824) :
    Calls Tryz.prog 27 #[.agg #[.int .i64 op, .string (bstr l), .int .i64 s, v], .int .i64 k] w fun e w' => e = .returned (.int .i64 ((k + 3 * sizes L : Nat) : Int)) ∧ OT 44 n lo w' v (mkL tx L k) S ∧ Chg S w w' := by
  have HM := Lib.hid (fun W (hW : Below w.heap.size w W) => markTermS_any n L v S W lo k (h.below hW) hk)
  obtain ⟨A, c, rfl⟩ : ∃ A c, v = .slice A L.length c := by
    cases n with
    | zero => exact h.elim
    | succ n => exact OT.shape h
  obtain ⟨q, hq⟩ : ∃ q, q = L.length := ⟨_, rfl⟩
  rw [← hq] at HM ⊢
  clear h hq
  go_enter Tryz.func27, Tryz.ntmps27
  go_wp2_with fail
  refine (HM.out _ ((Below.refl _ _).alloc (Nat.le_refl _) _)).mono ?_
  rintro e w1 ⟨rfl, h1, hc1⟩
  have H1 := Lib.hid (And.intro h1 hc1)
  clear h1 hc1
  go_wp2
  go_ret
  exact ⟨rfl, H1.out.1, (Chg.of_below ((Below.refl _ _).alloc (Nat.le_refl _) _)).trans H1.out.2⟩
/-- laws.heldTermS, at terms of at most this depth -/
def HtS (n : Nat) : Prop := ∀ (L : List TermM) (v : Value) (w : World) (lo k : Nat), HasTs n lo w v (mkL tx L k) → k + 3 * sizes L ≤ 1073741824 →
  Calls Tryz.prog 67 #[v, .int .i64 k] w fun e w' => e = .returned (.int .i64 ((k + 3 * sizes L : Nat) : Int)) ∧ Below w.heap.size w w'
set_option maxRecDepth 20000 in
set_option maxHeartbeats 2000000 in
theorem htS_step {n : Nat} (hS : ∀ k, n = k + 1 → HtS k) : HtS n := by
  intro L v w lo k h hk
  obtain ⟨N, hN⟩ : ∃ N, N = L.length := ⟨_, rfl⟩
  obtain ⟨A, c, rfl, h⟩ := HasR.shape (n := N) h (by rw [mkL_len]; exact hN.symm)
  have hNl : N ≤ 1073741824 := by have := sizes_len L; omega
  have HN := Lib.hid hN
  have HH := Lib.hid h
  have HS := Lib.hid hS
  clear h hN hS
  go_enter Tryz.func67, Tryz.ntmps67
  go_wp2
  go_loopw [1, 5] (fun v i wr => ∃ j : Nat, j ≤ N ∧ i = .int .i64 j ∧ v = .int .i64 ((offs L k j : Nat) : Int) ∧ Below w.heap.size w wr) (fun _ i _ => N - (intOf i).toNat)
  case atStart => exact ⟨0, Nat.zero_le _, rfl, by simp [offs, sizes], Below.refl _ _⟩
  case round =>
    obtain ⟨j, hj, rfl, rfl, hbel⟩ := hrel
    by_cases hlt : j < N
    · have hlt2 : j < L.length := by have := HN.out; omega
      obtain ⟨k', g, o, A2, c2, hnk, rfl, _, hg, hc0, hc1, hc2, hc3, hh, _⟩ := term_at HH.out hlt
      rw [mkL_get tx L k j hlt2] at hc0 hc1 hc2 hc3 hh
      have hoff : offs L k (j + 1) = offs L k j + 3 * size (L.getD j default) := offs_succ L k j hlt2
      have hoffle : offs L k j + 3 * size (L.getD j default) ≤ 1073741824 := by
        have h1 := offs_le hlt2 (k := k)
        omega
      obtain ⟨t, ht⟩ : ∃ t, t = L.getD j default := ⟨_, rfl⟩
      rw [← ht] at hc0 hc1 hc2 hc3 hh hoff hoffle
      have hst : 3 * size t = 3 + 3 * sizes t.args := by rw [← t.eta, size_mk]; simp only [TermM.args]; omega
      obtain ⟨p, hp⟩ : ∃ p, p = offs L k j := ⟨_, rfl⟩
      rw [← hp] at hc0 hc1 hc2 hc3 hh hoff hoffle ⊢
      have hmk : mkT tx t p = .mk (p : Int) (109 :: dig (p + 1)) ((p + 2 : Nat) : Int) (mkL tx t.args (p + 3)) := by have h := mkT_mk tx t.op t.name t.sort t.args p; rw [t.eta] at h; exact h
      rw [hmk] at hc0 hc1 hc2 hc3 hh
      simp only [op_mk, name_mk, sort_mk, args_mk] at hc0 hc1 hc2 hc3 hh
      have hcast : (((p + 3 : Nat) : Int)) = (p : Int) + 1 + 1 + 1 := by omega
      have hcast2 : (((p + 2 : Nat) : Int)) = (p : Int) + 1 + 1 := by omega
      rw [hcast2] at hc2
      have hp30 : p ≤ 1073741821 := by omega
      have kk : ∀ x, w.cell? ⟨g, x, none⟩ = wr.cell? ⟨g, x, none⟩ := fun x => (hbel.cell (p := ⟨g, x, none⟩) hg).symm
      rw [kk] at hc0 hc1 hc2 hc3
      have hg2 : g < wr.heap.size := Nat.lt_of_lt_of_le hg hbel.size
      have hh2 := hh.below (Nat.le_refl _) hbel
      have HC := Lib.hid (fun W (hW : Below wr.heap.size wr W) => (hcast ▸ HS.out k' hnk t.args _ W lo (p + 3) (hh2.below (Nat.le_refl _) hW) (by omega) :
        Calls Tryz.prog 67 #[.slice A2 (mkL tx t.args (p + 3)).length c2, .int .i64 ((p : Int) + 1 + 1 + 1)] W fun e w' => e = .returned (.int .i64 ((p + 3 + 3 * sizes t.args : Nat) : Int)) ∧ Below W.heap.size W w'))
      obtain ⟨q, hq⟩ : ∃ q, q = (mkL tx t.args (p + 3)).length := ⟨_, rfl⟩
      rw [← hq] at HC hc3
      have hlast : ((p + 3 + 3 * sizes t.args : Nat) : Int) = ((offs L k (j + 1) : Nat) : Int) := by omega
      rw [hlast] at HC
      have HLN : Hid (0 ≤ ((offs L k (j + 1) : Nat) : Int) ∧ ((offs L k (j + 1) : Nat) : Int) ≤ 1073741824) := Lib.hid (by omega)
      obtain ⟨z, hz⟩ : ∃ z, z = ((offs L k (j + 1) : Nat) : Int) := ⟨_, rfl⟩
      rw [← hz] at HC HLN
      have HZ := Lib.hid hz
      have hz1 := HLN.out
      obtain ⟨hz1, hz2⟩ := hz1
      clear hh hh2 hq ht hp hmk hst hoff hz kk hlast hcast hcast2
      go_wp2_with fail
      go_region_held3 (fun w' => (w'.cell? ⟨g, o + j * 4 + 1, none⟩ = some (.string (bstr (109 :: dig (p + 1)))) ∧ w'.cell? ⟨g, o + j * 4 + 2, none⟩ = some (.int .i64 ((p : Int) + 1 + 1)) ∧ w'.cell? ⟨g, o + j * 4 + 3, none⟩ = some (.slice A2 q c2)) ∧ Below wr.heap.size wr w')
        (first | (refine ⟨⟨?_, ?_, ?_⟩, (Below.refl _ _).drew⟩ <;> assumption) | (go_split_ands; exact keep_three3 (g := g) ⟨⟨by assumption, by assumption, by assumption⟩, by assumption⟩ hg2 (by assumption)))
        ((go_at_call 65; refine (strl.mark_any (p + 1) (by omega) _).mono ?_; rintro e w1 ⟨rfl, hb1⟩))
      go_split_ands
      have hbw1 : Below wr.heap.size wr w1 := by assumption
      go_wp2_with fail
      refine (HC.out _ hbw1).mono ?_
      rintro e w2 ⟨rfl, hb2⟩
      have hbw2 := hbw1.trans (hb2.mono hbw1.size)
      clear hb2
      go_wp2
      go_roundw
      case rel => exact ⟨j + 1, by omega, by go_num, by rw [← HZ.out], hbel.trans (hbw2.mono hbel.size)⟩
      case measure => simp [intOf]; omega
    · obtain rfl : j = N := by omega
      have HE : Hid (offs L k j = k + 3 * sizes L) := Lib.hid (by
        have h2 := HN.out
        rw [offs, h2, List.take_length])
      go_wp2
      go_ret
      exact ⟨ret_int (by rw [HE.out]), hbel⟩
theorem heldTermS_any : ∀ n, HtS n
  | 0 => htS_step (fun k h => by omega)
  | n + 1 => htS_step (fun k h => Nat.succ.inj h ▸ heldTermS_any n)
end Go.Proofs.YtjejdcehlckfhaaGreat.termu
/-
  CONTRACTS OF THE PROGRAM'S COMPARISON OF TERMS: cmp.Compare, cmp.Or, compareNodes, compareLists, CompareTerms, areEqualTerms.
-/
namespace Go.Proofs.YtjejdcehlckfhaaGreat.termw
open Go.ChangeShapes Go.WideShapes Go.ChangeAt Go.RowKit
open mem dec rowl trm trmv terml termb termt

theorem nan_int (x : Int) (w : World) : Calls Tryz.prog 219 #[.int .i64 x] w fun e w' => e = .returned (.bool false) ∧ w = w' := by
  go_enter Tryz.func219, Tryz.ntmps219
  go_wp2
  go_ret
  exact ⟨by simp, rfl⟩
theorem comp_int (x y : Int) (w : World) : Calls Tryz.prog 198 #[.int .i64 x, .int .i64 y] w fun e w' => e = .returned (.int .i64 (cmpI x y)) ∧ w = w' := by
  by_cases h1 : x < y
  · have hr : cmpI x y = -1 := by unfold cmpI; rw [if_neg (by omega), if_pos h1]
    rw [hr]
    go_enter Tryz.func198, Tryz.ntmps198
    go_wp2_with (go_at_call 219; refine (nan_int _ _).mono ?_; rintro e w' ⟨rfl, rfl⟩)
    go_ret
    exact ⟨rfl, rfl⟩
  · by_cases h2 : y < x
    · have hr : cmpI x y = 1 := by unfold cmpI; rw [if_neg (by omega), if_neg h1]
      rw [hr]
      go_enter Tryz.func198, Tryz.ntmps198
      go_wp2_with (go_at_call 219; refine (nan_int _ _).mono ?_; rintro e w' ⟨rfl, rfl⟩)
      go_ret
      exact ⟨rfl, rfl⟩
    · have hr : cmpI x y = 0 := by unfold cmpI; rw [if_pos (by omega)]
      rw [hr]
      go_enter Tryz.func198, Tryz.ntmps198
      go_wp2_with (go_at_call 219; refine (nan_int _ _).mono ?_; rintro e w' ⟨rfl, rfl⟩)
      go_ret
      exact ⟨rfl, rfl⟩
theorem nan_str (x : ByteArray) (w : World) : Calls Tryz.prog 220 #[.string x] w fun e w' => e = .returned (.bool false) ∧ w = w' := by
  go_enter Tryz.func220, Tryz.ntmps220
  go_wp2
  go_ret
  exact ⟨by simp, rfl⟩
theorem run_gtr (t : TypeId) (a b : ByteArray) : binOp .gtr t (.string a) (.string b) = pure (.bool !(Op.bytesLess a.toList b.toList || a.toList == b.toList)) := by simp [binOp, Op.stringOp]
theorem comp_str (x y : List UInt8) (w : World) : Calls Tryz.prog 199 #[.string (bstr x), .string (bstr y)] w fun e w' => e = .returned (.int .i64 (cmpB x y)) ∧ w = w' := by
  have hgt := run_gtr 9 (bstr x) (bstr y)
  rw [less_bstr, bstr_eq] at hgt
  have hlt := binOp_string_lss 9 (bstr x) (bstr y)
  rw [less_bstr] at hlt
  by_cases h0 : x = y
  · have hr : cmpB x y = 0 := by unfold cmpB; rw [if_pos h0]
    rw [hr]
    have hl : lessB x y = false := by rw [h0]; exact lessB_irr _
    rw [hl, decide_eq_true h0] at hgt
    rw [hl] at hlt
    clear h0 hr hl
    go_enter Tryz.func199, Tryz.ntmps199
    go_wp2_with (go_at_call 220; refine (nan_str _ _).mono ?_; rintro e w' ⟨rfl, rfl⟩)
    go_ret
    exact ⟨rfl, rfl⟩
  · rw [decide_eq_false h0] at hgt
    cases hl : lessB x y with
    | true =>
      have hr : cmpB x y = -1 := by unfold cmpB; rw [if_neg h0, if_pos hl]
      rw [hr]
      rw [hl] at hgt hlt
      clear h0 hr hl
      go_enter Tryz.func199, Tryz.ntmps199
      go_wp2_with (go_at_call 220; refine (nan_str _ _).mono ?_; rintro e w' ⟨rfl, rfl⟩)
      go_ret
      exact ⟨rfl, rfl⟩
    | false =>
      have hr : cmpB x y = 1 := by unfold cmpB; rw [if_neg h0, if_neg (by rw [hl]; simp)]
      rw [hr]
      rw [hl] at hgt hlt
      clear h0 hr hl
      go_enter Tryz.func199, Tryz.ntmps199
      go_wp2_with (go_at_call 220; refine (nan_str _ _).mono ?_; rintro e w' ⟨rfl, rfl⟩)
      go_ret
      exact ⟨rfl, rfl⟩
/-- the first that isn't 0 -/
def or3 (a b c : Int) : Int := if a ≠ 0 then a else if b ≠ 0 then b else c
theorem or_any (g cap : Nat) (a b c : Int) (w : World) (h0 : w.cell? ⟨g, 0, none⟩ = some (.int .i64 a)) (h1 : w.cell? ⟨g, 1, none⟩ = some (.int .i64 b)) (h2 : w.cell? ⟨g, 2, none⟩ = some (.int .i64 c)) :
    Calls Tryz.prog 197 #[.slice (some ⟨g, 0, none⟩) 3 cap] w fun e w' => e = .returned (.int .i64 (or3 a b c)) ∧ w = w' := by
  have hcell : ∀ j : Nat, j < 3 → w.cell? ⟨g, j, none⟩ = some (.int .i64 ([a, b, c].getD j 0)) := by
    intro j hj
    match j, hj with
    | 0, _ => exact h0
    | 1, _ => exact h1
    | 2, _ => exact h2
  have HC := Lib.hid hcell
  clear hcell h0 h1 h2
  go_enter Tryz.func197, Tryz.ntmps197
  go_wp2
  go_loopw [5, 8] (fun _ i wr => ∃ j : Nat, j ≤ 3 ∧ i = .int .i64 j ∧ Hid (∀ q, q < j → [a, b, c].getD q 0 = 0) ∧ Hid (w = wr)) (fun _ i _ => 3 - (intOf i).toNat)
  case atStart => exact ⟨0, by omega, rfl, Lib.hid (fun q hq => by omega), Lib.hid rfl⟩
  case round =>
    obtain ⟨j, hj, rfl, HQ, HW⟩ := hrel
    obtain rfl := HW.out
    by_cases hlt : j < 3
    · have hc := HC.out j hlt
      obtain ⟨x, hx⟩ : ∃ x, x = [a, b, c].getD j 0 := ⟨_, rfl⟩
      rw [← hx] at hc
      have HX := Lib.hid hx
      clear hx
      by_cases hx0 : x = 0
      · subst hx0
        go_wp2
        go_roundw
        case rel => exact ⟨j + 1, by omega, by go_num, Lib.hid (fun q hq => by
          by_cases e : q = j
          · subst e; exact HX.out.symm
          · exact HQ.out q (by omega)), by first | exact Lib.hid rfl | exact True.intro⟩
        case measure => simp [intOf]; omega
      · have HR : Hid (or3 a b c = x) := Lib.hid (by
          have h := HX.out
          have hq := HQ.out
          unfold or3
          match j, hlt with
          | 0, _ => simp at h; subst h; rw [if_pos hx0]
          | 1, _ => have q0 := hq 0 (by omega); simp at h q0; subst h; rw [if_neg (by simp [q0]), if_pos hx0]
          | 2, _ => have q0 := hq 0 (by omega); have q1 := hq 1 (by omega); simp at h q0 q1; subst h; rw [if_neg (by simp [q0]), if_neg (by simp [q1])])
        go_wp2
        go_ret
        exact ⟨ret_int HR.out.symm, rfl⟩
    · obtain rfl : j = 3 := by omega
      have HR : Hid (or3 a b c = 0) := Lib.hid (by
        have hq := HQ.out
        have q0 := hq 0 (by omega); have q1 := hq 1 (by omega); have q2 := hq 2 (by omega)
        simp at q0 q1 q2
        subst q0 q1 q2
        rfl)
      go_wp2
      go_ret
      exact ⟨ret_int HR.out.symm, rfl⟩
/-- the order of two nodes without their arguments -/
def cmpN (t u : TermM) : Int := if cmpI t.op u.op ≠ 0 then cmpI t.op u.op else if cmpB t.name u.name ≠ 0 then cmpB t.name u.name else cmpI t.sort u.sort
theorem cmp_node (t u : TermM) : cmp t u = if cmpN t u ≠ 0 then cmpN t u else cmpL t.args u.args := by
  obtain ⟨o, n, s, l⟩ := t
  obtain ⟨o', n', s', m⟩ := u
  rw [cmp_mk2]
  unfold cmpN
  simp only [TermM.op, TermM.name, TermM.sort, TermM.args]
  by_cases h1 : cmpI o o' = 0
  · by_cases h2 : cmpB n n' = 0
    · simp [h1, h2]
    · simp [h1, h2]
  · simp [h1]
theorem keep_six {wr w0 w1 : World} {g g' o o' : Nat} {a0 a1 a2 b0 b1 b2 : Value}
    (h : (w0.cell? ⟨g, o, none⟩ = some a0 ∧ w0.cell? ⟨g, o + 1, none⟩ = some a1 ∧ w0.cell? ⟨g, o + 2, none⟩ = some a2 ∧
      w0.cell? ⟨g', o', none⟩ = some b0 ∧ w0.cell? ⟨g', o' + 1, none⟩ = some b1 ∧ w0.cell? ⟨g', o' + 2, none⟩ = some b2) ∧ GB wr.heap.size wr w0)
    (hp : g < wr.heap.size ∧ g' < wr.heap.size) (hb : GB w0.heap.size w0 w1) :
    (w1.cell? ⟨g, o, none⟩ = some a0 ∧ w1.cell? ⟨g, o + 1, none⟩ = some a1 ∧ w1.cell? ⟨g, o + 2, none⟩ = some a2 ∧
      w1.cell? ⟨g', o', none⟩ = some b0 ∧ w1.cell? ⟨g', o' + 1, none⟩ = some b1 ∧ w1.cell? ⟨g', o' + 2, none⟩ = some b2) ∧ GB wr.heap.size wr w1 := by
  have hs := h.2.below.size
  have k : ∀ x, w1.cell? ⟨g, x, none⟩ = w0.cell? ⟨g, x, none⟩ := fun x => hb.below.cell (p := ⟨g, x, none⟩) (by show g < _; omega)
  have k' : ∀ x, w1.cell? ⟨g', x, none⟩ = w0.cell? ⟨g', x, none⟩ := fun x => hb.below.cell (p := ⟨g', x, none⟩) (by show g' < _; omega)
  rw [k, k, k, k', k', k']
  exact ⟨h.1, h.2.trans (hb.mono hs)⟩
set_option maxRecDepth 20000 in
set_option maxHeartbeats 2000000 in
/-- impl.compareNodes -/
theorem nodes_any (t u : TermM) (ga oa gb ob : Nat) (w : World) (hga : ga < w.heap.size) (hgb : gb < w.heap.size) (a0 : w.cell? ⟨ga, oa, none⟩ = some (.int .i64 t.op)) (a1 : w.cell? ⟨ga, oa + 1, none⟩ = some (.string (bstr t.name))) (a2 : w.cell? ⟨ga, oa + 2, none⟩ = some (.int .i64 t.sort))
    (b0 : w.cell? ⟨gb, ob, none⟩ = some (.int .i64 u.op)) (b1 : w.cell? ⟨gb, ob + 1, none⟩ = some (.string (bstr u.name))) (b2 : w.cell? ⟨gb, ob + 2, none⟩ = some (.int .i64 u.sort)) :
    Calls Tryz.prog 165 #[.pointer (some ⟨ga, oa, none⟩), .pointer (some ⟨gb, ob, none⟩)] w fun e w' => e = .returned (.int .i64 (cmpN t u)) ∧ GB w.heap.size w w' := by
  have HR : Hid (or3 (cmpI t.op u.op) (cmpB t.name u.name) (cmpI t.sort u.sort) = cmpN t u) := Lib.hid rfl
  obtain ⟨to, hto⟩ : ∃ q, q = t.op := ⟨_, rfl⟩
  obtain ⟨tn, htn⟩ : ∃ q, q = t.name := ⟨_, rfl⟩
  obtain ⟨ts, hts⟩ : ∃ q, q = t.sort := ⟨_, rfl⟩
  obtain ⟨uo, huo⟩ : ∃ q, q = u.op := ⟨_, rfl⟩
  obtain ⟨un, hun⟩ : ∃ q, q = u.name := ⟨_, rfl⟩
  obtain ⟨us, hus⟩ : ∃ q, q = u.sort := ⟨_, rfl⟩
  rw [← hto] at a0 HR
  rw [← huo] at b0 HR
  rw [← htn] at a1 HR
  rw [← hun] at b1 HR
  rw [← hts] at a2 HR
  rw [← hus] at b2 HR
  clear hto htn hts huo hun hus
  go_enter Tryz.func165, Tryz.ntmps165
  go_wp2_with fail
  go_region_held3 (fun w' => (w'.cell? ⟨ga, oa, none⟩ = some (.int .i64 to) ∧ w'.cell? ⟨ga, oa + 1, none⟩ = some (.string (bstr tn)) ∧ w'.cell? ⟨ga, oa + 2, none⟩ = some (.int .i64 ts) ∧
      w'.cell? ⟨gb, ob, none⟩ = some (.int .i64 uo) ∧ w'.cell? ⟨gb, ob + 1, none⟩ = some (.string (bstr un)) ∧ w'.cell? ⟨gb, ob + 2, none⟩ = some (.int .i64 us)) ∧ GB w.heap.size w w')
    (first | (refine ⟨⟨?_, ?_, ?_, ?_, ?_, ?_⟩, (GB.refl _ _).drew⟩ <;> assumption) | assumption | (go_split_ands; exact keep_six (g := ga) (g' := gb) ⟨⟨by assumption, by assumption, by assumption, by assumption, by assumption, by assumption⟩, by assumption⟩ ⟨hga, hgb⟩ ((GB.refl _ _).alloc (Nat.le_refl _) _)))
    ((first | (go_at_call 199; refine (comp_str _ _ _).mono ?_; rintro e w1 ⟨rfl, rfl⟩) | (go_at_call 198; refine (comp_int _ _ _).mono ?_; rintro e w1 ⟨rfl, rfl⟩) | (go_at_call 197; refine (or_any _ _ (cmpI to uo) (cmpB tn un) (cmpI ts us) _ (by simp) (by simp) (by simp)).mono ?_; rintro e w1 ⟨rfl, rfl⟩)))
  all_goals (go_wp2; go_ret; go_split_ands; exact ⟨ret_int HR.out, by assumption⟩)
end Go.Proofs.YtjejdcehlckfhaaGreat.termw
/-
  CONTRACTS OF THE PROGRAM'S COMPARISON OF TERMS: compareLists, CompareTerms, areEqualTerms.
-/
namespace Go.Proofs.YtjejdcehlckfhaaGreat.termx
open Go.ChangeShapes Go.WideShapes Go.ChangeAt Go.RowKit
open mem dec rowl trm trmv terml termb termt termw

/-- what is still to compare, the newest first: values and terms -/
abbrev Stk := List (Value × Value × List TermM × List TermM)
noncomputable def cmpS : Stk → Int
  | [] => 0
  | p :: R => if cmpL p.2.2.1 p.2.2.2 ≠ 0 then cmpL p.2.2.1 p.2.2.2 else cmpS R
noncomputable def wtS : Stk → Nat
  | [] => 0
  | p :: R => 2 * sizes p.2.2.1 + 1 + wtS R
def flat : Stk → List Value
  | [] => []
  | p :: R => flat R ++ [p.1, p.2.1]
theorem flat_len : ∀ R : Stk, (flat R).length = R.length * 2
  | [] => rfl
  | p :: R => by simp [flat, flat_len R]; omega
theorem wtS_len : ∀ R : Stk, R.length ≤ wtS R
  | [] => Nat.le_refl _
  | p :: R => by have := wtS_len R; simp only [wtS, List.length_cons]; omega
theorem cmpL_nil {l m : List TermM} (h : l = [] ∨ m = []) : cmpL l m = cmpI l.length m.length := by
  refine cmpL_end (fun j h1 h2 => ?_)
  rcases h with rfl | rfl
  · simp at h1
  · simp at h2
theorem cmpL_cons (a b : TermM) (l m : List TermM) : cmpL (a :: l) (b :: m) = if cmp a b ≠ 0 then cmp a b else cmpL l m := rfl
/-- one step down -/
theorem cmpS_down (a b : TermM) (l m : List TermM) (va vb : Value) (R : Stk) (h : cmpN a b = 0) (u v u' v' : Value) :
    cmpS ((va, vb, a :: l, b :: m) :: R) = cmpS ((u, v, a.args, b.args) :: (u', v', l, m) :: R) := by
  have hx : cmpL (a :: l) (b :: m) = if cmpL a.args b.args ≠ 0 then cmpL a.args b.args else cmpL l m := by
    rw [cmpL_cons, cmp_node a b, if_neg (by simp [h] : ¬ cmpN a b ≠ 0)]
  have e1 : cmpS ((va, vb, a :: l, b :: m) :: R) = if cmpL (a :: l) (b :: m) ≠ 0 then cmpL (a :: l) (b :: m) else cmpS R := rfl
  have e2 : cmpS ((u, v, a.args, b.args) :: (u', v', l, m) :: R) = if cmpL a.args b.args ≠ 0 then cmpL a.args b.args else if cmpL l m ≠ 0 then cmpL l m else cmpS R := rfl
  rw [e1, e2, hx]
  by_cases h1 : cmpL a.args b.args = 0
  · simp [h1]
  · simp [h1]
theorem cmpS_one (va vb u v : Value) (l m : List TermM) (R : Stk) : cmpS ((va, vb, l, m) :: R) = cmpS ((u, v, l, m) :: R) := rfl
theorem info_pair : (Tryz.prog.info? 249).map (fun i => (i.zero, i.size, i.bytes)) = some (some (.agg #[.slice none 0 0, .slice none 0 0]), 2, 48) := by kernel_rfl
theorem two_cells (w : World) (u v : Value) (t : TypeId) : ∀ (j : Nat) (x : Value), [u, v][j]? = some x → (w.alloc (.cells #[u, v] t)).cell? ((⟨w.heap.size, 0, none⟩ : Addr).add j) = some x := by
  intro j x hj
  match j, hj with
  | 0, hj => simp at hj; subst hj; simp [Addr.add]
  | 1, hj => simp at hj; subst hj; simp [Addr.add]
theorem two_one {u v : Value} (h : u.oneCell' = true) (h' : v.oneCell' = true) : ∀ x ∈ [u, v], x.oneCell' = true := by
  intro x hx
  simp at hx
  rcases hx with rfl | rfl
  · exact h
  · exact h'
/-- a[1:] of a row of terms -/
theorem tail_run {n lo m c : Nat} {w : World} {A : Option Addr} {x : TermM} {L : List TermM} (h : HasTs n lo w (.slice A m c) (x :: L)) :
    ∃ A4 c4, (∀ W, (Instr.sliceAt 42 (.slice A m c) (some (.int .i64 1)) none none).run Tryz.prog W = .ok (.slice A4 (m - 1) c4) W) ∧ HasTs n lo w (.slice A4 (m - 1) c4) L := by
  have hel : Tryz.prog.elem 42 = 44 := by kernel_rfl
  have hsl : Tryz.prog.underlying 42 = some (.slice (Tryz.prog.elem 42)) := by rw [hel]; exact Tryz.underlying42
  obtain ⟨i0, hi, hz0, hz1, hz2⟩ := info_parts info_term
  have hcs : Tryz.prog.cellsOf 44 = 4 := by kernel_rfl
  obtain ⟨hm, hm2, hmc⟩ := h.len
  rw [List.length_cons] at hm
  obtain ⟨g, o, cs, rfl, _⟩ := h.get (j := 0) (by omega)
  have hrun : ∀ W, (Instr.sliceAt 42 (.slice (some ⟨g, o, none⟩) m c) (some (.int .i64 1)) none none).run Tryz.prog W = .ok (sliced (some ⟨g, o, none⟩) 1 m c 4) W := fun W => by
    rw [run_sliceAt_slice W _ _ _ _ _ hsl, run_slice_l W _ _ _ _ hsl .i64 1 (by omega) (by omega), hel, run_sizeOf W hi, hcs]
    rfl
  by_cases h1 : c = 1
  · have hn1 : m = 1 := by omega
    refine ⟨some ⟨g, o, none⟩, c - 1, fun W => ?_, ?_⟩
    · rw [hrun W, sliced, if_pos h1]
    · have : L = [] := List.eq_nil_of_length_eq_zero (by omega)
      rw [this, hn1, h1]
      exact HasR.nil _ _ _ (by unfold maxLen; omega) _
  · refine ⟨some ⟨g, o + 4, none⟩, c - 1, fun W => ?_, HasR.tail h (by omega : 1 ≤ m)⟩
    rw [hrun W, sliced, if_neg h1]
    simp [Addr.add]
theorem flat_top {R : Stk} {p : Value × Value × List TermM × List TermM} {k : Nat} (hk : k = R.length) : (flat (p :: R))[k * 2]? = some p.1 ∧ (flat (p :: R))[k * 2 + 1]? = some p.2.1 := by
  have h := flat_len R
  rw [flat, hk]
  refine ⟨?_, ?_⟩
  · rw [List.getElem?_append_right (by omega), h, Nat.sub_self]; rfl
  · rw [List.getElem?_append_right (by omega), h, Nat.add_sub_cancel_left]; rfl
theorem flat_pop {R : Stk} {p : Value × Value × List TermM × List TermM} {k : Nat} (hk : k = R.length) : (flat (p :: R)).take (k * 2) = flat R := by
  have h := flat_len R
  rw [flat, hk, List.take_append_of_le_length (by omega), List.take_of_length_le (by omega)]
set_option maxRecDepth 50000 in
set_option maxHeartbeats 8000000 in
theorem lists_any {n : Nat} (L M : List TermM) (va vb : Value) (w : World) {lo lo' : Nat} (ha : HasTs n lo w va L) (hb : HasTs n lo' w vb M) (hsz : sizes L ≤ 2097152) :
    Calls Tryz.prog 188 #[va, vb] w fun e w' => e = .returned (.int .i64 (cmpL L M)) ∧ GB w.heap.size w w' := by
  obtain ⟨A, ca, rfl, ha⟩ := HasR.shape ha rfl
  obtain ⟨B, cb, rfl, hb⟩ := HasR.shape hb rfl
  have HA := Lib.hid ha
  have HB := Lib.hid hb
  obtain ⟨j0, hij, hy0, hy1, hy2⟩ := info_parts info_pair
  obtain ⟨O, hmk, hown0⟩ : ∃ O, (∀ W, (Instr.makeSlice 247 (.int .i64 0) (.int .i64 20)).run Tryz.prog W = .ok (.slice (some ⟨W.heap.size, 0, none⟩) 0 20) (W.alloc O)) ∧ ∀ W : World, (W.alloc O).ownsRow W.heap.size 249 2 (.slice (some ⟨W.heap.size, 0, none⟩) 0 20) 0 [] := by
    refine ⟨.cells (madeCells (Value.agg #[.slice none 0 0, .slice none 0 0]).cells ((20 : Int).toNat * j0.size)) 249, fun W => ?_, fun W => ?_⟩
    · exact run_make W _ _ _ _ Tryz.underlying247 hij hy0 .i64 .i64 0 20 (by omega) (by omega) (by rw [hy2]; omega) (by omega)
    · exact World.ownsRow_made W _ 20 (Nat.le_refl _) (by unfold maxLen; omega) (by rw [size_madeCells, hy1]; rfl)
  have HOW := Lib.hid (hown0 w)
  obtain ⟨NL, hNL⟩ : ∃ z, z = L.length := ⟨_, rfl⟩
  obtain ⟨NM, hNM⟩ : ∃ z, z = M.length := ⟨_, rfl⟩
  rw [← hNL] at HA ⊢
  rw [← hNM] at HB ⊢
  clear ha hb hown0 hNL hNM
  go_enter Tryz.func188, Tryz.ntmps188
  go_wp2_with fail
  have hgb0 : GB w.heap.size w (w.alloc O) := (GB.refl _ _).alloc (Nat.le_refl _) _
  have HW0 : Hid (w.heap.size < (w.alloc O).heap.size) := Lib.hid (by simp)
  generalize w.alloc O = W0 at hgb0 HOW HW0 ⊢
  go_loopg [0, 1, 5] (2 * sizes L) (fun gk v0 v1 v5 wr => ∃ (A : Option Addr) (na ca : Nat) (B : Option Addr) (nb cb : Nat) (la lb : List TermM) (R : Stk) (g k cap : Nat), v0 = .slice A na ca ∧ v1 = .slice B nb cb ∧ v5 = .slice (some ⟨g, 0, none⟩) k cap ∧
      Hid (HasTs n lo w (.slice A na ca) la ∧ HasTs n lo' w (.slice B nb cb) lb ∧ ∀ p ∈ R, HasTs n lo w p.1 p.2.2.1 ∧ HasTs n lo' w p.2.1 p.2.2.2) ∧ Hid (cmpS ((v0, v1, la, lb) :: R) = cmpL L M) ∧ k = R.length ∧ w.heap.size ≤ g ∧ (2 * sizes la + wtS R ≤ gk ∧ gk ≤ 4194304) ∧
      wr.ownsRow w.heap.size 249 2 (.slice (some ⟨g, 0, none⟩) k cap) k (flat R) ∧ GB w.heap.size w wr)
  case atStart =>
    refine ⟨A, NL, ca, B, NM, cb, L, M, [], w.heap.size, 0, 20, rfl, rfl, rfl, Lib.hid ⟨HA.out, HB.out, fun p hp => by simp at hp⟩, Lib.hid ?_, rfl, Nat.le_refl _, ⟨by simp [wtS], by omega⟩, HOW.out, hgb0⟩
    simp only [cmpS]
    by_cases h : cmpL L M = 0 <;> simp [h]
  case round =>
    obtain ⟨A, na, ca, B, nb, cb, la, lb, R, g, k, cap, rfl, rfl, rfl, HI, HE, hkR, hgl, ⟨hwt, hgk⟩, hown, hgb⟩ := hrel
    have HWT := Lib.hid hwt
    have HOWN := Lib.hid hown
    have hgw : g < wr.heap.size := by
      rcases hown.2 with ⟨hv, _⟩ | ⟨g', cap', cur, hv, hb, hg, _⟩
      · cases hv
      · simp only [Value.slice.injEq, Option.some.injEq, Addr.mk.injEq, and_true, true_and] at hv
        obtain ⟨rfl, rfl⟩ := hv
        exact (Array.getElem?_eq_some_iff.1 hg).1
    have hkk : k ≤ 4194304 := by have h1 := wtS_len R; omega
    have hkc : k ≤ cap := by obtain ⟨_, _, e, h⟩ := own_slice hown; cases e; exact h
    clear hown
    cases la with
    | nil =>
      obtain rfl : na = 0 := HI.out.1.len.1
      cases lb with
      | nil =>
        obtain rfl : nb = 0 := HI.out.2.1.len.1
        have hcmp : cmpI 0 0 = 0 := by decide
        cases R with
        | nil =>
          obtain rfl : k = 0 := hkR
          have HR : Hid (cmpL L M = 0) := Lib.hid (by rw [← HE.out]; rfl)
          go_wp2_with fail
          refine (comp_int 0 0 _).mono ?_
          rintro e w' ⟨rfl, rfl⟩
          rw [hcmp]
          go_wp2
          go_ret
          exact ⟨ret_int HR.out.symm, hgb⟩
        | cons p R =>
          obtain ⟨k', rfl⟩ : ∃ k', k = k' + 1 := ⟨R.length, by rw [hkR]; rfl⟩
          have hk2 : k' = R.length := by simpa using hkR
          obtain ⟨v1, v2, l1, m1⟩ := p
          have hp1 : HasTs n lo w v1 l1 := (HI.out.2.2 _ (List.mem_cons_self)).1
          have hp2 : HasTs n lo' w v2 m1 := (HI.out.2.2 _ (List.mem_cons_self)).2
          obtain ⟨A3, c3, rfl, hp1⟩ := HasR.shape hp1 rfl
          obtain ⟨B3, d3, rfl, hp2⟩ := HasR.shape hp2 rfl
          obtain ⟨ft1, ft2⟩ := flat_top (p := (.slice A3 l1.length c3, .slice B3 m1.length d3, l1, m1)) hk2
          have s1 := (HOWN.out.cellAt (k' * 2) (by omega)).trans ft1
          have s2 := (HOWN.out.cellAt (k' * 2 + 1) (by omega)).trans ft2
          have HPO : Hid (wr.ownsRow w.heap.size 249 2 (.slice (some ⟨g, 0, none⟩) k' cap) k' (flat R)) := Lib.hid (by
            have h := own_take HOWN.out (m := k') (by omega)
            rwa [flat_pop hk2] at h)
          have HP := Lib.hid (And.intro hp1 hp2)
          have HT : Hid (∀ p ∈ R, HasTs n lo w p.1 p.2.2.1 ∧ HasTs n lo' w p.2.1 p.2.2.2) := Lib.hid (fun p hp => HI.out.2.2 p (List.mem_cons_of_mem _ hp))
          have HE2 : Hid (cmpS ((.slice A3 l1.length c3, .slice B3 m1.length d3, l1, m1) :: R) = cmpL L M) := Lib.hid (by rw [← HE.out]; rfl)
          obtain ⟨n1, hn1⟩ : ∃ z, z = l1.length := ⟨_, rfl⟩
          obtain ⟨m2, hm2⟩ : ∃ z, z = m1.length := ⟨_, rfl⟩
          rw [← hn1] at s1 HP HE2
          rw [← hm2] at s2 HP HE2
          have hkc2 : k' + 1 ≤ cap := hkc
          have HK2 := Lib.hid hk2
          clear hp1 hp2 ft1 ft2 hn1 hm2 hwt hk2 hkR
          go_wp2_with fail
          refine (comp_int 0 0 _).mono ?_
          rintro e w' ⟨rfl, rfl⟩
          rw [hcmp]
          go_wp2
          go_quiet (fail)
          go_wp2
          go_roundg (2 * sizes l1 + wtS R)
          case measure => have := HWT.out; simp only [wtS] at this; omega
          case rel =>
            refine ⟨A3, n1, c3, B3, m2, d3, l1, m1, R, g, k', cap, rfl, rfl, ?_, Lib.hid ⟨HP.out.1, HP.out.2, HT.out⟩, HE2, HK2.out, hgl, ⟨Nat.le_refl _, ?_⟩, ?_, ?_⟩
            · first | rfl | go_num
            · have := HWT.out; simp only [wtS] at this; omega
            · exact own_below HPO.out (below_drewN (Below.refl _ _) _)
            · exact hgb.drewN _
      | cons y tb =>
        have hnb := HI.out.2.1.len.1
        rw [List.length_cons] at hnb
        have hcmp : cmpI 0 (nb : Int) = -1 := by unfold cmpI; rw [if_neg (by omega), if_pos (by omega)]
        have HR : Hid (cmpL L M = -1) := Lib.hid (by rw [← HE.out]; simp only [cmpS]; rw [if_pos (by simp [cmpL])]; rfl)
        have hnb0 : ¬ nb = 0 := by omega
        have hnbm := HI.out.2.1.len.2.1
        clear hnb
        go_wp2_with fail
        refine (comp_int 0 nb _).mono ?_
        rintro e w' ⟨rfl, rfl⟩
        rw [hcmp]
        go_wp2
        go_ret
        exact ⟨ret_int HR.out.symm, hgb⟩
    | cons x ta =>
      have hna := HI.out.1.len.1
      rw [List.length_cons] at hna
      have hna0 : ¬ na = 0 := by omega
      have hnam := HI.out.1.len.2.1
      cases lb with
      | nil =>
        obtain rfl : nb = 0 := HI.out.2.1.len.1
        have hcmp : cmpI (na : Int) 0 = 1 := by unfold cmpI; rw [if_neg (by omega), if_neg (by omega)]
        have HR : Hid (cmpL L M = 1) := Lib.hid (by rw [← HE.out]; simp only [cmpS]; rw [if_pos (by simp [cmpL])]; rfl)
        clear hna
        go_wp2_with fail
        refine (comp_int na 0 _).mono ?_
        rintro e w' ⟨rfl, rfl⟩
        rw [hcmp]
        go_wp2
        go_ret
        exact ⟨ret_int HR.out.symm, hgb⟩
      | cons y tb =>
        have hnb := HI.out.2.1.len.1
        rw [List.length_cons] at hnb
        have hnb0 : ¬ nb = 0 := by omega
        have hnbm := HI.out.2.1.len.2.1
        obtain ⟨ka, ga, oa, A2, ca2, hka, rfl, _, hga, c0, c1, c2, c3, hha, _⟩ := term_at HI.out.1 (j := 0) (by omega)
        obtain ⟨kb, gb, ob, B2, cb2, hkb, rfl, _, hgbl, e0, e1, e2, e3, hhb, _⟩ := term_at HI.out.2.1 (j := 0) (by omega)
        obtain ⟨A4, c4, ht0, ht1⟩ := tail_run HI.out.1
        obtain ⟨B4, d4, ht00, ht2⟩ := tail_run HI.out.2.1
        have eA : (x :: ta).getD 0 default = x := rfl
        have eB : (y :: tb).getD 0 default = y := rfl
        rw [eA] at c0 c1 c2 c3 hha
        rw [eB] at e0 e1 e2 e3 hhb
        simp only [Nat.zero_mul, Nat.add_zero] at c0 c1 c2 c3 e0 e1 e2 e3
        have HN := Lib.hid (And.intro hna hnb)
        have hd1 : decide (na = 0) = false := decide_eq_false hna0
        have hd2 : decide (nb = 0) = false := decide_eq_false hnb0
        have hd3 : decide ((na : Int) = 0) = false := decide_eq_false (by omega)
        have hd4 : decide ((nb : Int) = 0) = false := decide_eq_false (by omega)
        have hd5 : ((na : Int) == 0) = false := beq_eq_false_iff_ne.2 (by omega)
        have hd6 : ((nb : Int) == 0) = false := beq_eq_false_iff_ne.2 (by omega)
        have HT1 := Lib.hid ht1
        have HT2 := Lib.hid ht2
        have HKR := Lib.hid hkR
        have HX0 : Hid (HasTs n lo w (.slice A2 x.args.length ca2) x.args ∧ HasTs n lo' w (.slice B2 y.args.length cb2) y.args) := Lib.hid ⟨hha.up (by omega), hhb.up (by omega)⟩
        obtain ⟨na2, hna2⟩ : ∃ z, z = x.args.length := ⟨_, rfl⟩
        obtain ⟨nb2, hnb2⟩ : ∃ z, z = y.args.length := ⟨_, rfl⟩
        rw [← hna2] at c3 HX0
        rw [← hnb2] at e3 HX0
        have HSX : Hid (sizes (x :: ta) = 1 + sizes x.args + sizes ta) := Lib.hid (by
          have : size x = 1 + sizes x.args := by cases x; exact size_mk _ _ _ _
          simp only [sizes, List.map_cons, List.sum_cons] at this ⊢
          omega)
        have hga2 : ga < wr.heap.size := Nat.lt_of_lt_of_le hga hgb.below.size
        have hgb2 : gb < wr.heap.size := Nat.lt_of_lt_of_le hgbl hgb.below.size
        have p0 := (hgb.below.cell (p := ⟨ga, oa, none⟩) hga).trans c0
        have p1 := (hgb.below.cell (p := ⟨ga, oa + 1, none⟩) hga).trans c1
        have p2 := (hgb.below.cell (p := ⟨ga, oa + 2, none⟩) hga).trans c2
        have q0 := (hgb.below.cell (p := ⟨gb, ob, none⟩) hgbl).trans e0
        have q1 := (hgb.below.cell (p := ⟨gb, ob + 1, none⟩) hgbl).trans e1
        have q2 := (hgb.below.cell (p := ⟨gb, ob + 2, none⟩) hgbl).trans e2
        have HND := Lib.hid (fun W (hW : GB wr.heap.size wr W) => nodes_any x y ga oa gb ob W (Nat.lt_of_lt_of_le hga2 hW.below.size) (Nat.lt_of_lt_of_le hgb2 hW.below.size)
          ((hW.below.cell (p := ⟨ga, oa, none⟩) hga2).trans p0) ((hW.below.cell (p := ⟨ga, oa + 1, none⟩) hga2).trans p1) ((hW.below.cell (p := ⟨ga, oa + 2, none⟩) hga2).trans p2)
          ((hW.below.cell (p := ⟨gb, ob, none⟩) hgb2).trans q0) ((hW.below.cell (p := ⟨gb, ob + 1, none⟩) hgb2).trans q1) ((hW.below.cell (p := ⟨gb, ob + 2, none⟩) hgb2).trans q2))
        obtain ⟨r, hr⟩ : ∃ r, r = cmpN x y := ⟨_, rfl⟩
        rw [← hr] at HND
        have HRR := Lib.hid hr
        clear c0 c1 c2 e0 e1 e2 p0 p1 p2 q0 q1 q2 hna hnb ht1 ht2 hkR hha hhb hna2 hnb2 hr hka hkb hwt
        go_wp2
        go_quiet (fail)
        go_wp2_with fail
        refine (HND.out _ (by first | exact (GB.refl _ _).drewN _ | exact (GB.refl _ _).drew)).mono ?_
        rintro e w2 ⟨rfl, hb2⟩
        have hgb3 : GB w.heap.size w w2 := (by first | exact hgb.drewN _ | exact hgb.drew : GB w.heap.size w _).trans (hb2.mono hgb.below.size)
        have HOW2 := Lib.hid (own_below HOWN.out ((below_drewN (Below.refl _ _) _).trans hb2.below))
        have hgw2 : g < w2.heap.size := Nat.lt_of_lt_of_le hgw hb2.below.size
        clear hb2 HND
        by_cases hr0 : r = 0
        · subst hr0
          have HDN : Hid (cmpN x y = 0) := Lib.hid HRR.out.symm
          by_cases h1 : 1 < na
          · have hf1 : decide (1 < na) = true := decide_eq_true h1
            have hf2 : decide ((1 : Int) < (na : Int)) = true := decide_eq_true (by omega)
            have p3 := (hgb3.below.cell (p := ⟨ga, oa + 3, none⟩) hga).trans c3
            have q3 := (hgb3.below.cell (p := ⟨gb, ob + 3, none⟩) hgbl).trans e3
            clear c3 e3
            go_wp2_with fail
            go_region_law (refine step_append_d (by rfl) _ _ _ (by rfl) w.heap.size 249 j0 _ 2 48 Tryz.underlying247 hij hy0 hy1 hy2 rfl (by omega) g k cap (flat R) (by rfl) (own_below HOW2.out ((Below.refl _ _).drew.alloc (by simp) _)) ⟨_, 0, none⟩ 1 1 [.slice A4 (na - 1) c4, .slice B4 (nb - 1) d4] (by rfl) (by rfl) (two_cells _ _ _ _) (two_one rfl rfl) (by unfold maxLen; omega) (by omega) (by have := hgb3.below.size; simp; omega) ?_; intro g' cap' w4 hown4 hgr4 hg4 hlt4 hdr4)
            all_goals
              have hgb4 : GB w.heap.size w w4 := GB.grown ((hgb3.drew).alloc (by have := hgb3.below.size; simp; omega) _) hgr4 hdr4 (by have := hgb3.below.size; simp; omega) hgl
              have hg2 : w.heap.size ≤ g' := by
                have := hgb3.below.size
                rcases hg4 with h | h
                · omega
                · rw [h]; simp; omega
              have HO1 := Lib.hid hown4
              have p4 : w4.cell? ⟨ga, oa + 3, none⟩ = some (.slice A2 na2 ca2) := (hgb4.below.cell (p := ⟨ga, oa + 3, none⟩) hga).trans ((hgb3.below.cell (p := ⟨ga, oa + 3, none⟩) hga).symm.trans p3)
              have q4 : w4.cell? ⟨gb, ob + 3, none⟩ = some (.slice B2 nb2 cb2) := (hgb4.below.cell (p := ⟨gb, ob + 3, none⟩) hgbl).trans ((hgb3.below.cell (p := ⟨gb, ob + 3, none⟩) hgbl).symm.trans q3)
              clear hgr4 hdr4 hown4 hg4 p3 q3
              go_wp2
              go_quiet (fail)
              go_wp2
              go_roundg (2 * sizes x.args + wtS ((.slice A4 (na - 1) c4, .slice B4 (nb - 1) d4, ta, tb) :: R))
              case measure => have h5 := HWT.out; have h6 := HSX.out; simp only [wtS]; omega
              case rel =>
                refine ⟨A2, na2, ca2, B2, nb2, cb2, x.args, y.args, (.slice A4 (na - 1) c4, .slice B4 (nb - 1) d4, ta, tb) :: R, g', k + 1, cap', rfl, rfl, rfl, Lib.hid ⟨HX0.out.1, HX0.out.2, ?_⟩, Lib.hid ?_, ?_, hg2, ⟨Nat.le_refl _, ?_⟩, own_below HO1.out (below_drewN (Below.refl _ _) _), by first | exact hgb4.drewN _ | exact hgb4.drew | exact hgb4⟩
                · intro p hp
                  rcases List.mem_cons.1 hp with rfl | hp
                  · exact ⟨HT1.out, HT2.out⟩
                  · exact HI.out.2.2 p hp
                · rw [← HE.out]
                  exact (cmpS_down x y ta tb _ _ R HDN.out _ _ _ _).symm
                · rw [List.length_cons, ← HKR.out]
                · have h5 := HWT.out; have h6 := HSX.out; simp only [wtS]; omega
          · have hf1 : decide (1 < na) = false := decide_eq_false h1
            have hf2 : decide ((1 : Int) < (na : Int)) = false := decide_eq_false (by omega)
            by_cases h2 : 1 < nb
            · have hf3 : decide (1 < nb) = true := decide_eq_true h2
              have hf4 : decide ((1 : Int) < (nb : Int)) = true := decide_eq_true (by omega)
              have p3 := (hgb3.below.cell (p := ⟨ga, oa + 3, none⟩) hga).trans c3
              have q3 := (hgb3.below.cell (p := ⟨gb, ob + 3, none⟩) hgbl).trans e3
              clear c3 e3
              go_wp2_with fail
              go_region_law (refine step_append_d (by rfl) _ _ _ (by rfl) w.heap.size 249 j0 _ 2 48 Tryz.underlying247 hij hy0 hy1 hy2 rfl (by omega) g k cap (flat R) (by rfl) (own_below HOW2.out ((Below.refl _ _).drew.alloc (by simp) _)) ⟨_, 0, none⟩ 1 1 [.slice A4 (na - 1) c4, .slice B4 (nb - 1) d4] (by rfl) (by rfl) (two_cells _ _ _ _) (two_one rfl rfl) (by unfold maxLen; omega) (by omega) (by have := hgb3.below.size; simp; omega) ?_; intro g' cap' w4 hown4 hgr4 hg4 hlt4 hdr4)
              all_goals
                have hgb4 : GB w.heap.size w w4 := GB.grown ((hgb3.drew).alloc (by have := hgb3.below.size; simp; omega) _) hgr4 hdr4 (by have := hgb3.below.size; simp; omega) hgl
                have hg2 : w.heap.size ≤ g' := by
                  have := hgb3.below.size
                  rcases hg4 with h | h
                  · omega
                  · rw [h]; simp; omega
                have HO1 := Lib.hid hown4
                have p4 : w4.cell? ⟨ga, oa + 3, none⟩ = some (.slice A2 na2 ca2) := (hgb4.below.cell (p := ⟨ga, oa + 3, none⟩) hga).trans ((hgb3.below.cell (p := ⟨ga, oa + 3, none⟩) hga).symm.trans p3)
                have q4 : w4.cell? ⟨gb, ob + 3, none⟩ = some (.slice B2 nb2 cb2) := (hgb4.below.cell (p := ⟨gb, ob + 3, none⟩) hgbl).trans ((hgb3.below.cell (p := ⟨gb, ob + 3, none⟩) hgbl).symm.trans q3)
                clear hgr4 hdr4 hown4 hg4 p3 q3
                go_wp2
                go_quiet (fail)
                go_wp2
                go_roundg (2 * sizes x.args + wtS ((.slice A4 (na - 1) c4, .slice B4 (nb - 1) d4, ta, tb) :: R))
                case measure => have h5 := HWT.out; have h6 := HSX.out; simp only [wtS]; omega
                case rel =>
                  refine ⟨A2, na2, ca2, B2, nb2, cb2, x.args, y.args, (.slice A4 (na - 1) c4, .slice B4 (nb - 1) d4, ta, tb) :: R, g', k + 1, cap', rfl, rfl, rfl, Lib.hid ⟨HX0.out.1, HX0.out.2, ?_⟩, Lib.hid ?_, ?_, hg2, ⟨Nat.le_refl _, ?_⟩, own_below HO1.out (below_drewN (Below.refl _ _) _), by first | exact hgb4.drewN _ | exact hgb4.drew | exact hgb4⟩
                  · intro p hp
                    rcases List.mem_cons.1 hp with rfl | hp
                    · exact ⟨HT1.out, HT2.out⟩
                    · exact HI.out.2.2 p hp
                  · rw [← HE.out]
                    exact (cmpS_down x y ta tb _ _ R HDN.out _ _ _ _).symm
                  · rw [List.length_cons, ← HKR.out]
                  · have h5 := HWT.out; have h6 := HSX.out; simp only [wtS]; omega
            · have hf3 : decide (1 < nb) = false := decide_eq_false h2
              have hf4 : decide ((1 : Int) < (nb : Int)) = false := decide_eq_false (by omega)
              have hta : ta = [] := List.eq_nil_of_length_eq_zero (by have := HN.out.1; omega)
              have htb : tb = [] := List.eq_nil_of_length_eq_zero (by have := HN.out.2; omega)
              have p3 := (hgb3.below.cell (p := ⟨ga, oa + 3, none⟩) hga).trans c3
              have q3 := (hgb3.below.cell (p := ⟨gb, ob + 3, none⟩) hgbl).trans e3
              clear c3 e3
              go_wp2
              go_quiet (fail)
              go_wp2
              go_roundg (2 * sizes x.args + wtS R)
              case measure => have h5 := HWT.out; have h6 := HSX.out; omega
              case rel =>
                refine ⟨A2, na2, ca2, B2, nb2, cb2, x.args, y.args, R, g, k, cap, rfl, rfl, rfl, Lib.hid ⟨HX0.out.1, HX0.out.2, HI.out.2.2⟩, Lib.hid ?_, HKR.out, hgl, ⟨Nat.le_refl _, ?_⟩, own_below HOW2.out (below_drewN (Below.refl _ _) _), by first | exact hgb3.drewN _ | exact hgb3.drew | exact hgb3⟩
                · rw [← HE.out, cmpS_down x y ta tb _ _ R HDN.out (.slice A2 na2 ca2) (.slice B2 nb2 cb2) undef undef, hta, htb]
                  rfl
                · have h5 := HWT.out; have h6 := HSX.out; omega
        · have HR : Hid (cmpL L M = r) := Lib.hid (by
            have h := HRR.out
            rw [← HE.out]
            simp only [cmpS]
            rw [cmpL_cons, cmp_node x y, ← h, if_pos hr0, if_pos hr0, if_pos hr0])
          go_wp2
          go_ret
          exact ⟨ret_int HR.out.symm, hgb3⟩
/-- a term by value -/
abbrev aggT (t : TermM) (v : Value) : Value := .agg #[.int .i64 t.op, .string (bstr t.name), .int .i64 t.sort, v]
set_option maxRecDepth 20000 in
set_option maxHeartbeats 2000000 in
/-- impl.CompareTerms -/
theorem compare_any {n : Nat} (t u : TermM) (va vb : Value) (w : World) {lo lo' : Nat} (ha : HasTs n lo w va t.args) (hb : HasTs n lo' w vb u.args) (hsz : sizes t.args ≤ 2097152) :
    Calls Tryz.prog 157 #[aggT t va, aggT u vb] w fun e w' => e = .returned (.int .i64 (cmp t u)) ∧ GB w.heap.size w w' := by
  obtain ⟨A, ca, rfl, _⟩ := HasR.shape ha rfl
  obtain ⟨B, cb, rfl, _⟩ := HasR.shape hb rfl
  have HL := Lib.hid (fun W (hW : GB w.heap.size w W) => lists_any t.args u.args _ _ W (ha.below (Nat.le_refl _) hW.below) (hb.below (Nat.le_refl _) hW.below) hsz)
  have HN := Lib.hid (fun W => nodes_any t u w.heap.size 0 (w.heap.size + 1) 0 W)
  obtain ⟨r, hr⟩ : ∃ r, r = cmpN t u := ⟨_, rfl⟩
  obtain ⟨z, hz⟩ : ∃ z, z = cmpL t.args u.args := ⟨_, rfl⟩
  have HC : Hid (cmp t u = if r ≠ 0 then r else z) := Lib.hid (by rw [hr, hz]; exact cmp_node t u)
  obtain ⟨c, hc⟩ : ∃ c, c = cmp t u := ⟨_, rfl⟩
  rw [← hc] at HC ⊢
  rw [← hr] at HN
  rw [← hz] at HL
  unfold aggT
  obtain ⟨k, hk⟩ : ∃ k, k = t.args.length := ⟨_, rfl⟩
  obtain ⟨m, hm⟩ : ∃ m, m = u.args.length := ⟨_, rfl⟩
  rw [← hk] at HL ⊢
  rw [← hm] at HL ⊢
  obtain ⟨to, hto⟩ : ∃ q, q = t.op := ⟨_, rfl⟩
  obtain ⟨tn, htn⟩ : ∃ q, q = t.name := ⟨_, rfl⟩
  obtain ⟨ts, hts⟩ : ∃ q, q = t.sort := ⟨_, rfl⟩
  obtain ⟨uo, huo⟩ : ∃ q, q = u.op := ⟨_, rfl⟩
  obtain ⟨un, hun⟩ : ∃ q, q = u.name := ⟨_, rfl⟩
  obtain ⟨us, hus⟩ : ∃ q, q = u.sort := ⟨_, rfl⟩
  rw [← hto, ← htn, ← hts, ← huo, ← hun, ← hus] at HN ⊢
  clear ha hb hsz hr hz hc hk hm hto htn hts huo hun hus
  go_enter Tryz.func157, Tryz.ntmps157
  go_wp2_with fail
  refine (HN.out _ (by simp; omega) (by simp) (by simp) (by simp) (by simp) (by simp) (by simp) (by simp)).mono ?_
  rintro e w1 ⟨rfl, hb1⟩
  have hgb : GB w.heap.size w w1 := ((((GB.refl _ _).alloc (Nat.le_refl _) _).alloc (by simp) _)).trans (hb1.mono (by simp; omega))
  have d1 : w1.cell? ⟨w.heap.size, 3, none⟩ = some (.slice A k ca) := by rw [hb1.below.cell (p := ⟨w.heap.size, 3, none⟩) (by simp; omega)]; simp
  have d2 : w1.cell? ⟨w.heap.size + 1, 3, none⟩ = some (.slice B m cb) := by rw [hb1.below.cell (p := ⟨w.heap.size + 1, 3, none⟩) (by simp)]; simp
  clear hb1
  by_cases h0 : r = 0
  · subst h0
    have HE : Hid (c = z) := Lib.hid (by rw [HC.out]; simp)
    go_wp2_with fail
    refine (HL.out _ hgb).mono ?_
    rintro e w2 ⟨rfl, hb2⟩
    have hgb2 := hgb.trans (hb2.mono hgb.below.size)
    clear hb2
    go_wp2
    go_ret
    exact ⟨ret_int HE.out.symm, hgb2⟩
  · have HE : Hid (c = r) := Lib.hid (by rw [HC.out, if_pos h0])
    go_wp2
    go_ret
    exact ⟨ret_int HE.out.symm, hgb⟩
end Go.Proofs.YtjejdcehlckfhaaGreat.termx
