/-
  PLAIN MATHEMATICS OF SIGNATURES: no program.
-/
import Derived.Test.YtjejdcehlckfhaaGreatSortp
namespace Go.Proofs.YtjejdcehlckfhaaGreat.sigm
open sortm sortn sortp subs

/-- an operator: its name, its declarations (the sorts of the arguments, and that of the result), its axioms and its unit -/
structure OpM where
  name : List UInt8
  decls : List (List Int × Int)
  ass : Bool
  com : Bool
  unt : Int
instance : Inhabited OpM := ⟨⟨[], [], false, false, 0⟩⟩

def inN (n : Nat) (x : Int) : Bool := decide (0 ≤ x ∧ x < n)
def okD (n : Nat) (d : List Int × Int) : Bool := decide (d.1.length ≤ 3) && inN n d.2 && d.1.all (inN n)
/-- the kinds at the places of a declaration -/
def kD (κ : Int → Nat) (d : List Int × Int) : List Nat × Nat := (d.1.map κ, κ d.2)
def hd0 (D : List (List Int × Int)) : List Int × Int := D.getD 0 ([], 0)
/-- all declarations are valid, with the kinds of the first one -/
def declsOk (n : Nat) (κ : Int → Nat) (D : List (List Int × Int)) : Bool :=
  decide (1 ≤ D.length ∧ D.length ≤ 4) && D.all fun d => okD n d && decide (kD κ d = kD κ (hd0 D))
def unitOf (O : List OpM) (o : OpM) : OpM := O.getD (o.unt.toNat - 1) default
def a0 (o : OpM) : Int := (hd0 o.decls).1.getD 0 0
def a1 (o : OpM) : Int := (hd0 o.decls).1.getD 1 0
def rs (o : OpM) : Int := (hd0 o.decls).2
def ar (o : OpM) : Nat := (hd0 o.decls).1.length
/-- the axioms fit -/
def argsOk (κ : Int → Nat) (o : OpM) : Bool :=
  (!o.ass && !o.com && decide (o.unt = 0)) || (decide (ar o = 2) && decide (κ (a0 o) = κ (a1 o)) && ((!o.ass && decide (o.unt = 0)) || decide (κ (a0 o) = κ (rs o))))
def unitOk (κ : Int → Nat) (O : List OpM) (o : OpM) : Bool :=
  decide (o.unt = 0) || (decide (0 ≤ o.unt ∧ o.unt ≤ O.length) && decide (ar (unitOf O o) = 0) && decide (κ (rs (unitOf O o)) = κ (rs o)))
def axOk (κ : Int → Nat) (O : List OpM) (o : OpM) : Bool := argsOk κ o && unitOk κ O o
def nms (O : List OpM) : List (List UInt8) := O.map (·.name)
theorem nms_len (O : List OpM) : (nms O).length = O.length := by simp [nms]
theorem nms_get (O : List OpM) (k : Nat) (h : k < O.length) : (nms O).getD k [] = (O.getD k default).name := by
  simp [nms, List.getD, List.getElem?_eq_getElem h]
theorem nms_take (O : List OpM) (k : Nat) : (nms O).take k = nms (O.take k) := by simp [nms, List.map_take]
/-- the operators are valid, over n sorts whose kinds κ tells apart -/
def opsOk (n : Nat) (κ : Int → Nat) (O : List OpM) : Bool :=
  decide (O.length ≤ 14) && namesTo (nms O) O.length && (O.all fun o => declsOk n κ o.decls) && O.all (axOk κ O)

/-- two ways to tell kinds apart -/
def Alike (n : Nat) (κ κ' : Int → Nat) : Prop := ∀ x y, inN n x = true → inN n y = true → (κ x = κ y ↔ κ' x = κ' y)
theorem map_alike {n : Nat} {κ κ' : Int → Nat} (h : Alike n κ κ') : ∀ l m : List Int, l.all (inN n) = true → m.all (inN n) = true → (l.map κ = m.map κ ↔ l.map κ' = m.map κ')
  | [], [], _, _ => by simp
  | [], _ :: _, _, _ => by simp
  | _ :: _, [], _, _ => by simp
  | a :: l, b :: m, h1, h2 => by
    simp only [List.all_cons, Bool.and_eq_true] at h1 h2
    simp only [List.map_cons, List.cons.injEq]
    rw [h a b h1.1 h2.1, map_alike h l m h1.2 h2.2]
theorem kD_alike {n : Nat} {κ κ' : Int → Nat} (h : Alike n κ κ') {d e : List Int × Int} (hd : okD n d = true) (he : okD n e = true) : kD κ d = kD κ e ↔ kD κ' d = kD κ' e := by
  simp only [okD, Bool.and_eq_true] at hd he
  simp only [kD, Prod.mk.injEq]
  rw [map_alike h _ _ hd.2 he.2, h _ _ hd.1.2 he.1.2]
theorem hd0_mem {D : List (List Int × Int)} (h : 1 ≤ D.length) : hd0 D ∈ D := by
  match D, h with
  | d :: D, _ => simp [hd0]
theorem declsOk_parts {n : Nat} {κ : Int → Nat} {D : List (List Int × Int)} (h : declsOk n κ D = true) :
    1 ≤ D.length ∧ D.length ≤ 4 ∧ (∀ d ∈ D, okD n d = true ∧ kD κ d = kD κ (hd0 D)) ∧ okD n (hd0 D) = true := by
  simp only [declsOk, Bool.and_eq_true, decide_eq_true_eq, List.all_eq_true] at h
  exact ⟨h.1.1, h.1.2, h.2, (h.2 _ (hd0_mem h.1.1)).1⟩
theorem declsOk_alike {n : Nat} {κ κ' : Int → Nat} (h : Alike n κ κ') (D : List (List Int × Int)) : declsOk n κ D = declsOk n κ' D := by
  have one : ∀ κ κ' : Int → Nat, Alike n κ κ' → declsOk n κ D = true → declsOk n κ' D = true := by
    intro κ κ' h hd
    obtain ⟨h1, h2, h3, h4⟩ := declsOk_parts hd
    simp only [declsOk, Bool.and_eq_true, decide_eq_true_eq, List.all_eq_true]
    exact ⟨⟨h1, h2⟩, fun d hd => ⟨(h3 d hd).1, (kD_alike h (h3 d hd).1 h4).1 (h3 d hd).2⟩⟩
  rw [Bool.eq_iff_iff]
  exact ⟨one _ _ h, one _ _ (fun x y hx hy => (h x y hx hy).symm)⟩
theorem okD_parts {n : Nat} {d : List Int × Int} (h : okD n d = true) : d.1.length ≤ 3 ∧ inN n d.2 = true ∧ ∀ k, k < d.1.length → inN n (d.1.getD k 0) = true := by
  simp only [okD, Bool.and_eq_true, decide_eq_true_eq, List.all_eq_true] at h
  refine ⟨h.1.1, h.1.2, fun k hk => ?_⟩
  have := h.2 _ (List.getElem_mem hk)
  simpa [List.getD, List.getElem?_eq_getElem hk] using this
/-- every operator's first declaration is valid -/
def Firsts (n : Nat) (O : List OpM) : Prop := ∀ o ∈ O, okD n (hd0 o.decls) = true
theorem argsOk_alike {n : Nat} {κ κ' : Int → Nat} (h : Alike n κ κ') {o : OpM} (ho : okD n (hd0 o.decls) = true) : argsOk κ o = argsOk κ' o := by
  obtain ⟨h1, h2, h3⟩ := okD_parts ho
  unfold argsOk
  by_cases hl : ar o = 2
  · have e0 : inN n (a0 o) = true := h3 0 (by unfold ar at hl; omega)
    have e1 : inN n (a1 o) = true := h3 1 (by unfold ar at hl; omega)
    have k1 : decide (κ (a0 o) = κ (a1 o)) = decide (κ' (a0 o) = κ' (a1 o)) := decide_eq_decide.2 (h _ _ e0 e1)
    have k2 : decide (κ (a0 o) = κ (rs o)) = decide (κ' (a0 o) = κ' (rs o)) := decide_eq_decide.2 (h _ _ e0 h2)
    rw [k1, k2]
  · simp [hl]
theorem unitOf_mem {O : List OpM} {o : OpM} (h : ¬ o.unt = 0) (h1 : 0 ≤ o.unt) (h2 : o.unt ≤ O.length) : unitOf O o ∈ O := by
  have hk : o.unt.toNat - 1 < O.length := by omega
  unfold unitOf
  rw [List.getD_eq_getElem?_getD, List.getElem?_eq_getElem hk]
  exact List.getElem_mem hk
theorem unitOk_alike {n : Nat} {κ κ' : Int → Nat} (h : Alike n κ κ') {O : List OpM} (hO : Firsts n O) {o : OpM} (ho : o ∈ O) : unitOk κ O o = unitOk κ' O o := by
  unfold unitOk
  by_cases h0 : o.unt = 0
  · simp [h0]
  · by_cases h1 : 0 ≤ o.unt ∧ o.unt ≤ O.length
    · have hu := hO _ (unitOf_mem h0 h1.1 h1.2)
      have k : decide (κ (rs (unitOf O o)) = κ (rs o)) = decide (κ' (rs (unitOf O o)) = κ' (rs o)) := decide_eq_decide.2 (h _ _ (okD_parts hu).2.1 (okD_parts (hO _ ho)).2.1)
      rw [k]
    · simp [h1]
theorem axOk_alike {n : Nat} {κ κ' : Int → Nat} (h : Alike n κ κ') {O : List OpM} (hO : Firsts n O) {o : OpM} (ho : o ∈ O) : axOk κ O o = axOk κ' O o := by
  rw [axOk, axOk, argsOk_alike h (hO _ ho), unitOk_alike h hO ho]
theorem firsts_of {n : Nat} {κ : Int → Nat} {O : List OpM} (h : (O.all fun o => declsOk n κ o.decls) = true) : Firsts n O := by
  intro o ho
  rw [List.all_eq_true] at h
  exact (declsOk_parts (h o ho)).2.2.2
theorem opsOk_alike {n : Nat} {κ κ' : Int → Nat} (h : Alike n κ κ') (O : List OpM) : opsOk n κ O = opsOk n κ' O := by
  unfold opsOk
  have e : (O.all fun o => declsOk n κ o.decls) = (O.all fun o => declsOk n κ' o.decls) := by simp only [declsOk_alike h]
  cases hd : (O.all fun o => declsOk n κ o.decls) with
  | false => rw [← e, hd]; simp
  | true =>
    have hO := firsts_of hd
    have e2 : O.all (axOk κ O) = O.all (axOk κ' O) := by
      rw [Bool.eq_iff_iff]
      simp only [List.all_eq_true]
      exact ⟨fun h' o ho => (axOk_alike h hO ho) ▸ h' o ho, fun h' o ho => (axOk_alike h hO ho).symm ▸ h' o ho⟩
    rw [← e, hd, e2]
/-- the kinds of the program (sets) and those of the model (the least sort) -/
def κC (n : Nat) (Q : List (Int × Int)) (x : Int) : Nat := (clo n (both (prs Q))).getD x.toNat 0
def κK (n : Nat) (Q : List (Int × Int)) (x : Int) : Nat := (kin n (prs Q)).getD x.toNat 0
theorem alike_CK {n : Nat} {Q : List (Int × Int)} (hQ : PIn n Q) : Alike n (κC n Q) (κK n Q) := by
  intro x y hx hy
  simp only [inN, decide_eq_true_eq] at hx hy
  obtain ⟨i, rfl⟩ : ∃ i : Nat, x = (i : Int) := ⟨x.toNat, by omega⟩
  obtain ⟨j, rfl⟩ : ∃ j : Nat, y = (j : Int) := ⟨y.toNat, by omega⟩
  have hi : i < n := by omega
  have hj : j < n := by omega
  have hP := hQ.inR
  have hB := both_in hP
  simp only [κC, κK, Int.toNat_natCast]
  obtain ⟨p1, p2, p3⟩ := kin_spec hP hi
  obtain ⟨q1, q2, q3⟩ := kin_spec hP hj
  constructor
  · intro h
    have k1 := (clo_bit hB hi _).2 ⟨p1, p2⟩
    have k2 := (clo_bit hB hj _).2 ⟨q1, q2⟩
    rw [h] at k1
    rw [← h] at k2
    have := q3 _ ((clo_bit hB hj _).1 k1).2
    have := p3 _ ((clo_bit hB hi _).1 k2).2
    omega
  · intro h
    rw [← h] at q2
    have hij : rea (both (prs Q)) n i j = true := rea_trans hB hj p2 (rea_symm hP hj p1 q2)
    have hji : rea (both (prs Q)) n j i = true := rea_symm hP hi hj hij
    refine Nat.eq_of_testBit_eq fun b => ?_
    rw [Bool.eq_iff_iff, clo_bit hB hi, clo_bit hB hj]
    exact ⟨fun h => ⟨h.1, rea_trans hB h.1 hji h.2⟩, fun h => ⟨h.1, rea_trans hB h.1 hij h.2⟩⟩

/-- the signature is valid -/
def sigOk (P : List (List UInt8)) (Q : List (Int × Int)) (O : List OpM) : Bool := okS P Q && opsOk P.length (κK P.length Q) O
theorem sigOk_C (P : List (List UInt8)) (Q : List (Int × Int)) (O : List OpM) : sigOk P Q O = (okS P Q && opsOk P.length (κC P.length Q) O) := by
  unfold sigOk
  cases h : okS P Q with
  | false => rfl
  | true => rw [opsOk_alike (alike_CK (okS_parts h).2.2.1)]
theorem sigOk_parts {P : List (List UInt8)} {Q : List (Int × Int)} {O : List OpM} (h : sigOk P Q O = true) :
    okS P Q = true ∧ O.length ≤ 14 ∧ namesTo (nms O) O.length = true ∧ (∀ o ∈ O, declsOk P.length (κK P.length Q) o.decls = true) ∧ ∀ o ∈ O, axOk (κK P.length Q) O o = true := by
  simp only [sigOk, opsOk, Bool.and_eq_true, List.all_eq_true, decide_eq_true_eq] at h
  exact ⟨h.1, h.2.1.1.1, h.2.1.1.2, h.2.1.2, h.2.2⟩
/-- the index of a name -/
def opAt (N : List (List UInt8)) (x : List UInt8) : Int := if x ∈ N then (N.idxOf x : Int) else -1
theorem opAt_hit {N : List (List UInt8)} {x : List UInt8} {k : Nat} (hk : k < N.length) (h1 : x ∉ N.take k) (h2 : N.getD k [] = x) : opAt N x = k := by
  have hm : x ∈ N := mem_get hk h2
  have hi : N.idxOf x = k := by
    have e : N = N.take k ++ x :: N.drop (k + 1) := by
      have h3 : N.getD k [] = N[k] := by simp [List.getD, List.getElem?_eq_getElem hk]
      rw [← h2, h3, List.getElem_cons_drop, List.take_append_drop]
    rw [e, List.idxOf_append, if_neg h1]
    simp; omega
  rw [opAt, if_pos hm, hi]
theorem opAt_miss {N : List (List UInt8)} {x : List UInt8} (h : x ∉ N) : opAt N x = -1 := by rw [opAt, if_neg h]
theorem take_not {N : List (List UInt8)} {x : List UInt8} {k : Nat} (hk : k < N.length) (h : x ∉ N.take k) (h2 : ¬ N.getD k [] = x) : x ∉ N.take (k + 1) := by
  rw [List.take_succ_eq_append_getElem hk]
  have h3 : N.getD k [] = N[k] := by simp [List.getD, List.getElem?_eq_getElem hk]
  rw [h3] at h2
  simp only [List.mem_append, List.mem_singleton, not_or]
  exact ⟨h, fun e => h2 e.symm⟩
def findI (P : List (List UInt8)) (Q : List (Int × Int)) (O : List OpM) (x : List UInt8) : Int := if sigOk P Q O then opAt (nms O) x else -1
def arI (P : List (List UInt8)) (Q : List (Int × Int)) (O : List OpM) (x : Int) : Int := if sigOk P Q O ∧ 0 ≤ x ∧ x < O.length then (ar (O.getD x.toNat default) : Int) else -1
def noAx (o : OpM) : Bool := !o.ass && decide (o.unt = 0)
def freeB (P : List (List UInt8)) (Q : List (Int × Int)) (O : List OpM) : Bool := sigOk P Q O && O.all noAx
end Go.Proofs.YtjejdcehlckfhaaGreat.sigm
