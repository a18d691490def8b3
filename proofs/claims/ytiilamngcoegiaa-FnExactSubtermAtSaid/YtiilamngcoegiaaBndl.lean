/-
  BINDINGS IN MEMORY: a slice of bindings reads as a list of pairs of terms; the pairs' order.
-/
import Derived.Test.YtiilamngcoegiaaTermx
namespace Go.Proofs.Ytiilamngcoegiaa.bndl
open Go.ChangeShapes Go.WideShapes Go.ChangeAt Go.RowKit
open mem rowl trm trmv terml termb termt termx

/-- a variable and what it stands for -/
structure BindM where
  v : TermM
  t : TermM
instance : Inhabited BindM := ⟨⟨default, default⟩⟩
abbrev aggB (b : BindM) (va vb : Value) : Value := .agg #[.int .i64 b.v.op, .string (bstr b.v.name), .int .i64 b.v.sort, va, .int .i64 b.t.op, .string (bstr b.t.name), .int .i64 b.t.sort, vb]
def RB (n : Nat) : Reads BindM := fun lo w cs b => ∃ va vb, cs = [.int .i64 b.v.op, .string (bstr b.v.name), .int .i64 b.v.sort, va, .int .i64 b.t.op, .string (bstr b.t.name), .int .i64 b.t.sort, vb] ∧ HasTs n lo w va b.v.args ∧ HasTs n lo w vb b.t.args ∧ Bnd b.v ∧ Bnd b.t
theorem RB_steady (n : Nat) : Steady (RB n) :=
  ⟨fun ⟨va, vb, e, h1, h2, r⟩ hk => ⟨va, vb, e, h1.kept (RT_steady n) hk, h2.kept (RT_steady n) hk, r⟩, fun ⟨va, vb, e, h1, h2, r⟩ hl => ⟨va, vb, e, h1.mono (RT_steady n) hl, h2.mono (RT_steady n) hl, r⟩⟩
abbrev HasBs (n lo : Nat) (w : World) (v : Value) (L : List BindM) : Prop := HasR (RB n) 8 lo w v L
theorem HasBs.up {n m : Nat} (h : n ≤ m) {lo : Nat} {w : World} {v : Value} {L : List BindM} (hr : HasBs n lo w v L) : HasBs m lo w v L :=
  hr.map (fun ⟨va, vb, e, h1, h2, r⟩ => ⟨va, vb, e, h1.up h, h2.up h, r⟩)
theorem HasBs.below {n lo : Nat} {w w' : World} {v : Value} {L : List BindM} (h : HasBs n lo w v L) {B : Nat} (hB : w.heap.size ≤ B) (hb : Below B w w') : HasBs n lo w' v L := HasR.below (RB_steady n) h hB hb
/-- an element's eight cells -/
def Cells8 (w : World) (g p : Nat) (b : BindM) (A1 : Option Addr) (c1 : Nat) (A2 : Option Addr) (c2 : Nat) : Prop :=
  (w.cell? ⟨g, p, none⟩ = some (.int .i64 b.v.op) ∧ w.cell? ⟨g, p + 1, none⟩ = some (.string (bstr b.v.name)) ∧ w.cell? ⟨g, p + 2, none⟩ = some (.int .i64 b.v.sort) ∧ w.cell? ⟨g, p + 3, none⟩ = some (.slice A1 b.v.args.length c1)) ∧
  (w.cell? ⟨g, p + 4, none⟩ = some (.int .i64 b.t.op) ∧ w.cell? ⟨g, p + 5, none⟩ = some (.string (bstr b.t.name)) ∧ w.cell? ⟨g, p + 6, none⟩ = some (.int .i64 b.t.sort) ∧ w.cell? ⟨g, p + 7, none⟩ = some (.slice A2 b.t.args.length c2))
theorem Cells8.below {w w' : World} {g p : Nat} {b : BindM} {A1 : Option Addr} {c1 : Nat} {A2 : Option Addr} {c2 : Nat} (h : Cells8 w g p b A1 c1 A2 c2) (hb : Below w.heap.size w w') : Cells8 w' g p b A1 c1 A2 c2 := by
  obtain ⟨⟨h0, h1, h2, h3⟩, h4, h5, h6, h7⟩ := h
  have k : ∀ {o : Nat} {v : Value}, w.cell? ⟨g, o, none⟩ = some v → w'.cell? ⟨g, o, none⟩ = some v := fun {o v} h => (hb.cell (p := ⟨g, o, none⟩) (World.block_lt_of_cell? w _ h)).trans h
  exact ⟨⟨k h0, k h1, k h2, k h3⟩, k h4, k h5, k h6, k h7⟩
theorem bind_at {n lo : Nat} {w : World} {A : Option Addr} {m c : Nat} {L : List BindM} (h : HasBs n lo w (.slice A m c) L) {j : Nat} (hj : j < m) :
    ∃ (g o : Nat) (A1 : Option Addr) (c1 : Nat) (A2 : Option Addr) (c2 : Nat), A = some ⟨g, o, none⟩ ∧ g < w.heap.size ∧ Cells8 w g (o + j * 8) (L.getD j default) A1 c1 A2 c2 ∧
      HasTs n lo w (.slice A1 (L.getD j default).v.args.length c1) (L.getD j default).v.args ∧ HasTs n lo w (.slice A2 (L.getD j default).t.args.length c2) (L.getD j default).t.args ∧ Bnd (L.getD j default).v ∧ Bnd (L.getD j default).t := by
  obtain ⟨g, o, cs, e, hl, hg, hc, va, vb, ecs, h1, h2, h3, h4⟩ := h.get hj
  subst ecs
  obtain ⟨A1, c1, rfl, h1'⟩ := HasR.shape h1 rfl
  obtain ⟨A2, c2, rfl, h2'⟩ := HasR.shape h2 rfl
  exact ⟨g, o, A1, c1, A2, c2, e, hg, ⟨⟨hc 0 (by omega), hc 1 (by omega), hc 2 (by omega), hc 3 (by omega)⟩, hc 4 (by omega), hc 5 (by omega), hc 6 (by omega), hc 7 (by omega)⟩, h1', h2', h3, h4⟩
/-- what the laws' count of a list of bindings bounds -/
noncomputable def bsz (L : List BindM) : Nat := (L.map fun b => 1 + sizes b.v.args + sizes b.t.args).sum
theorem bsz_take {L : List BindM} {k : Nat} (h : k < L.length) : bsz (L.take (k + 1)) = bsz (L.take k) + (1 + sizes (L.getD k default).v.args + sizes (L.getD k default).t.args) := by
  rw [List.take_succ_eq_append_getElem h]
  have : L.getD k default = L[k] := by simp [List.getD, h]
  rw [this]
  simp only [bsz, List.map_append, List.map_cons, List.map_nil, List.sum_append, List.sum_cons, List.sum_nil]
  omega
theorem bsz_len (L : List BindM) : L.length ≤ bsz L := by
  induction L with
  | nil => simp
  | cons a l ih => simp only [bsz, List.map_cons, List.sum_cons, List.length_cons] at ih ⊢; omega
theorem bsz_at {L : List BindM} : ∀ {j : Nat}, j < L.length → 1 + sizes (L.getD j default).v.args + sizes (L.getD j default).t.args ≤ bsz L := by
  induction L with
  | nil => intro j h; simp at h
  | cons a l ih =>
    intro j h
    simp only [bsz, List.map_cons, List.sum_cons] at ih ⊢
    cases j with
    | zero => simp
    | succ j =>
      have := ih (j := j) (by simpa using h)
      rw [List.getD_cons_succ]
      omega
theorem bind_ext {a b : BindM} (h1 : a.v = b.v) (h2 : a.t = b.t) : a = b := by cases a; cases b; cases h1; cases h2; rfl

/-- bindings in order: by the variables, then by what they stand for -/
noncomputable def cmpQ (a b : BindM) : Int := if cmp a.v b.v ≠ 0 then cmp a.v b.v else cmp a.t b.t
/-- substitutions in order -/
noncomputable def cmpQs : List BindM → List BindM → Int
  | [], [] => 0
  | [], _ :: _ => -1
  | _ :: _, [] => 1
  | a :: l, b :: m => if cmpQ a b ≠ 0 then cmpQ a b else cmpQs l m
theorem cmpQs_step : ∀ {L M : List BindM} {k : Nat}, k < L.length → k < M.length → (∀ i, i < k → cmpQ (L.getD i default) (M.getD i default) = 0) → cmpQ (L.getD k default) (M.getD k default) ≠ 0 → cmpQs L M = cmpQ (L.getD k default) (M.getD k default)
  | [], _, _, h, _, _, _ => by simp at h
  | _ :: _, [], _, _, h, _, _ => by simp at h
  | a :: l, b :: m, 0, _, _, _, hn => by
    simp only [List.getD_cons_zero] at hn ⊢
    rw [cmpQs, if_pos hn]
  | a :: l, b :: m, k + 1, h1, h2, h3, hn => by
    have h0 := h3 0 (by omega)
    simp only [List.getD_cons_zero] at h0
    simp only [List.getD_cons_succ] at hn ⊢
    rw [cmpQs, if_neg (by rw [h0]; simp)]
    exact cmpQs_step (by simpa using h1) (by simpa using h2) (fun i hi => by have := h3 (i + 1) (by omega); simpa only [List.getD_cons_succ] using this) hn
theorem cmpQs_end : ∀ {L M : List BindM}, (∀ i, i < L.length → i < M.length → cmpQ (L.getD i default) (M.getD i default) = 0) → cmpQs L M = if L.length < M.length then -1 else if M.length < L.length then 1 else 0
  | [], [], _ => rfl
  | [], _ :: _, _ => by simp [cmpQs]
  | _ :: _, [], _ => by simp [cmpQs]
  | a :: l, b :: m, h => by
    have h0 := h 0 (by simp) (by simp)
    simp only [List.getD_cons_zero] at h0
    rw [cmpQs, if_neg (by rw [h0]; simp), cmpQs_end (fun i hi hj => by have := h (i + 1) (by simpa using hi) (by simpa using hj); simpa only [List.getD_cons_succ] using this)]
    simp only [List.length_cons, Nat.add_lt_add_iff_right]
end Go.Proofs.Ytiilamngcoegiaa.bndl
