/-
  TERMS IN MEMORY, over any program: how rows of terms read (RT), and rows of terms of one's own, each block used once (OT).
-/
import Derived.Test.YtiilamngcoegiaaRowl
import Derived.Test.YtiilamngcoegiaaTrmv
import Derived.Test.YtiilamngcoegiaaIntl
namespace Go.Proofs.Ytiilamngcoegiaa.terml
open Go.ChangeShapes Go.WideShapes Go.ChangeAt Go.RowKit
open mem rowl trm trmv

/-- a term of at most this depth in four cells -/
def RT : Nat → Reads TermM
  | 0 => fun _ _ _ _ => False
  | n + 1 => fun lo w cs t => ∃ va, cs = [.int .i64 t.op, .string (bstr t.name), .int .i64 t.sort, va] ∧ HasR (RT n) 4 lo w va t.args ∧ t.name.length ≤ maxLen ∧ I64 t.op ∧ I64 t.sort
theorem RT_steady : ∀ n, Steady (RT n)
  | 0 => ⟨fun h _ => h.elim, fun h _ => h.elim⟩
  | n + 1 => ⟨fun ⟨va, e, h, r⟩ hk => ⟨va, e, h.kept (RT_steady n) hk, r⟩, fun ⟨va, e, h, r⟩ hl => ⟨va, e, h.mono (RT_steady n) hl, r⟩⟩
theorem RT_succ : ∀ (n : Nat) {lo : Nat} {w : World} {cs : List Value} {t : TermM}, RT n lo w cs t → RT (n + 1) lo w cs t
  | 0, _, _, _, _, h => h.elim
  | n + 1, _, _, _, _, ⟨va, e, h, r⟩ => ⟨va, e, h.map (fun h => RT_succ n h), r⟩
theorem RT_up {n m : Nat} (h : n ≤ m) {lo : Nat} {w : World} {cs : List Value} {t : TermM} (hr : RT n lo w cs t) : RT m lo w cs t := by
  induction h with
  | refl => exact hr
  | step _ ih => exact RT_succ _ ih
/-- terms -/
abbrev HasTs (n lo : Nat) (w : World) (v : Value) (L : List TermM) : Prop := HasR (RT n) 4 lo w v L
theorem HasTs.up {n m : Nat} (h : n ≤ m) {lo : Nat} {w : World} {v : Value} {L : List TermM} (hr : HasTs n lo w v L) : HasTs m lo w v L := hr.map (fun h' => RT_up h h')
theorem HasTs.below {n lo : Nat} {w w' : World} {v : Value} {L : List TermM} (h : HasTs n lo w v L) {B : Nat} (hB : w.heap.size ≤ B) (hb : Below B w w') : HasTs n lo w' v L := HasR.below (RT_steady n) h hB hb
/-- an element of a row: its cells, and its arguments, one level down -/
theorem term_at {n lo : Nat} {w : World} {A : Option Addr} {m c : Nat} {L : List TermM} (h : HasTs n lo w (.slice A m c) L) {j : Nat} (hj : j < m) :
    ∃ (k g o : Nat) (A2 : Option Addr) (c2 : Nat), n = k + 1 ∧ A = some ⟨g, o, none⟩ ∧ lo ≤ g ∧ g < w.heap.size ∧ w.cell? ⟨g, o + j * 4, none⟩ = some (.int .i64 (L.getD j default).op) ∧ w.cell? ⟨g, o + j * 4 + 1, none⟩ = some (.string (bstr (L.getD j default).name)) ∧
      w.cell? ⟨g, o + j * 4 + 2, none⟩ = some (.int .i64 (L.getD j default).sort) ∧ w.cell? ⟨g, o + j * 4 + 3, none⟩ = some (.slice A2 (L.getD j default).args.length c2) ∧
      HasTs k lo w (.slice A2 (L.getD j default).args.length c2) (L.getD j default).args ∧ (L.getD j default).name.length ≤ maxLen ∧ I64 (L.getD j default).op ∧ I64 (L.getD j default).sort := by
  obtain ⟨g, o, cs, e, hl, hg, hc, hr⟩ := h.get hj
  cases n with
  | zero => exact hr.elim
  | succ k =>
    obtain ⟨va, ecs, hh, h1, h2, h3⟩ := hr
    subst ecs
    obtain ⟨A2, c2, rfl, hh'⟩ := HasR.shape hh rfl
    exact ⟨k, g, o, A2, c2, rfl, e, hl, hg, hc 0 (by omega), hc 1 (by omega), hc 2 (by omega), hc 3 (by omega), hh', h1, h2, h3⟩
/-- a term by value: its fields -/
def TV (n lo : Nat) (w : World) (v : Value) (t : TermM) : Prop := ∃ va, v = .agg #[.int .i64 t.op, .string (bstr t.name), .int .i64 t.sort, va] ∧ HasTs n lo w va t.args ∧ t.name.length ≤ maxLen ∧ I64 t.op ∧ I64 t.sort

/-- everything but the blocks of S is as it was -/
structure Chg (S : List Nat) (w w' : World) : Prop where
  os : w'.os = w.os
  tape : w'.tape = w.tape
  output : w'.output = w.output
  size : w.heap.size ≤ w'.heap.size
  block : ∀ k, k < w.heap.size → k ∉ S → w'.heap[k]? = w.heap[k]?
theorem Chg.refl (S : List Nat) (w : World) : Chg S w w := ⟨rfl, rfl, rfl, Nat.le_refl _, fun _ _ _ => rfl⟩
theorem Chg.trans {S : List Nat} {a b c : World} (h : Chg S a b) (k : Chg S b c) : Chg S a c :=
  ⟨k.os.trans h.os, k.tape.trans h.tape, k.output.trans h.output, Nat.le_trans h.size k.size, fun i hi hn => (k.block i (Nat.lt_of_lt_of_le hi h.size) hn).trans (h.block i hi hn)⟩
theorem Chg.mono {S S' : List Nat} {w w' : World} (h : Chg S w w') (hs : ∀ k ∈ S, k ∈ S') : Chg S' w w' := ⟨h.os, h.tape, h.output, h.size, fun k hk hn => h.block k hk (fun h' => hn (hs k h'))⟩
theorem Chg.of_below {S : List Nat} {w w' : World} (h : Below w.heap.size w w') : Chg S w w' := ⟨h.os, h.tape, h.output, h.size, fun k hk _ => h.block k hk⟩
theorem Chg.set {S : List Nat} {w : World} {g j : Nat} (hg : g ∈ S) (u : Value) : Chg S w (w.setCell ⟨g, j, none⟩ u) :=
  ⟨rfl, rfl, rfl, by simp [World.setCell], fun k _ hn => Below.heap_setCell w ⟨g, j, none⟩ u k (fun e => hn (by rw [e]; exact hg))⟩
theorem Chg.below {S : List Nat} {w w' : World} (h : Chg S w w') {B : Nat} (hB : B ≤ w.heap.size) (hs : ∀ k ∈ S, B ≤ k) : Below B w w' :=
  ⟨h.os, h.tape, h.output, h.size, fun k hk => h.block k (Nat.lt_of_lt_of_le hk hB) (fun hm => by have := hs k hm; omega)⟩
theorem Chg.own {S : List Nat} {w w' : World} (h : Chg S w w') {base n : Nat} {e : TypeId} {size : Nat} {v : Value} {xs : List Value} (ho : w.ownsRow base e size v n xs) (hn : ∀ g, v.ownBlock = some g → g ∉ S) : w'.ownsRow base e size v n xs := by
  refine ⟨ho.1, ?_⟩
  rcases ho.2 with h2 | ⟨g, cap, cur, rfl, hg, hh, r⟩
  · exact .inl h2
  · exact .inr ⟨g, cap, cur, rfl, hg, by rw [h.block g (Array.getElem?_eq_some_iff.1 hh).1 (hn g rfl)]; exact hh, r⟩

/-- a row of terms of one's own, at or above lo: its blocks are S, each used once -/
def OT (e : TypeId) : Nat → Nat → World → Value → List TermM → List Nat → Prop
  | 0, _, _, _, _, _ => False
  | n + 1, lo, w, v, L, S => ∃ (xs : List Value) (vs : Nat → Value) (Ss : Nat → List Nat), w.ownsRow lo e 4 v L.length xs ∧ S = v.ownBlock.toList ++ (List.range L.length).flatMap Ss ∧ S.Nodup ∧
      ∀ j, j < L.length → (xs[j * 4]? = some (.int .i64 (L.getD j default).op) ∧ xs[j * 4 + 1]? = some (.string (bstr (L.getD j default).name)) ∧ xs[j * 4 + 2]? = some (.int .i64 (L.getD j default).sort) ∧ xs[j * 4 + 3]? = some (vs j)) ∧
        ((L.getD j default).name.length ≤ maxLen ∧ I64 (L.getD j default).op ∧ I64 (L.getD j default).sort) ∧ OT e n lo w (vs j) (L.getD j default).args (Ss j)
theorem OT.lt {e : TypeId} : ∀ {n lo : Nat} {w : World} {v : Value} {L : List TermM} {S : List Nat}, OT e n lo w v L S → ∀ k ∈ S, lo ≤ k ∧ k < w.heap.size
  | 0, _, _, _, _, _, h => h.elim
  | n + 1, lo, w, v, L, S, ⟨xs, vs, Ss, ho, hS, hnd, hj⟩ => by
    intro k hk
    rw [hS, List.mem_append] at hk
    rcases hk with hk | hk
    · rcases ho.2 with ⟨rfl, _⟩ | ⟨g, cap, cur, rfl, hg, hh, _⟩
      · simp [Value.ownBlock] at hk
      · simp [Value.ownBlock] at hk
        subst hk
        exact ⟨hg, (Array.getElem?_eq_some_iff.1 hh).1⟩
    · obtain ⟨j, hjr, hk⟩ := List.mem_flatMap.1 hk
      exact OT.lt (hj j (by simpa using hjr)).2.2 k hk
theorem OT.chg {e : TypeId} : ∀ {n lo : Nat} {w w' : World} {v : Value} {L : List TermM} {S S' : List Nat}, OT e n lo w v L S → Chg S' w w' → (∀ k ∈ S, k ∉ S') → OT e n lo w' v L S
  | 0, _, _, _, _, _, _, _, h, _, _ => h.elim
  | n + 1, lo, w, w', v, L, S, S', ⟨xs, vs, Ss, ho, hS, hnd, hj⟩, hc, hd => by
    refine ⟨xs, vs, Ss, hc.own ho (fun g hg => hd g ?_), hS, hnd, fun j hjl => ⟨(hj j hjl).1, (hj j hjl).2.1, OT.chg (hj j hjl).2.2 hc (fun k hk => hd k ?_)⟩⟩
    · rw [hS, hg]; simp
    · rw [hS, List.mem_append]
      exact .inr (List.mem_flatMap.2 ⟨j, by simpa using hjl, hk⟩)
theorem OT.below {e : TypeId} {n lo : Nat} {w w' : World} {v : Value} {L : List TermM} {S : List Nat} (h : OT e n lo w v L S) (hb : Below w.heap.size w w') : OT e n lo w' v L S := h.chg (Chg.of_below (S := []) hb) (fun k _ => by simp)
theorem OT.mono {e : TypeId} : ∀ {n lo lo' : Nat} {w : World} {v : Value} {L : List TermM} {S : List Nat}, OT e n lo w v L S → lo' ≤ lo → OT e n lo' w v L S
  | 0, _, _, _, _, _, _, h, _ => h.elim
  | n + 1, lo, lo', w, v, L, S, ⟨xs, vs, Ss, ho, hS, hnd, hj⟩, hl => by
    refine ⟨xs, vs, Ss, ⟨ho.1, ?_⟩, hS, hnd, fun j hjl => ⟨(hj j hjl).1, (hj j hjl).2.1, OT.mono (hj j hjl).2.2 hl⟩⟩
    rcases ho.2 with h2 | ⟨g, cap, cur, rfl, hg, r⟩
    · exact .inl h2
    · exact .inr ⟨g, cap, cur, rfl, Nat.le_trans hl hg, r⟩
theorem OT.has {e : TypeId} : ∀ {n lo : Nat} {w : World} {v : Value} {L : List TermM} {S : List Nat}, OT e n lo w v L S → HasTs n lo w v L
  | 0, _, _, _, _, _, h => h.elim
  | n + 1, lo, w, v, L, S, ⟨xs, vs, Ss, ho, hS, hnd, hj⟩ => by
    refine HasR.of_own ho rfl (fun j hjl => ?_)
    obtain ⟨⟨h0, h1, h2, h3⟩, ⟨h4, h5, h6⟩, h7⟩ := hj j hjl
    refine ⟨[.int .i64 (L.getD j default).op, .string (bstr (L.getD j default).name), .int .i64 (L.getD j default).sort, vs j], fun i hi => ?_, vs j, rfl, OT.has h7, h4, h5, h6⟩
    match i, hi with
    | 0, _ => exact h0
    | 1, _ => exact h1
    | 2, _ => exact h2
    | 3, _ => exact h3
theorem OT.nodup {e : TypeId} : ∀ {n lo : Nat} {w : World} {v : Value} {L : List TermM} {S : List Nat}, OT e n lo w v L S → S.Nodup
  | 0, _, _, _, _, _, h => h.elim
  | _ + 1, _, _, _, _, _, ⟨_, _, _, _, _, hnd, _⟩ => hnd
/-- the empty row -/
theorem OT.nil (e : TypeId) (n lo : Nat) (w : World) : OT e (n + 1) lo w (.slice none 0 0) [] [] :=
  ⟨[], fun _ => undef, fun _ => [], ⟨rfl, .inl ⟨rfl, rfl⟩⟩, by simp [Value.ownBlock], List.nodup_nil, fun j hj => by simp at hj⟩

/-- the marks that the laws write: k, k + 1, .. over the nodes of the terms, the arguments behind their node; tx: the text of a number -/
noncomputable def mkT (tx : Nat → List UInt8) (t : TermM) : Nat → TermM :=
  TermM.rec (motive_1 := fun _ => Nat → TermM) (motive_2 := fun _ => Nat → List TermM) (fun _ _ _ _ f k => .mk (k : Int) (tx (k + 1)) ((k + 2 : Nat) : Int) (f (k + 3))) (fun _ => []) (fun a _ fa fl k => fa k :: fl (k + 3 * size a)) t
noncomputable def mkL (tx : Nat → List UInt8) : List TermM → Nat → List TermM
  | [], _ => []
  | a :: l, k => mkT tx a k :: mkL tx l (k + 3 * size a)
theorem mkT_mk (tx : Nat → List UInt8) (o : Int) (n : List UInt8) (s : Int) (l : List TermM) (k : Nat) : mkT tx (.mk o n s l) k = .mk (k : Int) (tx (k + 1)) ((k + 2 : Nat) : Int) (mkL tx l (k + 3)) := by
  have : ∀ (l : List TermM) (k : Nat), (TermM.rec_1 (motive_1 := fun _ => Nat → TermM) (motive_2 := fun _ => Nat → List TermM) (fun _ _ _ _ f k => .mk (k : Int) (tx (k + 1)) ((k + 2 : Nat) : Int) (f (k + 3))) (fun _ => []) (fun a _ fa fl k => fa k :: fl (k + 3 * size a)) l : Nat → List TermM) k = mkL tx l k := by
    intro l
    induction l with
    | nil => intro k; rfl
    | cons a l ih => intro k; rw [mkL, ← ih]; rfl
  rw [← this]
  rfl
theorem mkL_len (tx : Nat → List UInt8) : ∀ (l : List TermM) (k : Nat), (mkL tx l k).length = l.length
  | [], _ => rfl
  | a :: l, k => by rw [mkL, List.length_cons, mkL_len tx l, List.length_cons]
/-- the first mark of the element j -/
noncomputable def offs (l : List TermM) (k j : Nat) : Nat := k + 3 * sizes (l.take j)
theorem offs_succ (l : List TermM) (k j : Nat) (h : j < l.length) : offs l k (j + 1) = offs l k j + 3 * size (l.getD j default) := by
  rw [offs, offs, List.take_succ_eq_append_getElem h, getD_at h]
  simp only [sizes, List.map_append, List.map_cons, List.map_nil, List.sum_append, List.sum_cons, List.sum_nil]
  omega
theorem offs_le {l : List TermM} {k j : Nat} (h : j < l.length) : offs l k j + 3 * size (l.getD j default) ≤ k + 3 * sizes l := by
  rw [← offs_succ l k j h, offs]
  have : sizes (l.take (j + 1)) ≤ sizes l := by
    have e := List.take_append_drop (j + 1) l
    have : sizes l = sizes (l.take (j + 1)) + sizes (l.drop (j + 1)) := by
      conv => lhs; rw [← e]
      simp only [sizes, List.map_append, List.sum_append]
    omega
  omega
theorem mkL_get (tx : Nat → List UInt8) : ∀ (l : List TermM) (k j : Nat), j < l.length → (mkL tx l k).getD j default = mkT tx (l.getD j default) (offs l k j)
  | [], _, _, h => by simp at h
  | a :: l, k, 0, _ => by simp [mkL, offs, sizes]
  | a :: l, k, j + 1, h => by
    have hj : j < l.length := by simpa using h
    rw [mkL, List.getD_cons_succ, mkL_get tx l _ j hj, List.getD_cons_succ]
    congr 1
    simp only [offs, List.take_succ_cons, sizes, List.map_cons, List.sum_cons]
    omega
theorem size_pos (t : TermM) : 1 ≤ size t := by
  obtain ⟨o, n, s, l⟩ := t
  rw [size_mk]; omega
end Go.Proofs.Ytiilamngcoegiaa.terml
