/-
  Termop, Termcl, Tma, Tmr, Tmb, merged.
-/
import Derived.Test.YtkkmjaggebjcbaaGreatPk05
import Derived.Lib.SmallJoins
import Derived.ChangeArms
import Derived.Lib.SliceRun
/-
 TERMS THAT CAME IN: from what the row's hypothesis reads to 'HasTs'.
-/
set_option maxRecDepth 100000
namespace Go.Proofs.YtkkmjaggebjcbaaGreat.termop
open Go.Joins Go.ChangeShapes Go.WideShapes Go.ChangeAt Go.RowKit Go.Deep
open mem rowl trm trmv terml termt termx

section
variable {H : Type} {enc : TypeId × Value → H} {W : World} {base : Nat}
theorem i64b {x : Int} (h : (Lit.int .i64 x).wf = true) : I64 x := by
 simp only [Lit.wf, Bool.and_eq_true, decide_eq_true_eq] at h
 exact h
/-- a row, from the reading of each of its elements -/
theorem row_of {α : Type} [Inhabited α] {R : Reads α} {k : Nat} (hk : 0 < k) {a : Addr} {len m : Nat} (hl : len ≤ m) (hm : m ≤ maxLen)
  (h : ∀ j, j < len → ∃ (x : α) (cs : List Value), (∀ i, i < k → W.cell? ((a.add (j * k)).add i) = some (cs.getD i undef)) ∧ R 0 W cs x) :
  ∃ L : List α, HasR R k 0 W (.slice (some a) len m) L := by
 let f : Nat → α := fun j => if h' : j < len then Classical.choose (h j h') else default
 have hf : ∀ j, j < len → ∃ cs : List Value, (∀ i, i < k → W.cell? ((a.add (j * k)).add i) = some (cs.getD i undef)) ∧ R 0 W cs (f j) := by
  intro j hj
  have := Classical.choose_spec (h j hj)
  simpa only [f, dif_pos hj] using this
 refine ⟨(List.range len).map f, some a, m, by simp, by simpa using hl, hm, fun j hj => ?_⟩
 have hj' : j < len := by simpa using hj
 obtain ⟨cs, h1, h2⟩ := hf j hj'
 have hget : ((List.range len).map f).getD j default = f j := by simp [List.getD, hj']
 obtain ⟨cs0, h01, _⟩ := hf 0 (by omega)
 have hc0 := h01 0 hk
 obtain ⟨b, o, sp⟩ := a
 have hsp : sp = none := by simpa [Addr.add] using World.cell?_spot hc0
 subst hsp
 have hcj : ∀ i, i < k → W.cell? ⟨b, o + j * k + i, none⟩ = some (cs.getD i undef) := by
  intro i hi
  have := h1 i hi
  rw [Addr.add_lit, Addr.add_lit] at this
  exact this
 exact ⟨b, o, cs, rfl, Nat.zero_le _, World.block_lt_of_cell? W _ (hcj 0 hk), hcj, by rw [hget]; exact h2⟩
/-- four cells that read as a term -/
theorem four_of {n : Nat} {cs : List Value} {y : DataW H × List MemPlace} (ht : DataW.trod enc Tryz.prog W base (fun _ => true) true n 53 cs = some y) :
  ∃ (op : Int) (s : ByteArray) (so : Int) (va : Value) (n' : Nat) (y' : DataW H × List MemPlace), n = n' + 1 ∧ cs = [.int .i64 op, .string s, .int .i64 so, va] ∧ s.size ≤ maxLen ∧ I64 op ∧ I64 so ∧ DataW.trod enc Tryz.prog W base (fun _ => true) true n' 29 [va] = some y' := by
 have hCi : Tryz.prog.cellsOf 3 = 1 := by kernel_rfl
 have hCs : Tryz.prog.cellsOf 9 = 1 := by kernel_rfl
 have hCd : Tryz.prog.cellsOf 29 = 1 := by kernel_rfl
 have hC : Tryz.prog.cellsOf 53 = 4 := by kernel_rfl
 obtain ⟨xs, n', hn, _, hl, hlen, hf⟩ := DataW.trod_struct Tryz.underlying53 ht
 rw [hC] at hl
 obtain ⟨c0, c1, c2, c3, rfl⟩ : ∃ c0 c1 c2 c3, cs = [c0, c1, c2, c3] := by
  match cs, hl with
  | [c0, c1, c2, c3], _ => exact ⟨c0, c1, c2, c3, rfl⟩
 obtain ⟨y0, y1, y2, y3, rfl⟩ : ∃ y0 y1 y2 y3, xs = [y0, y1, y2, y3] := by
  match xs, hlen with
  | [y0, y1, y2, y3], _ => exact ⟨y0, y1, y2, y3, rfl⟩
 have h0 : DataW.trod enc Tryz.prog W base (fun _ => true) true n' 3 (([c0, c1, c2, c3].drop 0).take (Tryz.prog.cellsOf 3)) = some y0 := hf 0 _ rfl
 have h1 : DataW.trod enc Tryz.prog W base (fun _ => true) true n' 9 (([c0, c1, c2, c3].drop 1).take (Tryz.prog.cellsOf 9)) = some y1 := hf 1 _ rfl
 have h2 : DataW.trod enc Tryz.prog W base (fun _ => true) true n' 3 (([c0, c1, c2, c3].drop 2).take (Tryz.prog.cellsOf 3)) = some y2 := hf 2 _ rfl
 have h3 : DataW.trod enc Tryz.prog W base (fun _ => true) true n' 29 (([c0, c1, c2, c3].drop 3).take (Tryz.prog.cellsOf 29)) = some y3 := hf 3 _ rfl
 rw [hCi] at h0 h2
 rw [hCs] at h1
 rw [hCd] at h3
 simp only [List.drop_zero, List.take_succ_cons, List.take_zero, List.drop_succ_cons] at h0 h1 h2 h3
 obtain ⟨x0, e0, _, w0⟩ := DataW.trod_int Tryz.underlying3 h0
 obtain ⟨s, e1, _, hs⟩ := DataW.trod_string Tryz.underlying9 h1
 obtain ⟨x2, e2, _, w2⟩ := DataW.trod_int Tryz.underlying3 h2
 simp only [List.cons.injEq, and_true] at e0 e1 e2
 subst e0 e1 e2
 exact ⟨x0, s, x2, c3, n', _, hn, rfl, hs, i64b w0, i64b w2, h3⟩
/-- terms, from the reading of a slice's header -/
theorem terms_of : ∀ (n : Nat) {v : Value} {y : DataW H × List MemPlace}, DataW.trod enc Tryz.prog W base (fun _ => true) true n 29 [v] = some y → ∃ L : List TermM, HasTs n 0 W v L := by
 intro n
 induction n using Nat.strongRecOn with
 | _ n ih =>
  intro v y hf
  have hC : Tryz.prog.cellsOf 53 = 4 := by kernel_rfl
  rcases DataW.trod_slice Tryz.underlying29 hf with ⟨hcs, hx⟩ | ⟨a, len, cap, elems, rest, k, hn, hcs, hx, hb, hl, hm, hlen, hel, _, _⟩
  ·simp at hcs
   subst hcs
   exact ⟨[], HasR.nil _ _ _ (by unfold maxLen; omega) _⟩
  ·simp at hcs
   subst hcs
   rw [hC] at hel
   refine row_of (by omega) hl hm (fun j hj => ?_)
   have he := hel j hj
   rw [List.getElem?_eq_getElem (by omega)] at he
   obtain ⟨cs, hc, ht⟩ := Option.bind_eq_some_iff.1 he
   obtain ⟨op, s, so, va, n', y', hk, rfl, hs, h1, h2, h3⟩ := four_of ht
   obtain ⟨L, hL⟩ := ih n' (by omega) h3
   obtain ⟨_, hcl, hat⟩ := World.cells?_some hc
   have hc0 := hat 0 (by omega)
   have hc1 := hat 1 (by omega)
   have hc2 := hat 2 (by omega)
   have hc3 := hat 3 (by omega)
   refine ⟨.mk op s.data.toList so L, [.int .i64 op, .string s, .int .i64 so, va], fun i hi => ?_, ?_⟩
   ·match i, hi with
    | 0, _ => rw [hc0]; rfl
    | 1, _ => rw [hc1]; rfl
    | 2, _ => rw [hc2]; rfl
    | 3, _ => rw [hc3]; rfl
   ·obtain ⟨m, rfl⟩ : ∃ m, n = m + 1 := ⟨k, hn⟩
    exact ⟨va, by show _ = [_, Value.string (bstr s.data.toList), _, _]; rw [bstr_data]; rfl, hL.up (by omega), by show (s.data.toList).length ≤ _; rw [← bstr_size, bstr_data]; exact hs, h1, h2⟩
end
/-- a []Term that came in -/
theorem has_terms {H : Type} {enc : TypeId × Value → H} {W : World} {base : Nat} {v : Value} {d : DataW H} {p : List MemPlace}
  (hval : Value.okWide Tryz.prog W .any base 29 v) (hd : DataW.Trod enc Tryz.prog W 0 (fun _ => true) true 29 v d p) : ∃ (n : Nat) (L : List TermM), HasTs n 0 W v L := by
 obtain ⟨a0, len, cap, rfl⟩ := okWide_slice Tryz.underlying29 hval
 obtain ⟨fuel, hf⟩ := hd
 obtain ⟨L, hL⟩ := terms_of fuel (v := .slice a0 len cap) hf
 exact ⟨fuel, L, hL⟩
end Go.Proofs.YtkkmjaggebjcbaaGreat.termop
/-
 THE LIBRARY'S Clone AT A ROW OF TERMS: the row is the call's own, the elements' arguments are shared.
-/
namespace Go.Proofs.YtkkmjaggebjcbaaGreat.termcl
open Go.ChangeShapes Go.WideShapes Go.ChangeAt Go.RowKit
open mem dec rowl trm trmv terml termb termt termx

/-- four cells an element -/
def four (L : List TermM) (vs : Nat → Value) (j : Nat) : List Value := [.int .i64 (L.getD j default).op, .string (bstr (L.getD j default).name), .int .i64 (L.getD j default).sort, vs j]
def fours (L : List TermM) (vs : Nat → Value) (m : Nat) : List Value := (List.range m).flatMap (four L vs)
theorem fours_succ (L : List TermM) (vs : Nat → Value) (m : Nat) : fours L vs (m + 1) = fours L vs m ++ four L vs m := by
 unfold fours
 rw [List.range_succ, List.flatMap_append]
 simp
theorem fours_len (L : List TermM) (vs : Nat → Value) : ∀ m, (fours L vs m).length = m * 4
 | 0 => rfl
 | m + 1 => by rw [fours_succ, List.length_append, fours_len L vs m]; simp [four]; omega
theorem fours_at (L : List TermM) (vs : Nat → Value) : ∀ (m j : Nat), j < m → Cells4 (fours L vs m) j (L.getD j default) (vs j)
 | 0, j, h => by omega
 | m + 1, j, h => by
  have hl := fours_len L vs m
  unfold Cells4
  rw [fours_succ]
  by_cases hj : j < m
  ·obtain ⟨a, b, c, d⟩ := fours_at L vs m j hj
   exact ⟨by rw [List.getElem?_append_left (by omega)]; exact a, by rw [List.getElem?_append_left (by omega)]; exact b, by rw [List.getElem?_append_left (by omega)]; exact c, by rw [List.getElem?_append_left (by omega)]; exact d⟩
  ·obtain rfl : j = m := by omega
   refine ⟨?_, ?_, ?_, ?_⟩
   ·rw [List.getElem?_append_right (by omega), hl, Nat.sub_self]; rfl
   ·rw [List.getElem?_append_right (by omega), hl, Nat.add_sub_cancel_left]; rfl
   ·rw [List.getElem?_append_right (by omega), hl, Nat.add_sub_cancel_left]; rfl
   ·rw [List.getElem?_append_right (by omega), hl, Nat.add_sub_cancel_left]; rfl
/-- the elements' argument values -/
theorem args_of {n lo : Nat} {w : World} {A : Option Addr} {m c : Nat} {L : List TermM} (h : HasTs (n + 1) lo w (.slice A m c) L) :
  ∃ vs : Nat → Value, (∀ j, j < m → HasTs n lo w (vs j) (L.getD j default).args ∧ Bnd (L.getD j default)) ∧ ∀ g o, A = some ⟨g, o, none⟩ → ∀ j x, (fours L vs m)[j]? = some x → w.cell? ((⟨g, o, none⟩ : Addr).add j) = some x := by
 have key : ∀ j, j < m → ∃ va, (HasTs n lo w va (L.getD j default).args ∧ Bnd (L.getD j default)) ∧ ∀ g o, A = some ⟨g, o, none⟩ → w.cell? ⟨g, o + j * 4, none⟩ = some (.int .i64 (L.getD j default).op) ∧ w.cell? ⟨g, o + j * 4 + 1, none⟩ = some (.string (bstr (L.getD j default).name)) ∧ w.cell? ⟨g, o + j * 4 + 2, none⟩ = some (.int .i64 (L.getD j default).sort) ∧ w.cell? ⟨g, o + j * 4 + 3, none⟩ = some va := by
  intro j hj
  obtain ⟨k, g, o, A2, c2, hk, hA, _, _, c0, c1, c2', c3, hh, hb⟩ := term_at h hj
  obtain rfl : k = n := by omega
  refine ⟨_, ⟨hh, hb⟩, fun g' o' e => ?_⟩
  rw [hA] at e
  simp only [Option.some.injEq, Addr.mk.injEq, and_true] at e
  obtain ⟨rfl, rfl⟩ := e
  exact ⟨c0, c1, c2', c3⟩
 refine ⟨fun j => if hj : j < m then Classical.choose (key j hj) else undef, fun j hj => ?_, fun g o hA p x hx => ?_⟩
 ·simp only [hj, dif_pos]
  exact (Classical.choose_spec (key j hj)).1
 ·have hlt : p < m * 4 := by have := (List.getElem?_eq_some_iff.1 hx).1; rwa [fours_len] at this
  obtain ⟨q, i, rfl, hi⟩ : ∃ q i, p = q * 4 + i ∧ i < 4 := ⟨p / 4, p % 4, by omega, by omega⟩
  have hj : q < m := by omega
  obtain ⟨a, b, c, d⟩ := fours_at L (fun j => if hj : j < m then Classical.choose (key j hj) else undef) m q hj
  simp only [hj, dif_pos] at d
  obtain ⟨e0, e1, e2, e3⟩ := (Classical.choose_spec (key q hj)).2 g o hA
  rw [Addr.add_lit]
  match i, hi with
  | 0, _ => rw [Nat.add_zero] at hx ⊢; rw [a] at hx; injection hx with hx; subst hx; exact e0
  | 1, _ => rw [b] at hx; injection hx with hx; subst hx; rw [← Nat.add_assoc]; exact e1
  | 2, _ => rw [c] at hx; injection hx with hx; subst hx; rw [← Nat.add_assoc]; exact e2
  | 3, _ => rw [d] at hx; injection hx with hx; subst hx; rw [← Nat.add_assoc]; exact e3
theorem fours_one (L : List TermM) (vs : Nat → Value) (m : Nat) (h : ∀ j, j < m → (vs j).oneCell' = true) : ∀ x ∈ fours L vs m, x.oneCell' = true := by
 intro x hx
 obtain ⟨j, hj, hx⟩ := List.mem_flatMap.1 hx
 simp only [four, List.mem_cons, List.not_mem_nil, or_false] at hx
 rcases hx with rfl | rfl | rfl | rfl
 ·rfl
 ·rfl
 ·rfl
 ·exact h j (by simpa using hj)
/-- what a clone leaves -/
def ClonePost (n lo : Nat) (wl : World) (L : List TermM) (w : World) (e : Ending) (w' : World) : Prop := ∃ (v : Value) (vs : Nat → Value), e = .returned v ∧ w'.ownsRow w.heap.size 34 4 v L.length (fours L vs L.length) ∧ (∀ j, j < L.length → HasTs n lo wl (vs j) (L.getD j default).args ∧ Bnd (L.getD j default)) ∧ Below w.heap.size w w'
set_option maxRecDepth 20000 in
/-- the row may be read in an older world -/
theorem clone_any {n lo : Nat} {v : Value} {L : List TermM} {wl w : World} (hbl : Below wl.heap.size wl w) (h : HasTs (n + 1) lo wl v L) (hl : L.length ≤ 1073741824) :
  Calls Tryz.prog 136 #[v] w (ClonePost n lo wl L w) := by
 obtain ⟨A, c, rfl, h⟩ := HasR.shape h rfl
 obtain ⟨j0, hij, hy0, hy1, hy2⟩ := info_parts info_term
 obtain ⟨vs, h1, h2⟩ := args_of h
 have H1 := Lib.hid h1
 have HL := Lib.hid (fours_len L vs L.length)
 have HO := Lib.hid (fours_one L vs L.length (fun j hj => by obtain ⟨A', c', e, _⟩ := HasR.shape (h1 j hj).1 rfl; rw [e]; rfl))
 cases A with
 | none =>
  have h0 : L.length = 0 := by
   by_cases hz : L.length = 0
   ·exact hz
   ·obtain ⟨_, _, _, _, _, _, hA, _⟩ := term_at h (j := 0) (by omega)
    cases hA
  have HR : Hid (ClonePost n lo wl L w (.returned (.slice none 0 0)) w) := Lib.hid ⟨_, vs, rfl, by rw [h0]; exact ⟨rfl, .inl ⟨rfl, rfl⟩⟩, H1.out, Below.refl _ _⟩
  have he : ∀ W, (binOp .eql 32 (.slice none L.length c) (.slice none 0 0)).run Tryz.prog W = .ok (.bool true) W := fun W => Lib.run_eql_slice_nil W 32 34 none L.length c 0 0 Tryz.underlying32
  clear h h1 h2 H1 HL HO h0 hbl
  go_enter Tryz.func136, Tryz.ntmps136
  go_wp2
  go_ret
  exact HR.out
 | some a =>
  obtain ⟨g, o, sp⟩ := a
  obtain ⟨q, hq⟩ : ∃ q, q = L.length := ⟨_, rfl⟩
  have hsp : q ≠ 0 → sp = none := fun hz => by
   obtain ⟨_, g', o', _, _, _, hA, _⟩ := term_at h (j := 0) (by omega)
   simp only [Option.some.injEq, Addr.mk.injEq] at hA
   exact hA.2.2
  have H2 : Hid (∀ (j : Nat) (x : Value), (fours L vs q)[j]? = some x → w.cell? ((⟨g, o, sp⟩ : Addr).add j) = some x) := Lib.hid (fun j x hx => by
   have hlt := (List.getElem?_eq_some_iff.1 hx).1
   rw [fours_len] at hlt
   obtain rfl := hsp (by omega)
   have h3 := h2 g o rfl j x (by rw [← hq]; exact hx)
   exact (hbl.cell (World.block_lt_of_cell? wl _ h3)).trans h3)
  have HQ := Lib.hid hq
  rw [← hq] at HL HO hl ⊢
  clear h h1 h2 hsp hq hbl
  have he : ∀ W, (binOp .eql 32 (.slice (some ⟨g, o, sp⟩) q c) (.slice none 0 0)).run Tryz.prog W = .ok (.bool false) W := fun W => Lib.run_eql_slice_nil W 32 34 (some ⟨g, o, sp⟩) q c 0 0 Tryz.underlying32
  go_enter Tryz.func136, Tryz.ntmps136
  have hfr : (w.alloc (.cells #[] 34)).ownsRow w.heap.size 34 4 (.slice (some ⟨w.heap.size, 0, none⟩) 0 0) 0 [] := World.ownsRow_lit (e := 34) (size := 4) w #[] 0 (Nat.le_refl _) (by unfold maxLen; omega) rfl
  have HF := Lib.hid hfr
  clear hfr
  go_wp2_with (at_builtin; refine wpList_append_d rfl _ _ _ rfl w.heap.size 34 j0 _ 4 56 Tryz.underlying32 hij hy0 hy1 hy2 rfl (by omega) w.heap.size 0 0 [] rfl HF.out ⟨g, o, sp⟩ q c (fours L vs q) rfl HL.out (fun j x hx => by
   have hc := H2.out j x hx
   exact (((Below.refl w.heap.size w).alloc (Nat.le_refl _) _).cell (World.block_lt_of_cell? w _ hc)).trans hc) HO.out (by unfold maxLen; omega) (by omega) (by simp) ?_; intro g4 cap4 w4 hown4 hgr4 hg4 hlt4 hdr4)
  have HR : Hid (ClonePost n lo wl L w (.returned (.slice (some ⟨g4, 0, none⟩) (0 + q) cap4)) w4) := Lib.hid (by
   refine ⟨_, vs, rfl, ?_, H1.out, ((Below.refl _ _).alloc (Nat.le_refl _) _).grown hgr4 (by simp) (by intro k hk; cases hk; exact Nat.le_refl _)⟩
   rw [Nat.zero_add] at hown4 ⊢
   rw [← HQ.out]
   exact hown4)
  clear hown4 hgr4 hg4 hdr4
  rw [Nat.zero_add] at HR
  go_wp2
  go_ret
  exact HR.out
end Go.Proofs.YtkkmjaggebjcbaaGreat.termcl
/-
 THE PARTS AND THE FORM OF AN APPLICATION: mathematics; rows of terms, each with the value of its arguments.
-/
namespace Go.Proofs.YtkkmjaggebjcbaaGreat.tma
open Go.ChangeShapes Go.WideShapes Go.ChangeAt Go.RowKit
open mem dec rowl trm trmv terml termb termt termcl

/-- what one argument gives of the parts -/
def part1 (unt : Int) (ass : Bool) (k : Nat) (a : TermM) : List TermM := if unt ≠ 0 ∧ a.op = unt - 1 then [] else if ass = true ∧ a.op = (k : Int) then a.args else [a]
def partsM (unt : Int) (ass : Bool) (k : Nat) (L : List TermM) : List TermM := L.flatMap (part1 unt ass k)
theorem partsM_snoc (unt : Int) (ass : Bool) (k : Nat) (L : List TermM) (a : TermM) : partsM unt ass k (L ++ [a]) = partsM unt ass k L ++ part1 unt ass k a := by simp [partsM]
theorem part1_unit {unt : Int} {ass : Bool} {k : Nat} {a : TermM} (h : unt ≠ 0 ∧ a.op = unt - 1) : part1 unt ass k a = [] := by rw [part1, if_pos h]
theorem part1_flat {unt : Int} {ass : Bool} {k : Nat} {a : TermM} (h : ¬ (unt ≠ 0 ∧ a.op = unt - 1)) (h2 : ass = true ∧ a.op = (k : Int)) : part1 unt ass k a = a.args := by rw [part1, if_neg h, if_pos h2]
theorem part1_self {unt : Int} {ass : Bool} {k : Nat} {a : TermM} (h : ¬ (unt ≠ 0 ∧ a.op = unt - 1)) (h2 : ¬ (ass = true ∧ a.op = (k : Int))) : part1 unt ass k a = [a] := by rw [part1, if_neg h, if_neg h2]
theorem parts_take (unt : Int) (ass : Bool) (k : Nat) (L : List TermM) {j : Nat} (h : j < L.length) : partsM unt ass k (L.take (j + 1)) = partsM unt ass k (L.take j) ++ part1 unt ass k (L.getD j default) := by
 rw [List.take_succ_eq_append_getElem h, partsM_snoc]
 simp [List.getD, List.getElem?_eq_getElem h]
theorem parts_pre (unt : Int) (ass : Bool) (k : Nat) (L : List TermM) (j : Nat) : (partsM unt ass k (L.take j)).length ≤ (partsM unt ass k L).length := by
 have e : partsM unt ass k L = partsM unt ass k (L.take j) ++ partsM unt ass k (L.drop j) := by
  unfold partsM; rw [← List.flatMap_append, List.take_append_drop]
 rw [e, List.length_append]; omega
/-- the form of an application, without regard to the limits -/
noncomputable def formM (unt : Int) (ass com : Bool) (k : Nat) (L : List TermM) : TermM :=
 if unt ≠ 0 ∧ (partsM unt ass k L).length = 0 then .mk (unt - 1) [] 0 [] else if unt ≠ 0 ∧ (partsM unt ass k L).length = 1 then (partsM unt ass k L).getD 0 default
 else .mk k [] 0 (if com = true ∧ (partsM unt ass k L).length ≤ 7 then sortM (partsM unt ass k L) else partsM unt ass k L)

/-! ### rows of terms, each with the value of its arguments -/
def rowV (R : List (TermM × Value)) : List Value := R.flatMap fun x => [.int .i64 x.1.op, .string (bstr x.1.name), .int .i64 x.1.sort, x.2]
theorem rowV_append (R Q : List (TermM × Value)) : rowV (R ++ Q) = rowV R ++ rowV Q := by simp [rowV]
theorem rowV_len : ∀ R : List (TermM × Value), (rowV R).length = R.length * 4
 | [] => rfl
 | x :: R => by
  have := rowV_len R
  simp only [rowV, List.flatMap_cons, List.length_append, List.length_cons, List.length_nil] at this ⊢
  omega
theorem rowV_one (R : List (TermM × Value)) (h : ∀ x ∈ R, x.2.oneCell' = true) : ∀ v ∈ rowV R, v.oneCell' = true := by
 intro v hv
 simp only [rowV, List.mem_flatMap] at hv
 obtain ⟨x, hx, hv⟩ := hv
 simp only [List.mem_cons, List.not_mem_nil, or_false] at hv
 rcases hv with rfl | rfl | rfl | rfl
 ·rfl
 ·rfl
 ·rfl
 ·exact h x hx
/-- a row of terms in memory: its cells, and where the arguments lie -/
theorem row_of {n lo : Nat} {w : World} {A : Option Addr} {m c : Nat} {L : List TermM} (h : HasTs (n + 1) lo w (.slice A m c) L) (hm : m = L.length) :
  ∃ R : List (TermM × Value), R.map Prod.fst = L ∧ (∀ x ∈ R, HasTs n lo w x.2 x.1.args ∧ Bnd x.1) ∧ ∀ g o, A = some ⟨g, o, none⟩ → ∀ j x, (rowV R)[j]? = some x → w.cell? ((⟨g, o, none⟩ : Addr).add j) = some x := by
 obtain ⟨vs, h1, h2⟩ := args_of h
 refine ⟨(List.range m).map fun j => (L.getD j default, vs j), ?_, ?_, ?_⟩
 ·apply List.ext_getElem
  ·simp [hm]
  ·intro i h3 h4
   simp [List.getD, List.getElem?_eq_getElem h4]
 ·intro x hx
  simp only [List.mem_map, List.mem_range] at hx
  obtain ⟨j, hj, rfl⟩ := hx
  exact h1 j hj
 ·have e : rowV ((List.range m).map fun j => (L.getD j default, vs j)) = fours L vs m := by
   simp only [rowV, fours, List.flatMap_map]
   rfl
  rw [e]
  exact h2
end Go.Proofs.YtkkmjaggebjcbaaGreat.tma
/-
 ROWS OF TERMS THAT LIE IN ONE WORLD, WHILE WHAT THEIR ELEMENTS REACH IS READ IN ANOTHER; worlds without some blocks. Any program.
-/
namespace Go.Proofs.YtkkmjaggebjcbaaGreat.tmr
open Go.ChangeShapes Go.WideShapes Go.ChangeAt Go.RowKit
open mem dec rowl trm trmv terml termb termt termx termcl tma

/-- all that can be read in wl reads the same in w -/
def Sub (wl w : World) : Prop := ∀ a u, wl.cell? a = some u → w.cell? a = some u
theorem Sub.refl (w : World) : Sub w w := fun _ _ h => h
theorem Sub.trans {a b c : World} (h : Sub a b) (k : Sub b c) : Sub a c := fun x u hx => k x u (h x u hx)
theorem Sub.below {w w' : World} (hb : Below w.heap.size w w') : Sub w w' := fun _ _ h => (hb.cell (block_lt_of_cell h)).trans h
theorem has_sub : ∀ (n : Nat) {lo : Nat} {wl w : World} {v : Value} {L : List TermM}, Sub wl w → HasTs n lo wl v L → HasTs n lo w v L
 | 0, lo, wl, w, v, L, hs, ⟨A, c, e, h1, h2, h3⟩ => ⟨A, c, e, h1, h2, fun j hj => by
  obtain ⟨g, o, cs, e, hl, hg, hc, hr⟩ := h3 j hj
  exact hr.elim⟩
 | n + 1, lo, wl, w, v, L, hs, ⟨A, c, e, h1, h2, h3⟩ => ⟨A, c, e, h1, h2, fun j hj => by
  obtain ⟨g, o, cs, e, hl, hg, hc, va, ecs, hh, r⟩ := h3 j hj
  have hc' : ∀ i, i < 4 → w.cell? ⟨g, o + j * 4 + i, none⟩ = some (cs.getD i undef) := fun i hi => hs _ _ (hc i hi)
  exact ⟨g, o, cs, e, hl, block_lt_of_cell (hc' 0 (by omega)), hc', va, ecs, has_sub n hs hh, r⟩⟩
/-! ### rows -/
abbrev p0 : TermM × Value := (default, undef)
theorem rowV_at : ∀ (R : List (TermM × Value)) (j : Nat), j < R.length → Cells4 (rowV R) j (R.getD j p0).1 (R.getD j p0).2
 | [], _, h => by simp at h
 | x :: R, 0, _ => ⟨rfl, rfl, rfl, rfl⟩
 | x :: R, j + 1, h => by
  obtain ⟨a, b, c, d⟩ := rowV_at R j (by simpa using h)
  have e : rowV (x :: R) = [.int .i64 x.1.op, .string (bstr x.1.name), .int .i64 x.1.sort, x.2] ++ rowV R := by simp [rowV]
  have g : (x :: R).getD (j + 1) p0 = R.getD j p0 := by simp
  rw [e, g]
  have key : ∀ i y, (rowV R)[j * 4 + i]? = some y → ([Value.int .i64 x.1.op, .string (bstr x.1.name), .int .i64 x.1.sort, x.2] ++ rowV R)[(j + 1) * 4 + i]? = some y := fun i y hy => by
   rw [List.getElem?_append_right (by simp; omega)]
   have : (j + 1) * 4 + i - [Value.int .i64 x.1.op, .string (bstr x.1.name), .int .i64 x.1.sort, x.2].length = j * 4 + i := by simp; omega
   rw [this]; exact hy
  exact ⟨key 0 _ a, key 1 _ b, key 2 _ c, key 3 _ d⟩
theorem fst_at {R : List (TermM × Value)} {j : Nat} (h : j < R.length) : (R.map Prod.fst).getD j default = (R.getD j p0).1 := by
 simp [List.getD, List.getElem?_eq_getElem h]
theorem mem_R {R : List (TermM × Value)} {j : Nat} (h : j < R.length) : R.getD j p0 ∈ R := by rw [List.getD_eq_getElem?_getD, List.getElem?_eq_getElem h]; exact List.getElem_mem _
/-- what an element reaches -/
abbrev El (N lo : Nat) (wl : World) (x : TermM × Value) : Prop := HasTs N lo wl x.2 x.1.args ∧ Bnd x.1
/-- a row of terms that lies in w; what its elements reach is read in wl -/
def RowIn (N lo : Nat) (wl w : World) (v : Value) (R : List (TermM × Value)) : Prop :=
 ∃ A c, v = .slice A R.length c ∧ R.length ≤ c ∧ c ≤ maxLen ∧ (R ≠ [] → ∃ g o, A = some ⟨g, o, none⟩ ∧ ∀ j x, (rowV R)[j]? = some x → w.cell? ((⟨g, o, none⟩ : Addr).add j) = some x) ∧ ∀ x ∈ R, El N lo wl x
theorem RowIn.of_has {N lo : Nat} {w : World} {v : Value} {L : List TermM} (h : HasTs (N + 1) lo w v L) : ∃ R, R.map Prod.fst = L ∧ RowIn N lo w w v R := by
 obtain ⟨A, c, rfl, h'⟩ := HasR.shape h rfl
 obtain ⟨R, h1, h2, h3⟩ := row_of h' rfl
 obtain ⟨A', c', e, hc, hm, hh⟩ := h'
 simp only [Value.slice.injEq] at e
 obtain ⟨rfl, _, rfl⟩ := e
 have hl : R.length = L.length := by rw [← h1, List.length_map]
 refine ⟨R, h1, A, c, by rw [hl], by omega, hm, fun hne => ?_, h2⟩
 have : 0 < R.length := List.length_pos_iff.2 hne
 obtain ⟨g, o, cs, e, _⟩ := hh 0 (by omega)
 exact ⟨g, o, e, h3 g o e⟩
theorem RowIn.shape {N lo : Nat} {wl w : World} {v : Value} {R : List (TermM × Value)} (h : RowIn N lo wl w v R) {m : Nat} (hm : m = R.length) : ∃ A c, v = .slice A m c ∧ RowIn N lo wl w (.slice A m c) R ∧ m ≤ 9223372036854775807 := by
 subst hm
 obtain ⟨A, c, rfl, h'⟩ := h
 exact ⟨A, c, rfl, ⟨A, c, rfl, h'⟩, by have := h'.1; have := h'.2.1; unfold maxLen at this; omega⟩
theorem RowIn.at {N lo : Nat} {wl w : World} {A : Option Addr} {m c : Nat} {R : List (TermM × Value)} (h : RowIn N lo wl w (.slice A m c) R) {j : Nat} (hj : j < R.length) :
  ∃ g o B cb, A = some ⟨g, o, none⟩ ∧ g < w.heap.size ∧ w.cell? ⟨g, o + j * 4, none⟩ = some (.int .i64 (R.getD j p0).1.op) ∧ w.cell? ⟨g, o + j * 4 + 1, none⟩ = some (.string (bstr (R.getD j p0).1.name)) ∧ w.cell? ⟨g, o + j * 4 + 2, none⟩ = some (.int .i64 (R.getD j p0).1.sort) ∧
   w.cell? ⟨g, o + j * 4 + 3, none⟩ = some (.slice B (R.getD j p0).1.args.length cb) ∧ (R.getD j p0).2 = .slice B (R.getD j p0).1.args.length cb ∧ El N lo wl (R.getD j p0) := by
 obtain ⟨A', c', e, _, _, h2, h3⟩ := h
 simp only [Value.slice.injEq] at e
 obtain ⟨rfl, _, rfl⟩ := e
 obtain ⟨g, o, e, hc⟩ := h2 (fun e => by rw [e] at hj; simp at hj)
 have hE := h3 _ (mem_R hj)
 obtain ⟨B, cb, eB, _⟩ := HasR.shape hE.1 rfl
 obtain ⟨a, b, c, d⟩ := rowV_at R j hj
 have key : ∀ i y, (rowV R)[j * 4 + i]? = some y → w.cell? ⟨g, o + j * 4 + i, none⟩ = some y := fun i y hy => by
  have := hc _ _ hy
  rw [Addr.add_lit] at this
  rwa [Nat.add_assoc]
 have k0 := key 0 _ a
 exact ⟨g, o, B, cb, e, block_lt_of_cell k0, k0, key 1 _ b, key 2 _ c, by rw [← eB]; exact key 3 _ d, eB, hE⟩
theorem RowIn.has {N lo : Nat} {wl w : World} {v : Value} {R : List (TermM × Value)} (hs : Sub wl w) (h : RowIn N lo wl w v R) : HasTs (N + 1) 0 w v (R.map Prod.fst) := by
 obtain ⟨A, c, rfl, h'⟩ := h.shape rfl
 have hR := h'.1
 obtain ⟨A', c', e, h1, h2, _⟩ := hR
 simp only [Value.slice.injEq] at e
 obtain ⟨rfl, _, rfl⟩ := e
 refine ⟨A, c, by rw [List.length_map], by rw [List.length_map]; exact h1, h2, fun j hj => ?_⟩
 rw [List.length_map] at hj
 obtain ⟨g, o, B, cb, e, hg, c0, c1, c2, c3, e2, hE⟩ := h'.1.at hj
 rw [fst_at hj]
 refine ⟨g, o, [.int .i64 (R.getD j p0).1.op, .string (bstr (R.getD j p0).1.name), .int .i64 (R.getD j p0).1.sort, (R.getD j p0).2], e, Nat.zero_le _, hg, fun i hi => ?_, (R.getD j p0).2, rfl, (has_sub N hs hE.1).mono (RT_steady N) (Nat.zero_le _), hE.2⟩
 match i, hi with
 | 0, _ => exact c0
 | 1, _ => exact c1
 | 2, _ => exact c2
 | 3, _ => rw [e2]; exact c3
theorem RowIn.wl {N lo : Nat} {wl wl' w : World} {v : Value} {R : List (TermM × Value)} (hs : Sub wl wl') (h : RowIn N lo wl w v R) : RowIn N lo wl' w v R := by
 obtain ⟨A, c, e, h1, h2, h3, h4⟩ := h
 exact ⟨A, c, e, h1, h2, h3, fun x hx => ⟨has_sub N hs (h4 x hx).1, (h4 x hx).2⟩⟩
theorem RowIn.sub {N lo : Nat} {wl w w' : World} {v : Value} {R : List (TermM × Value)} (hs : Sub w w') (h : RowIn N lo wl w v R) : RowIn N lo wl w' v R := by
 obtain ⟨A, c, e, h1, h2, h3, h4⟩ := h
 refine ⟨A, c, e, h1, h2, fun hne => ?_, h4⟩
 obtain ⟨g, o, e, hc⟩ := h3 hne
 exact ⟨g, o, e, fun j x hx => hs _ _ (hc j x hx)⟩
theorem RowIn.own {N lo b : Nat} {wl w : World} {v : Value} {R : List (TermM × Value)} {e : TypeId} (ho : w.ownsRow b e 4 v R.length (rowV R)) (hE : ∀ x ∈ R, El N lo wl x) : RowIn N lo wl w v R := by
 rcases ho.2 with ⟨rfl, h0⟩ | ⟨g, cap, cur, rfl, hb, hg, hnc, hcm, hcs, htake⟩
 ·have hR : R = [] := List.eq_nil_of_length_eq_zero h0
  subst hR
  exact ⟨none, 0, rfl, Nat.le_refl _, by unfold maxLen; omega, fun hne => absurd rfl hne, hE⟩
 ·refine ⟨_, cap, rfl, hnc, hcm, fun _ => ⟨g, 0, rfl, fun j x hx => ?_⟩, hE⟩
  have hlt := (List.getElem?_eq_some_iff.1 hx).1
  rw [rowV_len] at hlt
  rw [Addr.add_lit, Nat.zero_add, ho.cellAt j hlt, hx]
/-- a row of one's own, read wherever it stands and what its elements reach stands -/
theorem own_has {N lo b : Nat} {wl w wz : World} {v : Value} {R : List (TermM × Value)} {e : TypeId} (ho : w.ownsRow b e 4 v R.length (rowV R)) (hE : ∀ x ∈ R, El N lo wl x) (hlb : lo ≤ b) (hs : Sub wl wz) (hk : Kept b w wz) : HasTs (N + 1) lo wz v (R.map Prod.fst) := by
 rcases ho.2 with ⟨rfl, h0⟩ | ⟨g, cap, cur, rfl, hb, hg, hnc, hcm, hcs, htake⟩
 ·have hR : R = [] := List.eq_nil_of_length_eq_zero h0
  subst hR
  exact HasR.nil _ _ _ (by unfold maxLen; omega) _
 ·have hgw := (Array.getElem?_eq_some_iff.1 hg).1
  refine ⟨_, cap, by rw [List.length_map], by rw [List.length_map]; exact hnc, hcm, fun j hj => ?_⟩
  rw [List.length_map] at hj
  rw [fst_at hj]
  obtain ⟨a, b', c, d⟩ := rowV_at R j hj
  have hE' := hE _ (mem_R hj)
  have key : ∀ i y, i < 4 → (rowV R)[j * 4 + i]? = some y → wz.cell? ⟨g, 0 + j * 4 + i, none⟩ = some y := fun i y hi hy => by
   rw [hk.cell hb hgw, Nat.zero_add, ho.cellAt _ (by omega), hy]
  have k0 := key 0 _ (by omega) a
  refine ⟨g, 0, [.int .i64 (R.getD j p0).1.op, .string (bstr (R.getD j p0).1.name), .int .i64 (R.getD j p0).1.sort, (R.getD j p0).2], rfl, Nat.le_trans hlb hb, block_lt_of_cell k0, fun i hi => ?_, (R.getD j p0).2, rfl, has_sub N hs hE'.1, hE'.2⟩
  match i, hi with
  | 0, _ => exact k0
  | 1, _ => exact key 1 _ (by omega) b'
  | 2, _ => exact key 2 _ (by omega) c
  | 3, _ => exact key 3 _ (by omega) d
end Go.Proofs.YtkkmjaggebjcbaaGreat.tmr
/-
 impl.partsOf.
-/
namespace Go.Proofs.YtkkmjaggebjcbaaGreat.tmb
open Go.ChangeShapes Go.WideShapes Go.ChangeAt Go.RowKit
open mem dec rowl trm trmv terml termb termt termx termcl tma tmr gramo tsk tsl

set_option maxRecDepth 50000 in
set_option maxHeartbeats 8000000 in
theorem partsOf_any {N lo : Nat} (nm : List UInt8) (Ad : Option Addr) (dn cd : Nat) (a b : Bool) (u : Int) (hu : I64 u) (hu0 : 0 ≤ u) (i s0 s1 s2 s3 s4 : Nat) (R0 : List (TermM × Value)) (va : Value) (wl w : World) (hs : Sub wl w)
  (h : RowIn N lo wl w va R0) (hne : ∀ x ∈ R0, a = true → x.1.op = (i : Int) → x.1.args ≠ []) (hsz : (partsM u a i (R0.map Prod.fst)).length ≤ 1048576) :
  Calls Tryz.prog 132 #[aggE nm Ad dn cd a b u i s0 s1 s2 s3 s4, va] w fun e w' => ∃ (v : Value) (R : List (TermM × Value)), e = .returned v ∧ R.map Prod.fst = partsM u a i (R0.map Prod.fst) ∧ (∀ x ∈ R, El N lo wl x) ∧ w'.ownsRow (w.heap.size + 1) 34 4 v R.length (rowV R) ∧ (R = [] → v = .slice none 0 0) ∧ Below w.heap.size w w' := by
 have hsl : ∀ j, j ≤ (R0.map Prod.fst).length → (partsM u a i ((R0.map Prod.fst).take j)).length ≤ 1048576 := fun j _ => Nat.le_trans (parts_pre u a i (R0.map Prod.fst) j) hsz
 obtain ⟨m, hm⟩ : ∃ m, m = R0.length := ⟨_, rfl⟩
 obtain ⟨A, c, rfl, h, hml⟩ := h.shape hm
 have HTS := Lib.hid h
 have HSL := Lib.hid hsl
 have HNE := Lib.hid hne
 have HM := Lib.hid hm
 have HSUB := Lib.hid hs
 obtain ⟨j0, hij, hy0, hy1, hy2⟩ := info_parts info_term
 obtain ⟨W, hW⟩ : ∃ W, W = w.alloc (.cells #[.string (bstr nm), .slice Ad dn cd, .bool a, .bool b, .int .i64 u, .int .i64 (i : Int), .int .i64 (s0 : Int), .int .u16 (s1 : Int), .int .u16 (s2 : Int), .int .u16 (s3 : Int), .int .u16 (s4 : Int)] 137) := ⟨_, rfl⟩
 have hb0 : Below w.heap.size w W := by rw [hW]; exact (Below.refl _ _).alloc (Nat.le_refl _) _
 have hX0 : C11 w.heap.size nm Ad dn cd a b u i s0 s1 s2 s3 s4 W := by
  rw [hW]
  exact box11 (termt.heap_at _ _ _ rfl)
 have hz0 : W.heap.size = w.heap.size + 1 := by rw [hW]; simp
 have HB0 := Lib.hid hb0
 have HX0 := Lib.hid hX0
 have HZ0 := Lib.hid hz0
 have HR0 : Hid (W.ownsRow W.heap.size 34 4 (.slice none 0 0) 0 (rowV [])) := Lib.hid ⟨rfl, .inl ⟨rfl, rfl⟩⟩
 clear h hsl hsz hne hm hb0 hX0 hz0 hs
 go_enter Tryz.func132, Tryz.ntmps132
 go_wp2_with fail
 rw [← hW]
 clear hW
 go_loopw [5, 7, 10, 18, 22] (fun v5 _ v10 _ _ wr => ∃ (j : Nat) (R : List (TermM × Value)), v10 = .int .i64 j ∧ j ≤ m ∧ Hid (R.map Prod.fst = partsM u a i ((R0.map Prod.fst).take j)) ∧ Hid (∀ x ∈ R, El N lo wl x) ∧ Hid (wr.ownsRow W.heap.size 34 4 v5 R.length (rowV R)) ∧ Hid (R = [] → v5 = .slice none 0 0) ∧ Hid (Below W.heap.size W wr)) (fun _ _ x _ _ _ => m - (intOf x).toNat)
 case atStart => exact ⟨0, [], rfl, Nat.zero_le _, Lib.hid rfl, Lib.hid (fun x hx => by cases hx), HR0, Lib.hid (fun _ => rfl), Lib.hid (Below.refl _ _)⟩
 case round =>
  obtain ⟨j, R, rfl, hj, HF, HA, HO, HN, HB⟩ := hrel
  by_cases hlt : j < m
  ·have hjR : j < R0.length := by have := HM.out; omega
   obtain ⟨g, o, B, cb, rfl, hg, e0, e1, e2, e3, eB, hh, hbn⟩ := HTS.out.at hjR
   rw [eB] at hh
   have hBw : Below w.heap.size w wr := HB0.out.trans (HB.out.mono HB0.out.size)
   have hjL : j < (R0.map Prod.fst).length := by rw [List.length_map]; exact hjR
   have f0 := (hBw.cell (p := ⟨g, o + j * 4, none⟩) hg).trans e0
   have f1 := (hBw.cell (p := ⟨g, o + j * 4 + 1, none⟩) hg).trans e1
   have f2 := (hBw.cell (p := ⟨g, o + j * 4 + 2, none⟩) hg).trans e2
   have f3 := (hBw.cell (p := ⟨g, o + j * 4 + 3, none⟩) hg).trans e3
   have HTK := Lib.hid (parts_take u a i (R0.map Prod.fst) hjL)
   rw [fst_at hjR] at HTK
   have HBN := Lib.hid hbn
   have HH := Lib.hid hh
   have HNE2 := Lib.hid (HNE.out (R0.getD j p0) (mem_R hjR))
   have HS2 := Lib.hid (HSL.out (j + 1) (by omega))
   obtain ⟨t, ht⟩ : ∃ t, t = (R0.getD j p0).1 := ⟨_, rfl⟩
   rw [← ht] at f0 f1 f2 f3 HTK HBN HH HNE2
   obtain ⟨q, hq⟩ : ∃ q, q = t.args.length := ⟨_, rfl⟩
   rw [← hq] at f3 HH
   have HQ := Lib.hid hq
   obtain ⟨r1, hr1⟩ : ∃ r1, decide (u ≠ 0 ∧ t.op = u - 1) = r1 := ⟨_, rfl⟩
   obtain ⟨r2, hr2⟩ : ∃ r2, (a && decide (t.op = (i : Int))) = r2 := ⟨_, rfl⟩
   have HIU := Lib.hid (fun W' => isUnit_any nm Ad dn cd a b u hu hu0 i s0 s1 s2 s3 s4 t B q cb r1 hr1 W')
   have HAB := Lib.hid (fun W' => absorbs_any nm Ad dn cd a b u i s0 s1 s2 s3 s4 t B q cb r2 hr2 W')
   have HR1 := Lib.hid hr1
   have HR2 := Lib.hid hr2
   have HBA : Hid (∀ ob, Below wr.heap.size wr (wr.alloc ob)) := Lib.hid (fun ob => (Below.refl _ _).alloc (Nat.le_refl _) ob)
   have hX : ∀ ob, C11 w.heap.size nm Ad dn cd a b u i s0 s1 s2 s3 s4 (wr.alloc ob) := fun ob => HX0.out.below (HB.out.alloc HB.out.size ob)
   have y0 := fun ob => (hX ob).1
   have y1 := fun ob => (hX ob).2.1
   have y2 := fun ob => (hX ob).2.2.1
   have y3 := fun ob => (hX ob).2.2.2.1
   have y4 := fun ob => (hX ob).2.2.2.2.1
   have y5 := fun ob => (hX ob).2.2.2.2.2.1
   have y6 := fun ob => (hX ob).2.2.2.2.2.2.1
   have y7 := fun ob => (hX ob).2.2.2.2.2.2.2.1
   have y8 := fun ob => (hX ob).2.2.2.2.2.2.2.2.1
   have y9 := fun ob => (hX ob).2.2.2.2.2.2.2.2.2.1
   have y10 := fun ob => (hX ob).2.2.2.2.2.2.2.2.2.2
   clear hX
   have d1 : decide ((j : Int) < (m : Int)) = true := decide_eq_true (by omega)
   have i1 : (0 : Int) ≤ (j : Int) := by omega
   have i2 : (j : Int) < (m : Int) := by omega
   clear e0 e1 e2 e3 eB hh hbn ht hq hr1 hr2 hBw hg
   go_wp2_with fail
   refine (HIU.out _).mono ?_
   rintro e w5 ⟨rfl, hb5⟩
   have HT5 : Hid ((w5.cell? ⟨wr.heap.size, 0, none⟩ = some (.int .i64 t.op) ∧ w5.cell? ⟨wr.heap.size, 1, none⟩ = some (.string (bstr t.name)) ∧ w5.cell? ⟨wr.heap.size, 2, none⟩ = some (.int .i64 t.sort) ∧ w5.cell? ⟨wr.heap.size, 3, none⟩ = some (.slice B q cb)) ∧ Below wr.heap.size wr w5 ∧ wr.heap.size < w5.heap.size) := Lib.hid (by
    have hk : ∀ z, w5.cell? ⟨wr.heap.size, z, none⟩ = _ := fun z => hb5.cell (p := ⟨wr.heap.size, z, none⟩) (by simp)
    refine ⟨⟨(hk 0).trans (by simp), (hk 1).trans (by simp), (hk 2).trans (by simp), (hk 3).trans (by simp)⟩, (HBA.out _).trans (hb5.mono (HBA.out _).size), ?_⟩
    have := hb5.size
    simp at this
    omega)
   clear hb5 y0 y1 y2 y3 y4 y5 y6 y7 y8 y9 y10 f0 f1 f2 f3
   cases r1 with
   | true =>
    have hun : u ≠ 0 ∧ t.op = u - 1 := of_decide_eq_true HR1.out
    have HF3 : Hid (R.map Prod.fst = partsM u a i ((R0.map Prod.fst).take (j + 1))) := Lib.hid (by rw [HTK.out, part1_unit hun, List.append_nil]; exact HF.out)
    have HO3 := Lib.hid (own_below HO.out HT5.out.2.1)
    have HB3 : Hid (Below W.heap.size W w5) := Lib.hid (HB.out.trans (HT5.out.2.1.mono HB.out.size))
    clear hun
    go_wp2
    go_roundw
    case rel => exact ⟨j + 1, R, by go_num, by omega, HF3, HA, HO3, HN, HB3⟩
    case measure => simp [intOf]; omega
   | false =>
    obtain ⟨y0, y1, y2, y3, y4, y5, y6, y7, y8, y9, y10⟩ := HX0.out.below (HB.out.trans (HT5.out.2.1.mono HB.out.size))
    obtain ⟨z0, z1, z2, z3⟩ := HT5.out.1
    go_wp2_with fail
    refine (HAB.out _).mono ?_
    rintro e w6 ⟨rfl, hb6⟩
    have HT6 : Hid ((w6.cell? ⟨wr.heap.size, 0, none⟩ = some (.int .i64 t.op) ∧ w6.cell? ⟨wr.heap.size, 1, none⟩ = some (.string (bstr t.name)) ∧ w6.cell? ⟨wr.heap.size, 2, none⟩ = some (.int .i64 t.sort) ∧ w6.cell? ⟨wr.heap.size, 3, none⟩ = some (.slice B q cb)) ∧ Below wr.heap.size wr w6) := Lib.hid (by
     have hk : ∀ z, w6.cell? ⟨wr.heap.size, z, none⟩ = w5.cell? ⟨wr.heap.size, z, none⟩ := fun z => hb6.cell (p := ⟨wr.heap.size, z, none⟩) HT5.out.2.2
     rw [hk, hk, hk, hk]
     exact ⟨HT5.out.1, HT5.out.2.1.trans (hb6.mono HT5.out.2.1.size)⟩)
    have HO6 := Lib.hid (own_below HO.out HT6.out.2)
    have HB6 : Hid (Below W.heap.size W w6) := Lib.hid (HB.out.trans (HT6.out.2.mono HB.out.size))
    clear hb6 y0 y1 y2 y3 y4 y5 y6 y7 y8 y9 y10 z0 z1 z2 z3
    obtain ⟨z0, z1, z2, z3⟩ := HT6.out.1
    have hnu : ¬ (u ≠ 0 ∧ t.op = u - 1) := of_decide_eq_false HR1.out
    cases r2 with
    | true =>
     have hab : a = true ∧ t.op = (i : Int) := by have := HR2.out; simpa using this
     have hq0 : 0 < q := by rw [HQ.out]; exact List.length_pos_iff.2 (HNE2.out hab.1 hab.2)
     obtain ⟨k2, g2, o2, _, _, hn2, rfl, _, hg2, _⟩ := term_at HH.out hq0
     subst hn2
     obtain ⟨R2, hR2, hA2, hC2⟩ := row_of HH.out HQ.out
     have hl2 : R2.length = q := by rw [HQ.out, ← hR2, List.length_map]
     have HL3 := Lib.hid hl2
     have HL2 : Hid ((rowV R2).length = q * 4) := Lib.hid (by rw [rowV_len, hl2])
     have HC2 : Hid (∀ j x, (rowV R2)[j]? = some x → w6.cell? ((⟨g2, o2, none⟩ : Addr).add j) = some x) := Lib.hid (fun j x hx => by
      have h9 := hC2 g2 o2 rfl j x hx
      rw [Addr.add_lit] at h9 ⊢
      exact Sub.below (HB0.out.trans (HB6.out.mono HB0.out.size)) _ _ (HSUB.out _ _ h9))
     have HONE : Hid (∀ v ∈ rowV R2, v.oneCell' = true) := Lib.hid (rowV_one R2 (fun x hx => by
      obtain ⟨A9, c9, e9, _⟩ := HasR.shape (hA2 x hx).1 rfl
      rw [e9]; rfl))
     have HA3 : Hid (∀ x ∈ R ++ R2, El (k2 + 1) lo wl x) := Lib.hid (fun x hx => by
      rcases List.mem_append.1 hx with h9 | h9
      ·exact HA.out x h9
      ·exact ⟨(hA2 x h9).1.up (Nat.le_succ _), (hA2 x h9).2⟩)
     have HF3 : Hid ((R ++ R2).map Prod.fst = partsM u a i ((R0.map Prod.fst).take (j + 1))) := Lib.hid (by rw [HTK.out, part1_flat hnu hab, List.map_append, HF.out, hR2])
     have hln : R.length + q ≤ 1048576 := by
      have h9 := HS2.out
      rw [← HF3.out, List.length_map, List.length_append, hl2] at h9
      exact h9
     have hs6 : W.heap.size ≤ w6.heap.size := HB6.out.size
     clear hab hR2 hA2 hC2 hl2 hnu hg2
     go_wp2_with (at_builtin; refine wpList_append_lies _ rfl _ _ _ rfl W.heap.size 34 j0 _ 4 56 Tryz.underlying32 hij hy0 hy1 hy2 rfl (by omega) _ R.length (rowV R) rfl HO6.out ⟨g2, o2, none⟩ q cb (rowV R2) rfl HL2.out HC2.out HONE.out (by omega) (by unfold maxLen; omega) (by omega) hs6 _ rfl ?_; intro g4 cap4 w7 hown7 hgr7 hg7 hlt7)
     have HO7 : Hid (w7.ownsRow W.heap.size 34 4 (.slice (some ⟨g4, 0, none⟩) (R.length + q) cap4) (R ++ R2).length (rowV (R ++ R2))) := Lib.hid (by rw [rowV_append, List.length_append, HL3.out]; exact hown7)
     have HB7 : Hid (Below W.heap.size W w7) := Lib.hid (HB6.out.grown hgr7 HB6.out.size (own_block HO6.out))
     have HNN : Hid (R ++ R2 = [] → (.slice (some ⟨g4, 0, none⟩) (R.length + q) cap4 : Value) = .slice none 0 0) := Lib.hid (fun e => by
      have h9 := congrArg List.length e
      rw [List.length_append, HL3.out] at h9
      simp at h9
      try omega)
     clear hown7 hgr7 hg7 hlt7
     go_wp2
     go_roundw
     case rel => exact ⟨j + 1, R ++ R2, by go_num, by omega, HF3, HA3, HO7, HNN, HB7⟩
     case measure => simp [intOf]; omega
    | false =>
     have hab : ¬ (a = true ∧ t.op = (i : Int)) := fun h9 => by
      have := HR2.out
      rw [h9.1, h9.2] at this
      simp at this
     obtain ⟨R2, hR2⟩ : ∃ R2 : List (TermM × Value), R2 = [(t, .slice B q cb)] := ⟨_, rfl⟩
     have HL3 : Hid (R2.length = 1) := Lib.hid (by rw [hR2]; rfl)
     have HL2 : Hid ((rowV R2).length = 1 * 4) := Lib.hid (by rw [rowV_len, HL3.out])
     have HC2 : Hid (∀ j x, (rowV R2)[j]? = some x → (w6.alloc (.cells #[.int .i64 t.op, .string (bstr t.name), .int .i64 t.sort, .slice B q cb] 34)).cell? ((⟨w6.heap.size, 0, none⟩ : Addr).add j) = some x) := Lib.hid (by
      rw [hR2]
      intro j x hx
      match j, hx with
      | 0, hx => simp [rowV] at hx; subst hx; simp [Addr.add]
      | 1, hx => simp [rowV] at hx; subst hx; simp [Addr.add]
      | 2, hx => simp [rowV] at hx; subst hx; simp [Addr.add]
      | 3, hx => simp [rowV] at hx; subst hx; simp [Addr.add])
     have HONE : Hid (∀ v ∈ rowV R2, v.oneCell' = true) := Lib.hid (rowV_one R2 (fun x hx => by
      rw [hR2] at hx
      simp at hx
      subst hx; rfl))
     have HA3 : Hid (∀ x ∈ R ++ R2, El N lo wl x) := Lib.hid (fun x hx => by
      rcases List.mem_append.1 hx with h9 | h9
      ·exact HA.out x h9
      ·rw [hR2] at h9
       simp at h9
       subst h9
       exact ⟨HH.out, HBN.out⟩)
     have HF3 : Hid ((R ++ R2).map Prod.fst = partsM u a i ((R0.map Prod.fst).take (j + 1))) := Lib.hid (by rw [HTK.out, part1_self hnu hab, List.map_append, HF.out, hR2]; rfl)
     have hln : R.length + 1 ≤ 1048576 := by
      have h9 := HS2.out
      rw [← HF3.out, List.length_map, List.length_append, HL3.out] at h9
      exact h9
     have hs6 : W.heap.size ≤ w6.heap.size := HB6.out.size
     have HBA6 : Hid (∀ ob, Below w6.heap.size w6 (w6.alloc ob)) := Lib.hid (fun ob => (Below.refl _ _).alloc (Nat.le_refl _) ob)
     clear hab hR2 hnu
     go_wp2_with (at_builtin; refine wpList_append_lies _ rfl _ _ _ rfl W.heap.size 34 j0 _ 4 56 Tryz.underlying32 hij hy0 hy1 hy2 rfl (by omega) _ R.length (rowV R) rfl (own_below HO6.out (HBA6.out _)) ⟨w6.heap.size, 0, none⟩ 1 1 (rowV R2) rfl HL2.out HC2.out HONE.out (by omega) (by unfold maxLen; omega) (by omega) (Nat.le_trans hs6 (HBA6.out _).size) _ rfl ?_; intro g4 cap4 w7 hown7 hgr7 hg7 hlt7)
     have HO7 : Hid (w7.ownsRow W.heap.size 34 4 (.slice (some ⟨g4, 0, none⟩) (R.length + 1) cap4) (R ++ R2).length (rowV (R ++ R2))) := Lib.hid (by rw [rowV_append, List.length_append, HL3.out]; exact hown7)
     have HB7 : Hid (Below W.heap.size W w7) := Lib.hid ((HB6.out.alloc HB6.out.size _).grown hgr7 (Nat.le_trans HB6.out.size (HBA6.out _).size) (own_block HO6.out))
     have HNN : Hid (R ++ R2 = [] → (.slice (some ⟨g4, 0, none⟩) (R.length + 1) cap4 : Value) = .slice none 0 0) := Lib.hid (fun e => by
      have h9 := congrArg List.length e
      rw [List.length_append, HL3.out] at h9
      simp at h9
      try omega)
     clear hown7 hgr7 hg7 hlt7
     go_wp2
     go_roundw
     case rel => exact ⟨j + 1, R ++ R2, by go_num, by omega, HF3, HA3, HO7, HNN, HB7⟩
     case measure => simp [intOf]; omega
  ·obtain rfl : j = m := by omega
   have HQ : Hid (R.map Prod.fst = partsM u a i (R0.map Prod.fst)) := Lib.hid (by rw [HF.out, HM.out, List.take_of_length_le (by rw [List.length_map]; omega)])
   have HE := Lib.hid (HZ0.out ▸ HO.out)
   go_wp2
   go_ret
   exact ⟨_, R, rfl, HQ.out, HA.out, HE.out, HN.out, HB0.out.trans (HB.out.mono HB0.out.size)⟩
end Go.Proofs.YtkkmjaggebjcbaaGreat.tmb
