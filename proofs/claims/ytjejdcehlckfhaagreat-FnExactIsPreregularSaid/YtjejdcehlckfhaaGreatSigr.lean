/-
  THE PROGRAM's FUNCTIONS OF SIGNATURES: fitAxioms.
-/
import Derived.Test.YtjejdcehlckfhaaGreatSigq
import Derived.Test.YtjejdcehlckfhaaGreatSige
import Derived.Deep.Quiet
namespace Go.Proofs.YtjejdcehlckfhaaGreat.sigr
open Go.ChangeShapes Go.WideShapes Go.ChangeAt Go.RowKit
open mem split strl join subs sortn setm sets sortm sortp sorti sortf rowl sigm sigs sigi sigj sigk sigq sige

/-- a world of a class -/
structure BoxC (C : World → Prop) where
  W : World
  h : C W
theorem region_boxC {P : Program} {C : World → Prop} {id : Nat} {Q : Exit → Act → World → Prop} {a : Act} {w : World} {l : List Oper} (hm : P.follows .mixedOrders = true) (hB : Region.lexB .any l.toArray = true) (hC : C w.drew)
    (h : wpQuiet P l.toArray (fun w' => ∃ t : BoxC C, w' = t.W) (fun a' => ∀ w', (∃ t : BoxC C, w' = t.W) → Q .normal a' w') l a) : (Code.region id l.toArray true).wp P Q a w :=
  wp_region_quiet (C := fun w' => ∃ t : BoxC C, w' = t.W) hm hB ⟨⟨_, hC⟩, rfl⟩ (by simpa using h)
/-- ten cells as they were laid -/
def Ten (W2 : World) (g o g' o' : Nat) (a0 a1 a2 a3 a4 b0 b1 b2 b3 b4 : Value) (w : World) : Prop :=
  (w.cell? ⟨g, o, none⟩ = some a0 ∧ w.cell? ⟨g, o + 1, none⟩ = some a1 ∧ w.cell? ⟨g, o + 2, none⟩ = some a2 ∧ w.cell? ⟨g, o + 3, none⟩ = some a3 ∧ w.cell? ⟨g, o + 4, none⟩ = some a4 ∧
      w.cell? ⟨g', o', none⟩ = some b0 ∧ w.cell? ⟨g', o' + 1, none⟩ = some b1 ∧ w.cell? ⟨g', o' + 2, none⟩ = some b2 ∧ w.cell? ⟨g', o' + 3, none⟩ = some b3 ∧ w.cell? ⟨g', o' + 4, none⟩ = some b4) ∧ Below W2.heap.size W2 w
theorem Ten.keep {W2 w0 w1 : World} {g o g' o' : Nat} {a0 a1 a2 a3 a4 b0 b1 b2 b3 b4 : Value} (h : Ten W2 g o g' o' a0 a1 a2 a3 a4 b0 b1 b2 b3 b4 w0) (hp : g < W2.heap.size ∧ g' < W2.heap.size) (hb : Below w0.heap.size w0 w1) : Ten W2 g o g' o' a0 a1 a2 a3 a4 b0 b1 b2 b3 b4 w1 :=
  keep_ten h hp hb
/-- the axioms of the operator k fit -/
def fitK (O : List OpM) (S : List Shp) (k : Nat) : Bool := argsS (O.getD k default).ass (O.getD k default).com (O.getD k default).unt (S.getD k default) && unitS (O.getD k default).unt (S.getD k default) S
def fitB (O : List OpM) (S : List Shp) : Bool := (List.range O.length).all (fitK O S)
theorem fitB_bad {O : List OpM} {S : List Shp} {k : Nat} (hk : k < O.length) (h : fitK O S k = false) : fitB O S = false := by
  rw [fitB, List.all_eq_false]
  exact ⟨k, by simpa using hk, by simp [h]⟩
theorem fitB_good {O : List OpM} {S : List Shp} (h : ∀ k, k < O.length → fitK O S k = true) : fitB O S = true := by
  rw [fitB, List.all_eq_true]
  exact fun k hk => h k (by simpa using hk)
/-- over valid declarations -/
theorem fitB_eq {n : Nat} {κ : Int → Nat} {O : List OpM} (hO : Firsts n O) : fitB O (shps κ O) = O.all (axOk κ O) := by
  have hk : ∀ k, k < O.length → fitK O (shps κ O) k = axOk κ O (O.getD k default) := by
    intro k hk
    have hm : O.getD k default ∈ O := by rw [List.getD_eq_getElem?_getD, List.getElem?_eq_getElem hk]; exact List.getElem_mem hk
    rw [fitK, shps_get κ O k hk, argsS_eq (hO _ hm), unitS_eq, axOk]
  rw [Bool.eq_iff_iff, fitB]
  simp only [List.all_eq_true, List.mem_range]
  constructor
  · intro h o ho
    obtain ⟨k, hk', rfl⟩ := List.getElem_of_mem ho
    have := h k hk'
    rw [hk k hk'] at this
    simpa [List.getD, List.getElem?_eq_getElem hk'] using this
  · intro h k hk'
    rw [hk k hk']
    exact h _ (by rw [List.getD_eq_getElem?_getD, List.getElem?_eq_getElem hk']; exact List.getElem_mem hk')
set_option maxRecDepth 20000 in
set_option maxHeartbeats 4000000 in
/-- impl.fitAxioms -/
theorem fitAxioms_any (O : List OpM) (S : List Shp) (hS : S.length = O.length) (r : Bool) (hr : fitB O S = r) (v vT : Value) (w : World) {lo : Nat} (h : HasO lo w v O) (hT : HasT w vT S) :
    Calls Tryz.prog 147 #[v, vT] w fun e w' => e = .returned (.bool r) ∧ Below w.heap.size w w' := by
  obtain ⟨n, hn⟩ : ∃ n, n = O.length := ⟨_, rfl⟩
  obtain ⟨A, c, rfl, h⟩ := HasR.shape h hn.symm
  obtain ⟨B, cb, rfl, hT⟩ := HasR.shape hT (hS.trans hn.symm)
  have hl := h.len.2.1
  have HH := Lib.hid h
  have HT := Lib.hid hT
  have HN := Lib.hid hn
  clear h hn hT
  go_enter Tryz.func147, Tryz.ntmps147
  go_wp2
  go_loopw [9] (fun i wr => ∃ k : Nat, k ≤ n ∧ i = .int .i64 k ∧ Hid (∀ j, j < k → fitK O S j = true) ∧ Below w.heap.size w wr) (fun i _ => n - (intOf i).toNat)
  case atStart => exact ⟨0, Nat.zero_le _, rfl, Lib.hid (fun j hj => by omega), Below.refl _ _⟩
  case round =>
    obtain ⟨k, hk, rfl, HALL, hbel⟩ := hrel
    by_cases hlt : k < n
    · obtain ⟨g, o, A2, c2, rfl, _, hg, hc0, hc1, hc2, hc3, hc4, hh, hnl, hu64⟩ := op_at HH.out hlt
      obtain ⟨g', o2, rfl, hg', d0, d1, d2, d3, d4⟩ := shape_at HT.out hlt
      have kw : ∀ x, w.cell? ⟨g, x, none⟩ = wr.cell? ⟨g, x, none⟩ := fun x => (hbel.cell (p := ⟨g, x, none⟩) hg).symm
      have kw' : ∀ x, w.cell? ⟨g', x, none⟩ = wr.cell? ⟨g', x, none⟩ := fun x => (hbel.cell (p := ⟨g', x, none⟩) hg').symm
      rw [kw] at hc0 hc1 hc2 hc3 hc4
      rw [kw'] at d0 d1 d2 d3 d4
      have hsz := hbel.size
      have HBAD : Hid (fitK O S k = false → r = false) := Lib.hid (fun hb => by rw [← hr]; exact fitB_bad (by have := HN.out; omega) hb)
      have HGOOD : Hid (fitK O S k = true → ∀ j, j < k + 1 → fitK O S j = true) := Lib.hid (fun hb j hj => by
        by_cases e : j = k
        · subst e; exact hb
        · exact HALL.out j (by omega))
      unfold fitK at HBAD HGOOD
      obtain ⟨⟨nm, D, a, b, u⟩, hd⟩ : ∃ d, d = O.getD k default := ⟨_, rfl⟩
      rw [← hd] at hc0 hc1 hc2 hc3 hc4 HBAD HGOOD hu64
      obtain ⟨⟨s0, s1, s2, s3, s4⟩, hs⟩ : ∃ s, s = S.getD k default := ⟨_, rfl⟩
      rw [← hs] at d0 d1 d2 d3 d4 HBAD HGOOD
      obtain ⟨dn, hdn⟩ : ∃ dn, dn = D.length := ⟨_, rfl⟩
      rw [← hdn] at hc1
      clear hh hd kw kw' hr hs hdn hnl
      cases h1 : argsS a b u (s0, s1, s2, s3, s4) with
      | false =>
        have HR := Lib.hid (HBAD.out (by simp [h1]))
        have HFA := Lib.hid (fun W => fitsArguments_any nm A2 dn c2 a b u s0 s1 s2 s3 s4 false h1 W)
        clear h1 HGOOD
        go_wp2_with fail
        generalize hW : wr.alloc (.cells #[.string (bstr nm), .slice A2 dn c2, .bool a, .bool b, .int .i64 u] 97) = W2
        have hbw : Below w.heap.size w W2 := by rw [← hW]; exact hbel.alloc hbel.size _
        have hz1 : wr.heap.size < W2.heap.size := by rw [← hW]; simp
        have hz2 : g' < W2.heap.size := by rw [← hW]; simp; omega
        have k1 : W2.heap[wr.heap.size]? = some (.cells #[.string (bstr nm), .slice A2 dn c2, .bool a, .bool b, .int .i64 u] 97 (0, 0)) := by rw [← hW]; exact heap_at _ _ _ rfl
        have p0 : W2.cell? ⟨wr.heap.size, 0, none⟩ = some (.string (bstr nm)) := cell_of_row W2 _ 0 _ _ _ k1
        have p1 : W2.cell? ⟨wr.heap.size, 1, none⟩ = some (.slice A2 dn c2) := cell_of_row W2 _ 1 _ _ _ k1
        have p2 : W2.cell? ⟨wr.heap.size, 2, none⟩ = some (.bool a) := cell_of_row W2 _ 2 _ _ _ k1
        have p3 : W2.cell? ⟨wr.heap.size, 3, none⟩ = some (.bool b) := cell_of_row W2 _ 3 _ _ _ k1
        have p4 : W2.cell? ⟨wr.heap.size, 4, none⟩ = some (.int .i64 u) := cell_of_row W2 _ 4 _ _ _ k1
        have q0 : W2.cell? ⟨g', o2 + k * 5, none⟩ = some (.int .i64 (s0 : Int)) := by rw [← hW, (Below.cell ((Below.refl wr.heap.size wr).alloc (Nat.le_refl _) _) (p := ⟨g', o2 + k * 5, none⟩) (by show g' < _; omega))]; exact d0
        have q1 : W2.cell? ⟨g', o2 + k * 5 + 1, none⟩ = some (.int .u16 (s1 : Int)) := by rw [← hW, (Below.cell ((Below.refl wr.heap.size wr).alloc (Nat.le_refl _) _) (p := ⟨g', o2 + k * 5 + 1, none⟩) (by show g' < _; omega))]; exact d1
        have q2 : W2.cell? ⟨g', o2 + k * 5 + 2, none⟩ = some (.int .u16 (s2 : Int)) := by rw [← hW, (Below.cell ((Below.refl wr.heap.size wr).alloc (Nat.le_refl _) _) (p := ⟨g', o2 + k * 5 + 2, none⟩) (by show g' < _; omega))]; exact d2
        have q3 : W2.cell? ⟨g', o2 + k * 5 + 3, none⟩ = some (.int .u16 (s3 : Int)) := by rw [← hW, (Below.cell ((Below.refl wr.heap.size wr).alloc (Nat.le_refl _) _) (p := ⟨g', o2 + k * 5 + 3, none⟩) (by show g' < _; omega))]; exact d3
        have q4 : W2.cell? ⟨g', o2 + k * 5 + 4, none⟩ = some (.int .u16 (s4 : Int)) := by rw [← hW, (Below.cell ((Below.refl wr.heap.size wr).alloc (Nat.le_refl _) _) (p := ⟨g', o2 + k * 5 + 4, none⟩) (by show g' < _; omega))]; exact d4
        clear hW k1
        have hten : (Ten W2 wr.heap.size 0 g' (o2 + k * 5) (.string (bstr nm)) (.slice A2 dn c2) (.bool a) (.bool b) (.int .i64 u) (.int .i64 (s0 : Int)) (.int .u16 (s1 : Int)) (.int .u16 (s2 : Int)) (.int .u16 (s3 : Int)) (.int .u16 (s4 : Int))) W2.drew := ⟨⟨p0, p1, p2, p3, p4, q0, q1, q2, q3, q4⟩, (Below.refl _ _).drew⟩
        refine region_boxC (C := (Ten W2 wr.heap.size 0 g' (o2 + k * 5) (.string (bstr nm)) (.slice A2 dn c2) (.bool a) (.bool b) (.int .i64 u) (.int .i64 (s0 : Int)) (.int .u16 (s1 : Int)) (.int .u16 (s2 : Int)) (.int .u16 (s3 : Int)) (.int .u16 (s4 : Int)))) (by kernel_rfl) (by kernel_rfl) hten ?_
        have nb : Nonempty (BoxC (Ten W2 wr.heap.size 0 g' (o2 + k * 5) (.string (bstr nm)) (.slice A2 dn c2) (.bool a) (.bool b) (.int .i64 u) (.int .i64 (s0 : Int)) (.int .u16 (s1 : Int)) (.int .u16 (s2 : Int)) (.int .u16 (s3 : Int)) (.int .u16 (s4 : Int)))) := ⟨⟨_, hten⟩⟩
        have r0 : ∀ t : BoxC (Ten W2 wr.heap.size 0 g' (o2 + k * 5) (.string (bstr nm)) (.slice A2 dn c2) (.bool a) (.bool b) (.int .i64 u) (.int .i64 (s0 : Int)) (.int .u16 (s1 : Int)) (.int .u16 (s2 : Int)) (.int .u16 (s3 : Int)) (.int .u16 (s4 : Int))), t.W.cell? ⟨wr.heap.size, 0, none⟩ = some (.string (bstr nm)) := fun t => t.h.1.1
        have r1 : ∀ t : BoxC (Ten W2 wr.heap.size 0 g' (o2 + k * 5) (.string (bstr nm)) (.slice A2 dn c2) (.bool a) (.bool b) (.int .i64 u) (.int .i64 (s0 : Int)) (.int .u16 (s1 : Int)) (.int .u16 (s2 : Int)) (.int .u16 (s3 : Int)) (.int .u16 (s4 : Int))), t.W.cell? ⟨wr.heap.size, 1, none⟩ = some (.slice A2 dn c2) := fun t => t.h.1.2.1
        have r2 : ∀ t : BoxC (Ten W2 wr.heap.size 0 g' (o2 + k * 5) (.string (bstr nm)) (.slice A2 dn c2) (.bool a) (.bool b) (.int .i64 u) (.int .i64 (s0 : Int)) (.int .u16 (s1 : Int)) (.int .u16 (s2 : Int)) (.int .u16 (s3 : Int)) (.int .u16 (s4 : Int))), t.W.cell? ⟨wr.heap.size, 2, none⟩ = some (.bool a) := fun t => t.h.1.2.2.1
        have r3 : ∀ t : BoxC (Ten W2 wr.heap.size 0 g' (o2 + k * 5) (.string (bstr nm)) (.slice A2 dn c2) (.bool a) (.bool b) (.int .i64 u) (.int .i64 (s0 : Int)) (.int .u16 (s1 : Int)) (.int .u16 (s2 : Int)) (.int .u16 (s3 : Int)) (.int .u16 (s4 : Int))), t.W.cell? ⟨wr.heap.size, 3, none⟩ = some (.bool b) := fun t => t.h.1.2.2.2.1
        have r4 : ∀ t : BoxC (Ten W2 wr.heap.size 0 g' (o2 + k * 5) (.string (bstr nm)) (.slice A2 dn c2) (.bool a) (.bool b) (.int .i64 u) (.int .i64 (s0 : Int)) (.int .u16 (s1 : Int)) (.int .u16 (s2 : Int)) (.int .u16 (s3 : Int)) (.int .u16 (s4 : Int))), t.W.cell? ⟨wr.heap.size, 4, none⟩ = some (.int .i64 u) := fun t => t.h.1.2.2.2.2.1
        have r5 : ∀ t : BoxC (Ten W2 wr.heap.size 0 g' (o2 + k * 5) (.string (bstr nm)) (.slice A2 dn c2) (.bool a) (.bool b) (.int .i64 u) (.int .i64 (s0 : Int)) (.int .u16 (s1 : Int)) (.int .u16 (s2 : Int)) (.int .u16 (s3 : Int)) (.int .u16 (s4 : Int))), t.W.cell? ⟨g', o2 + k * 5, none⟩ = some (.int .i64 (s0 : Int)) := fun t => t.h.1.2.2.2.2.2.1
        have r6 : ∀ t : BoxC (Ten W2 wr.heap.size 0 g' (o2 + k * 5) (.string (bstr nm)) (.slice A2 dn c2) (.bool a) (.bool b) (.int .i64 u) (.int .i64 (s0 : Int)) (.int .u16 (s1 : Int)) (.int .u16 (s2 : Int)) (.int .u16 (s3 : Int)) (.int .u16 (s4 : Int))), t.W.cell? ⟨g', o2 + k * 5 + 1, none⟩ = some (.int .u16 (s1 : Int)) := fun t => t.h.1.2.2.2.2.2.2.1
        have r7 : ∀ t : BoxC (Ten W2 wr.heap.size 0 g' (o2 + k * 5) (.string (bstr nm)) (.slice A2 dn c2) (.bool a) (.bool b) (.int .i64 u) (.int .i64 (s0 : Int)) (.int .u16 (s1 : Int)) (.int .u16 (s2 : Int)) (.int .u16 (s3 : Int)) (.int .u16 (s4 : Int))), t.W.cell? ⟨g', o2 + k * 5 + 2, none⟩ = some (.int .u16 (s2 : Int)) := fun t => t.h.1.2.2.2.2.2.2.2.1
        have r8 : ∀ t : BoxC (Ten W2 wr.heap.size 0 g' (o2 + k * 5) (.string (bstr nm)) (.slice A2 dn c2) (.bool a) (.bool b) (.int .i64 u) (.int .i64 (s0 : Int)) (.int .u16 (s1 : Int)) (.int .u16 (s2 : Int)) (.int .u16 (s3 : Int)) (.int .u16 (s4 : Int))), t.W.cell? ⟨g', o2 + k * 5 + 3, none⟩ = some (.int .u16 (s3 : Int)) := fun t => t.h.1.2.2.2.2.2.2.2.2.1
        have r9 : ∀ t : BoxC (Ten W2 wr.heap.size 0 g' (o2 + k * 5) (.string (bstr nm)) (.slice A2 dn c2) (.bool a) (.bool b) (.int .i64 u) (.int .i64 (s0 : Int)) (.int .u16 (s1 : Int)) (.int .u16 (s2 : Int)) (.int .u16 (s3 : Int)) (.int .u16 (s4 : Int))), t.W.cell? ⟨g', o2 + k * 5 + 4, none⟩ = some (.int .u16 (s4 : Int)) := fun t => t.h.1.2.2.2.2.2.2.2.2.2
        clear p0 p1 p2 p3 p4 q0 q1 q2 q3 q4 hten
        repeat (go_big_quiet_step ((go_at_call 183; exact (HFA.out _).mono (fun _ _ h => ⟨h.1, ⟨_, Ten.keep (BoxC.h _) ⟨hz1, hz2⟩ h.2⟩, rfl⟩))))
        refine wpQuiet_nil ?_
        rintro w5 ⟨t5, rfl⟩
        have hh := t5.h.2
        go_wp2
        go_ret
        exact ⟨ret_bool HR.out.symm, hbw.trans (hh.mono hbw.size)⟩
      | true =>
        have HFA := Lib.hid (fun W => fitsArguments_any nm A2 dn c2 a b u s0 s1 s2 s3 s4 true h1 W)
        cases h2 : unitS u (s0, s1, s2, s3, s4) S with
        | false =>
          have HR := Lib.hid (HBAD.out (by simp [h2]))
          have HFU := Lib.hid (fun W (hW : Below w.heap.size w W) => fitsUnit_any nm A2 dn c2 a b u hu64 s0 s1 s2 s3 s4 S false h2 _ W (HT.out.below RS_steady (Nat.le_refl _) hW))
          clear h1 h2 HGOOD
          go_wp2_with fail
          generalize hW : wr.alloc (.cells #[.string (bstr nm), .slice A2 dn c2, .bool a, .bool b, .int .i64 u] 97) = W2
          have hbw : Below w.heap.size w W2 := by rw [← hW]; exact hbel.alloc hbel.size _
          have hz1 : wr.heap.size < W2.heap.size := by rw [← hW]; simp
          have hz2 : g' < W2.heap.size := by rw [← hW]; simp; omega
          have k1 : W2.heap[wr.heap.size]? = some (.cells #[.string (bstr nm), .slice A2 dn c2, .bool a, .bool b, .int .i64 u] 97 (0, 0)) := by rw [← hW]; exact heap_at _ _ _ rfl
          have p0 : W2.cell? ⟨wr.heap.size, 0, none⟩ = some (.string (bstr nm)) := cell_of_row W2 _ 0 _ _ _ k1
          have p1 : W2.cell? ⟨wr.heap.size, 1, none⟩ = some (.slice A2 dn c2) := cell_of_row W2 _ 1 _ _ _ k1
          have p2 : W2.cell? ⟨wr.heap.size, 2, none⟩ = some (.bool a) := cell_of_row W2 _ 2 _ _ _ k1
          have p3 : W2.cell? ⟨wr.heap.size, 3, none⟩ = some (.bool b) := cell_of_row W2 _ 3 _ _ _ k1
          have p4 : W2.cell? ⟨wr.heap.size, 4, none⟩ = some (.int .i64 u) := cell_of_row W2 _ 4 _ _ _ k1
          have q0 : W2.cell? ⟨g', o2 + k * 5, none⟩ = some (.int .i64 (s0 : Int)) := by rw [← hW, (Below.cell ((Below.refl wr.heap.size wr).alloc (Nat.le_refl _) _) (p := ⟨g', o2 + k * 5, none⟩) (by show g' < _; omega))]; exact d0
          have q1 : W2.cell? ⟨g', o2 + k * 5 + 1, none⟩ = some (.int .u16 (s1 : Int)) := by rw [← hW, (Below.cell ((Below.refl wr.heap.size wr).alloc (Nat.le_refl _) _) (p := ⟨g', o2 + k * 5 + 1, none⟩) (by show g' < _; omega))]; exact d1
          have q2 : W2.cell? ⟨g', o2 + k * 5 + 2, none⟩ = some (.int .u16 (s2 : Int)) := by rw [← hW, (Below.cell ((Below.refl wr.heap.size wr).alloc (Nat.le_refl _) _) (p := ⟨g', o2 + k * 5 + 2, none⟩) (by show g' < _; omega))]; exact d2
          have q3 : W2.cell? ⟨g', o2 + k * 5 + 3, none⟩ = some (.int .u16 (s3 : Int)) := by rw [← hW, (Below.cell ((Below.refl wr.heap.size wr).alloc (Nat.le_refl _) _) (p := ⟨g', o2 + k * 5 + 3, none⟩) (by show g' < _; omega))]; exact d3
          have q4 : W2.cell? ⟨g', o2 + k * 5 + 4, none⟩ = some (.int .u16 (s4 : Int)) := by rw [← hW, (Below.cell ((Below.refl wr.heap.size wr).alloc (Nat.le_refl _) _) (p := ⟨g', o2 + k * 5 + 4, none⟩) (by show g' < _; omega))]; exact d4
          clear hW k1
          go_region_held3 (fun w' => (w'.cell? ⟨wr.heap.size, 0, none⟩ = some (.string (bstr nm)) ∧ w'.cell? ⟨wr.heap.size, 1, none⟩ = some (.slice A2 dn c2) ∧ w'.cell? ⟨wr.heap.size, 2, none⟩ = some (.bool a) ∧ w'.cell? ⟨wr.heap.size, 3, none⟩ = some (.bool b) ∧ w'.cell? ⟨wr.heap.size, 4, none⟩ = some (.int .i64 u) ∧ w'.cell? ⟨g', o2 + k * 5, none⟩ = some (.int .i64 (s0 : Int)) ∧ w'.cell? ⟨g', o2 + k * 5 + 1, none⟩ = some (.int .u16 (s1 : Int)) ∧ w'.cell? ⟨g', o2 + k * 5 + 2, none⟩ = some (.int .u16 (s2 : Int)) ∧ w'.cell? ⟨g', o2 + k * 5 + 3, none⟩ = some (.int .u16 (s3 : Int)) ∧ w'.cell? ⟨g', o2 + k * 5 + 4, none⟩ = some (.int .u16 (s4 : Int))) ∧ Below W2.heap.size W2 w')
            (first | (refine ⟨⟨?_, ?_, ?_, ?_, ?_, ?_, ?_, ?_, ?_, ?_⟩, (Below.refl _ _).drew⟩ <;> assumption) | (go_split_ands; exact keep_ten (g := wr.heap.size) (o := 0) (g' := g') (o' := o2 + k * 5) ⟨⟨by assumption, by assumption, by assumption, by assumption, by assumption, by assumption, by assumption, by assumption, by assumption, by assumption⟩, by assumption⟩ ⟨hz1, hz2⟩ (by assumption)))
            (first
              | (go_at_call 183; go_split_ands; refine (HFA.out _).mono ?_; rintro e w3 ⟨rfl, hb3⟩)
              | (go_at_call 184; go_split_ands; refine (HFU.out _ (hbw.trans (Below.mono (by assumption) hbw.size))).mono ?_; rintro e w4 ⟨rfl, hb4⟩))
          go_wp2
          have hh : Below W2.heap.size W2 w4 := by go_split_ands; assumption
          go_ret
          exact ⟨ret_bool HR.out.symm, hbw.trans (hh.mono hbw.size)⟩
        | true =>
          have HG := Lib.hid (HGOOD.out (by simp [h1, h2]))
          have HFU := Lib.hid (fun W (hW : Below w.heap.size w W) => fitsUnit_any nm A2 dn c2 a b u hu64 s0 s1 s2 s3 s4 S true h2 _ W (HT.out.below RS_steady (Nat.le_refl _) hW))
          clear h1 h2 HGOOD
          go_wp2_with fail
          generalize hW : wr.alloc (.cells #[.string (bstr nm), .slice A2 dn c2, .bool a, .bool b, .int .i64 u] 97) = W2
          have hbw : Below w.heap.size w W2 := by rw [← hW]; exact hbel.alloc hbel.size _
          have hz1 : wr.heap.size < W2.heap.size := by rw [← hW]; simp
          have hz2 : g' < W2.heap.size := by rw [← hW]; simp; omega
          have k1 : W2.heap[wr.heap.size]? = some (.cells #[.string (bstr nm), .slice A2 dn c2, .bool a, .bool b, .int .i64 u] 97 (0, 0)) := by rw [← hW]; exact heap_at _ _ _ rfl
          have p0 : W2.cell? ⟨wr.heap.size, 0, none⟩ = some (.string (bstr nm)) := cell_of_row W2 _ 0 _ _ _ k1
          have p1 : W2.cell? ⟨wr.heap.size, 1, none⟩ = some (.slice A2 dn c2) := cell_of_row W2 _ 1 _ _ _ k1
          have p2 : W2.cell? ⟨wr.heap.size, 2, none⟩ = some (.bool a) := cell_of_row W2 _ 2 _ _ _ k1
          have p3 : W2.cell? ⟨wr.heap.size, 3, none⟩ = some (.bool b) := cell_of_row W2 _ 3 _ _ _ k1
          have p4 : W2.cell? ⟨wr.heap.size, 4, none⟩ = some (.int .i64 u) := cell_of_row W2 _ 4 _ _ _ k1
          have q0 : W2.cell? ⟨g', o2 + k * 5, none⟩ = some (.int .i64 (s0 : Int)) := by rw [← hW, (Below.cell ((Below.refl wr.heap.size wr).alloc (Nat.le_refl _) _) (p := ⟨g', o2 + k * 5, none⟩) (by show g' < _; omega))]; exact d0
          have q1 : W2.cell? ⟨g', o2 + k * 5 + 1, none⟩ = some (.int .u16 (s1 : Int)) := by rw [← hW, (Below.cell ((Below.refl wr.heap.size wr).alloc (Nat.le_refl _) _) (p := ⟨g', o2 + k * 5 + 1, none⟩) (by show g' < _; omega))]; exact d1
          have q2 : W2.cell? ⟨g', o2 + k * 5 + 2, none⟩ = some (.int .u16 (s2 : Int)) := by rw [← hW, (Below.cell ((Below.refl wr.heap.size wr).alloc (Nat.le_refl _) _) (p := ⟨g', o2 + k * 5 + 2, none⟩) (by show g' < _; omega))]; exact d2
          have q3 : W2.cell? ⟨g', o2 + k * 5 + 3, none⟩ = some (.int .u16 (s3 : Int)) := by rw [← hW, (Below.cell ((Below.refl wr.heap.size wr).alloc (Nat.le_refl _) _) (p := ⟨g', o2 + k * 5 + 3, none⟩) (by show g' < _; omega))]; exact d3
          have q4 : W2.cell? ⟨g', o2 + k * 5 + 4, none⟩ = some (.int .u16 (s4 : Int)) := by rw [← hW, (Below.cell ((Below.refl wr.heap.size wr).alloc (Nat.le_refl _) _) (p := ⟨g', o2 + k * 5 + 4, none⟩) (by show g' < _; omega))]; exact d4
          clear hW k1
          go_region_held3 (fun w' => (w'.cell? ⟨wr.heap.size, 0, none⟩ = some (.string (bstr nm)) ∧ w'.cell? ⟨wr.heap.size, 1, none⟩ = some (.slice A2 dn c2) ∧ w'.cell? ⟨wr.heap.size, 2, none⟩ = some (.bool a) ∧ w'.cell? ⟨wr.heap.size, 3, none⟩ = some (.bool b) ∧ w'.cell? ⟨wr.heap.size, 4, none⟩ = some (.int .i64 u) ∧ w'.cell? ⟨g', o2 + k * 5, none⟩ = some (.int .i64 (s0 : Int)) ∧ w'.cell? ⟨g', o2 + k * 5 + 1, none⟩ = some (.int .u16 (s1 : Int)) ∧ w'.cell? ⟨g', o2 + k * 5 + 2, none⟩ = some (.int .u16 (s2 : Int)) ∧ w'.cell? ⟨g', o2 + k * 5 + 3, none⟩ = some (.int .u16 (s3 : Int)) ∧ w'.cell? ⟨g', o2 + k * 5 + 4, none⟩ = some (.int .u16 (s4 : Int))) ∧ Below W2.heap.size W2 w')
            (first | (refine ⟨⟨?_, ?_, ?_, ?_, ?_, ?_, ?_, ?_, ?_, ?_⟩, (Below.refl _ _).drew⟩ <;> assumption) | (go_split_ands; exact keep_ten (g := wr.heap.size) (o := 0) (g' := g') (o' := o2 + k * 5) ⟨⟨by assumption, by assumption, by assumption, by assumption, by assumption, by assumption, by assumption, by assumption, by assumption, by assumption⟩, by assumption⟩ ⟨hz1, hz2⟩ (by assumption)))
            (first
              | (go_at_call 183; go_split_ands; refine (HFA.out _).mono ?_; rintro e w3 ⟨rfl, hb3⟩)
              | (go_at_call 184; go_split_ands; refine (HFU.out _ (hbw.trans (Below.mono (by assumption) hbw.size))).mono ?_; rintro e w4 ⟨rfl, hb4⟩))
          go_wp2
          go_roundw
          case rel =>
            have hh : Below W2.heap.size W2 w4 := by go_split_ands; assumption
            exact ⟨k + 1, by omega, by go_num, HG, hbw.trans (hh.mono hbw.size)⟩
          case measure => simp [intOf]; omega
    · obtain rfl : k = n := by omega
      have HR : Hid (r = true) := Lib.hid (by rw [← hr]; exact fitB_good (fun j hj => HALL.out j (by have := HN.out; omega)))
      go_wp2
      go_ret
      exact ⟨ret_bool HR.out.symm, hbel⟩
end Go.Proofs.YtjejdcehlckfhaaGreat.sigr
