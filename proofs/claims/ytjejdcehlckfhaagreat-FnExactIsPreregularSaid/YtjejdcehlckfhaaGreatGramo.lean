/-
  THE METHODS OF AN OPERATOR WITH ITS SHAPE.
-/
import Derived.Test.YtjejdcehlckfhaaGreatGram
import Derived.Test.YtjejdcehlckfhaaGreatGa
namespace Go.Proofs.YtjejdcehlckfhaaGreat.gramo
open Go.ChangeShapes Go.WideShapes Go.ChangeAt Go.RowKit
open mem dec rowl trm trmv terml termb termt termx sigi gram

abbrev aggE (nm : List UInt8) (A : Option Addr) (n c : Nat) (a b : Bool) (u : Int) (i s0 s1 s2 s3 s4 : Nat) : Value := .agg #[.string (bstr nm), .slice A n c, .bool a, .bool b, .int .i64 u, .int .i64 (i : Int), .int .i64 (s0 : Int), .int .u16 (s1 : Int), .int .u16 (s2 : Int), .int .u16 (s3 : Int), .int .u16 (s4 : Int)]
theorem takes_any (nm : List UInt8) (A : Option Addr) (n c : Nat) (a b : Bool) (u : Int) (i s0 s1 s2 s3 s4 m : Nat) (hm : m ≤ 9223372036854775807) (r : Bool) (hr : (if a then decide (2 ≤ m) else decide (m = s0)) = r) (w : World) :
    Calls Tryz.prog 189 #[aggE nm A n c a b u i s0 s1 s2 s3 s4, .int .i64 m] w fun e w' => e = .returned (.bool r) ∧ Below w.heap.size w w' := by
  have HR := Lib.hid hr
  clear hr
  cases a with
  | true =>
    have HB : Hid (decide ((2 : Int) ≤ (m : Int)) = r) := Lib.hid (by rw [← HR.out, if_pos rfl, Bool.eq_iff_iff]; simp; omega)
    go_enter Tryz.func189, Tryz.ntmps189
    go_wp2
    go_ret
    exact ⟨ret_bool (by rw [← HB.out]; try simp), (Below.refl _ _).alloc (Nat.le_refl _) _⟩
  | false =>
    have HB : Hid (((m : Int) == (s0 : Int)) = r) := Lib.hid (by rw [← HR.out, if_neg (by simp), Bool.eq_iff_iff]; simp; omega)
    go_enter Tryz.func189, Tryz.ntmps189
    go_wp2
    go_ret
    exact ⟨ret_bool (by rw [← HB.out]; try simp), (Below.refl _ _).alloc (Nat.le_refl _) _⟩
/-- the kind at a place -/
def kAtS (a : Bool) (s : Shp) (k : Nat) : Nat := if a then s.2.1 else match k with | 0 => s.2.1 | 1 => s.2.2.1 | _ => s.2.2.2.1
theorem kindAt_any (nm : List UInt8) (A : Option Addr) (n c : Nat) (a b : Bool) (u : Int) (i s0 s1 s2 s3 s4 k : Nat) (hk : a = false → k < 3) (w : World) :
    Calls Tryz.prog 191 #[aggE nm A n c a b u i s0 s1 s2 s3 s4, .int .i64 k] w fun e w' => e = .returned (.int .u16 ((kAtS a (s0, s1, s2, s3, s4) k : Nat) : Int)) ∧ Below w.heap.size w w' := by
  cases a with
  | true =>
    go_enter Tryz.func191, Tryz.ntmps191
    go_wp2
    go_ret
    exact ⟨rfl, (Below.refl _ _).alloc (Nat.le_refl _) _⟩
  | false =>
    have hk := hk rfl
    have hcs : k = 0 ∨ k = 1 ∨ k = 2 := by omega
    rcases hcs with rfl | rfl | rfl
    all_goals
      go_enter Tryz.func191, Tryz.ntmps191
      go_wp2
      go_ret
      exact ⟨rfl, (Below.refl _ _).alloc (Nat.le_refl _) _⟩
theorem hasUnit_any (nm : List UInt8) (A : Option Addr) (n c : Nat) (a b : Bool) (u : Int) (i s0 s1 s2 s3 s4 : Nat) (r : Bool) (hr : decide (u ≠ 0) = r) (w : World) :
    Calls Tryz.prog 201 #[aggE nm A n c a b u i s0 s1 s2 s3 s4] w fun e w' => e = .returned (.bool r) ∧ Below w.heap.size w w' := by
  have HB : Hid ((!(u == 0)) = r) := Lib.hid (by rw [← hr, Bool.eq_iff_iff]; simp)
  clear hr
  go_enter Tryz.func201, Tryz.ntmps201
  go_wp2
  go_ret
  exact ⟨ret_bool (by rw [← HB.out]; rfl), (Below.refl _ _).alloc (Nat.le_refl _) _⟩
set_option maxRecDepth 20000 in
theorem unit_any (nm : List UInt8) (A : Option Addr) (n c : Nat) (a b : Bool) (u : Int) (hu : I64 u) (hu0 : 0 ≤ u) (i s0 s1 s2 s3 s4 : Nat) (w : World) :
    Calls Tryz.prog 202 #[aggE nm A n c a b u i s0 s1 s2 s3 s4] w fun e w' => e = .returned (.agg #[.int .i64 (u - 1), .string { data := #[] }, .int .i64 0, .slice none 0 0]) ∧ Below w.heap.size w w' := by
  obtain ⟨hu1, hu2⟩ := hu
  have hw : IntKind.i64.wrap (u - 1) = u - 1 := IntWalk.i64_in _ (by omega)
  have hw2 : wrap64 (u - 1) = u - 1 := IntWalk.wrap64_in (u - 1) (by omega)
  clear hu1 hu2 hu0
  go_enter Tryz.func202, Tryz.ntmps202
  go_wp2
  refine bodyPost_ret (v := .agg #[.int .i64 (u - 1), .string { data := #[] }, .int .i64 0, .slice none 0 0]) (by simp [results, Tryz.results202, go_sem]) rfl ⟨rfl, ?_⟩
  repeat (first | (refine Below.setCell ?_ (by first | (simp; done) | (simp; omega)) _) | (refine Below.alloc ?_ (by first | (simp; done) | (simp; omega)) _))
  exact Below.refl _ _
set_option maxRecDepth 20000 in
theorem isUnit_any (nm : List UInt8) (A : Option Addr) (n c : Nat) (a b : Bool) (u : Int) (hu : I64 u) (hu0 : 0 ≤ u) (i s0 s1 s2 s3 s4 : Nat) (t : TermM) (B : Option Addr) (m cb : Nat) (r : Bool) (hr : decide (u ≠ 0 ∧ t.op = u - 1) = r) (w : World) :
    Calls Tryz.prog 193 #[aggE nm A n c a b u i s0 s1 s2 s3 s4, .agg #[.int .i64 t.op, .string (bstr t.name), .int .i64 t.sort, .slice B m cb]] w fun e w' => e = .returned (.bool r) ∧ Below w.heap.size w w' := by
  have HU := Lib.hid (fun r hr W => hasUnit_any nm A n c a b u i s0 s1 s2 s3 s4 r hr W)
  obtain ⟨hu1, hu2⟩ := hu
  have HB2 : ∀ w : World, ∀ o1 o2 : Obj, Below w.heap.size w ((w.alloc o1).alloc o2) := fun w o1 o2 => ((Below.refl _ _).alloc (Nat.le_refl _) _).alloc (by simp) _
  have hw : IntKind.i64.wrap (u - 1) = u - 1 := IntWalk.i64_in _ (by omega)
  by_cases h0 : u = 0
  · have HR : Hid (r = false) := Lib.hid (by rw [← hr]; exact decide_eq_false (fun e => e.1 h0))
    have HU1 := Lib.hid (HU.out false (decide_eq_false (fun e => e h0)))
    clear hr HU h0 hw HB2 hu0 hu1 hu2
    go_enter Tryz.func193, Tryz.ntmps193
    go_wp2_with fail
    refine (HU1.out _).mono ?_
    rintro e w1 ⟨rfl, hb1⟩
    go_wp2
    go_ret
    exact ⟨ret_bool HR.out.symm, ((((Below.refl _ _).alloc (Nat.le_refl _) _).alloc (by simp) _).trans (hb1.mono (by simp; omega)))⟩
  · have HU1 := Lib.hid (HU.out true (decide_eq_true h0))
    have HR : Hid ((t.op == u - 1) = r) := Lib.hid (by rw [← hr, Bool.eq_iff_iff]; simp [h0])
    clear hr HU h0 HB2 hu0 hu1 hu2
    go_enter Tryz.func193, Tryz.ntmps193
    go_wp2_with fail
    refine (HU1.out _).mono ?_
    rintro e w1 ⟨rfl, hb1⟩
    have e1 : w1.cell? ⟨w.heap.size, 4, none⟩ = some (.int .i64 u) := (hb1.cell (p := ⟨w.heap.size, 4, none⟩) (by simp; omega)).trans (by simp)
    have e2 : w1.cell? ⟨w.heap.size + 1, 0, none⟩ = some (.int .i64 t.op) := (hb1.cell (p := ⟨w.heap.size + 1, 0, none⟩) (by simp)).trans (by simp)
    have hbf : Below w.heap.size w w1 := ((((Below.refl _ _).alloc (Nat.le_refl _) _).alloc (by simp) _).trans (hb1.mono (by simp; omega)))
    clear hb1
    go_wp2
    go_ret
    exact ⟨ret_bool (by rw [← HR.out]; try rfl), hbf⟩
set_option maxRecDepth 20000 in
theorem absorbs_any (nm : List UInt8) (A : Option Addr) (n c : Nat) (a b : Bool) (u : Int) (i s0 s1 s2 s3 s4 : Nat) (t : TermM) (B : Option Addr) (m cb : Nat) (r : Bool) (hr : (a && decide (t.op = i)) = r) (w : World) :
    Calls Tryz.prog 194 #[aggE nm A n c a b u i s0 s1 s2 s3 s4, .agg #[.int .i64 t.op, .string (bstr t.name), .int .i64 t.sort, .slice B m cb]] w fun e w' => e = .returned (.bool r) ∧ Below w.heap.size w w' := by
  have hbf : ∀ o1 o2 : Obj, Below w.heap.size w ((w.alloc o1).alloc o2) := fun o1 o2 => ((Below.refl _ _).alloc (Nat.le_refl _) _).alloc (by simp) _
  have HBF := Lib.hid hbf
  cases a with
  | false =>
    have HR : Hid (r = false) := Lib.hid (by rw [← hr]; rfl)
    clear hr hbf
    go_enter Tryz.func194, Tryz.ntmps194
    go_wp2
    go_ret
    exact ⟨ret_bool HR.out.symm, HBF.out _ _⟩
  | true =>
    have HR : Hid ((t.op == (i : Int)) = r) := Lib.hid (by rw [← hr, Bool.eq_iff_iff]; simp)
    clear hr hbf
    go_enter Tryz.func194, Tryz.ntmps194
    go_wp2
    go_ret
    exact ⟨ret_bool (by rw [← HR.out]; try rfl), HBF.out _ _⟩
set_option maxRecDepth 20000 in
/-- slices.IndexFunc, at terms -/
theorem indexT_any (f : Nat) (bnd cap : Array Value) (eg : ∀ args w, (callFunc f args).run Tryz.prog w = .ok (.enter f args) w) (p : TermM → Bool) {N lo : Nat} (L : List TermM) (v : Value) (w : World) (h : HasTs N lo w v L)
    (hp : ∀ t ∈ L, ∀ (B : Option Addr) (m cb : Nat) W, Below w.heap.size w W → Calls Tryz.prog f (bnd.push (.agg #[.int .i64 t.op, .string (bstr t.name), .int .i64 t.sort, .slice B m cb]) ++ cap) W fun e w' => e = .returned (.bool (p t)) ∧ Below W.heap.size W w') :
    Calls Tryz.prog 216 #[v, .func (.func f) bnd cap] w fun e w' => ∃ i : Int, e = .returned (.int .i64 i) ∧ (0 ≤ i ↔ L.any p = true) ∧ Below w.heap.size w w' := by
  obtain ⟨n, hn⟩ : ∃ n, n = L.length := ⟨_, rfl⟩
  obtain ⟨A, c, rfl, h⟩ := HasR.shape h hn.symm
  have hl := h.len.2.1
  have HH := Lib.hid h
  have HN := Lib.hid hn
  have HP := Lib.hid hp
  clear h hn hp
  go_enter Tryz.func216, Tryz.ntmps216
  go_wp2
  go_loopw [5, 8] (fun _ i wr => ∃ k : Nat, k ≤ n ∧ i = .int .i64 k ∧ Hid (∀ j, j < k → p (L.getD j default) = false) ∧ Hid (Below w.heap.size w wr)) (fun _ i _ => n - (intOf i).toNat)
  case atStart => exact ⟨0, Nat.zero_le _, rfl, Lib.hid (fun j hj => by omega), Lib.hid (Below.refl _ _)⟩
  case round =>
    obtain ⟨k, hk, rfl, HALL, HB⟩ := hrel
    by_cases hlt : k < n
    · obtain ⟨_, g, o, A2, c2, _, rfl, _, hg, e0, e1, e2, e3, _, _⟩ := term_at HH.out hlt
      have hbel := HB.out
      have s0 := (hbel.cell (p := ⟨g, o + k * 4, none⟩) hg).trans e0
      have s1 := (hbel.cell (p := ⟨g, o + k * 4 + 1, none⟩) hg).trans e1
      have s2 := (hbel.cell (p := ⟨g, o + k * 4 + 2, none⟩) hg).trans e2
      have s3 := (hbel.cell (p := ⟨g, o + k * 4 + 3, none⟩) hg).trans e3
      have hmem : L.getD k default ∈ L := by rw [getD_at (by have := HN.out; omega)]; exact List.getElem_mem _
      have HC := Lib.hid (HP.out (L.getD k default) hmem A2 (L.getD k default).args.length c2 wr hbel)
      have HX : Hid (p (L.getD k default) = true → L.any p = true) := Lib.hid (fun hq => List.any_eq_true.2 ⟨_, hmem, hq⟩)
      have HG : Hid (p (L.getD k default) = false → ∀ j, j < k + 1 → p (L.getD j default) = false) := Lib.hid (fun hq j hj => by
        by_cases e : j = k
        · subst e; exact hq
        · exact HALL.out j (by omega))
      have i1 : (0 : Int) ≤ (k : Int) := by omega
      have i2 : (k : Int) < (n : Int) := by omega
      obtain ⟨t, ht⟩ : ∃ t, t = L.getD k default := ⟨_, rfl⟩
      rw [← ht] at s0 s1 s2 s3 HC HX HG
      obtain ⟨q, hq⟩ : ∃ q, q = p t := ⟨_, rfl⟩
      rw [← hq] at HC HX HG
      clear e0 e1 e2 e3 hbel hmem ht hq
      go_wp2_with fail
      refine HC.out.mono ?_
      rintro e w1 ⟨rfl, hb1⟩
      have HB1 : Hid (Below w.heap.size w w1) := Lib.hid (HB.out.trans (hb1.mono HB.out.size))
      clear hb1 s0 s1 s2 s3 HC
      cases q with
      | true =>
        go_wp2
        go_ret
        exact ⟨(k : Int), rfl, ⟨fun _ => HX.out trivial, fun _ => by omega⟩, HB1.out⟩
      | false =>
        have HG' := Lib.hid (HG.out rfl)
        go_wp2
        go_roundw
        case rel => exact ⟨k + 1, by omega, by go_num, HG', HB1⟩
        case measure => simp [intOf]; omega
    · obtain rfl : k = n := by omega
      have HF : Hid (L.any p = false) := Lib.hid (by
        rw [List.any_eq_false]
        intro t ht
        obtain ⟨j, hj, rfl⟩ := List.getElem_of_mem ht
        have := HALL.out j (by have := HN.out; omega)
        rw [getD_at hj] at this
        simp [this])
      go_wp2
      go_ret
      exact ⟨-1, rfl, ⟨fun h => by omega, fun h => (by rw [HF.out] at h; cases h)⟩, HB.out⟩
/-- slices.ContainsFunc, at terms -/
theorem containsT_any (f : Nat) (bnd cap : Array Value) (eg : ∀ args w, (callFunc f args).run Tryz.prog w = .ok (.enter f args) w) (p : TermM → Bool) {N lo : Nat} (L : List TermM) (v : Value) (w : World) (h : HasTs N lo w v L)
    (hp : ∀ t ∈ L, ∀ (B : Option Addr) (m cb : Nat) W, Below w.heap.size w W → Calls Tryz.prog f (bnd.push (.agg #[.int .i64 t.op, .string (bstr t.name), .int .i64 t.sort, .slice B m cb]) ++ cap) W fun e w' => e = .returned (.bool (p t)) ∧ Below W.heap.size W w') (r : Bool) (hr : L.any p = r) :
    Calls Tryz.prog 192 #[v, .func (.func f) bnd cap] w fun e w' => e = .returned (.bool r) ∧ Below w.heap.size w w' := by
  have HC := Lib.hid (indexT_any f bnd cap eg p L v w h hp)
  rw [hr] at HC
  obtain ⟨A, c, rfl, _⟩ := HasR.shape h rfl
  clear hr h hp
  go_enter Tryz.func192, Tryz.ntmps192
  go_wp2_with fail
  refine HC.out.mono ?_
  rintro e w1 ⟨i, rfl, hi, hb1⟩
  cases r with
  | true =>
    have hd : decide (0 ≤ i) = true := decide_eq_true (hi.2 rfl)
    have h0 : 0 ≤ i := hi.2 rfl
    clear hi
    go_wp2
    go_ret
    exact ⟨rfl, hb1⟩
  | false =>
    have h0 : ¬ 0 ≤ i := fun h => by have := hi.1 h; cases this
    have hd : decide (0 ≤ i) = false := decide_eq_false h0
    clear hi
    go_wp2
    go_ret
    exact ⟨rfl, hb1⟩
end Go.Proofs.YtjejdcehlckfhaaGreat.gramo
