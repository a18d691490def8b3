/-
  THE PROGRAM's FUNCTIONS OF SIGNATURES: shapes and their comparison, shapeOf, shapeOfTwo, commonShape.
-/
import Derived.Test.YtjejdcehlckfhaaGreatSigs
import Derived.Test.YtjejdcehlckfhaaGreatSortf
import Derived.Laws.StructEq
import Derived.ChangeKeysEq
namespace Go.Proofs.YtjejdcehlckfhaaGreat.sigi
open Go.ChangeShapes Go.WideShapes Go.ChangeAt Go.RowKit
open mem split strl subs sortn setm sets sortm sortp sorti sortf rowl sigm sigs

/-- what the declarations of an operator have in common: the arity, the kinds at its three places, and the result's -/
abbrev Shp := Nat × Nat × Nat × Nat × Nat
def pl (κ : Int → Nat) (L : List Int) (i : Nat) : Nat := if i < L.length then κ (L.getD i 0) else 0
def shp (κ : Int → Nat) (d : List Int × Int) : Shp := (d.1.length, pl κ d.1 0, pl κ d.1 1, pl κ d.1 2, κ d.2)
def zsh : Shp := (0, 0, 0, 0, 0)
def shcs (s : Shp) : List Value := [.int .i64 (s.1 : Int), .int .u16 (s.2.1 : Int), .int .u16 (s.2.2.1 : Int), .int .u16 (s.2.2.2.1 : Int), .int .u16 (s.2.2.2.2 : Int)]
def shv (s : Shp) : Value := .agg #[.int .i64 (s.1 : Int), .int .u16 (s.2.1 : Int), .int .u16 (s.2.2.1 : Int), .int .u16 (s.2.2.2.1 : Int), .int .u16 (s.2.2.2.2 : Int)]
theorem shp_iff {n : Nat} {κ : Int → Nat} {d e : List Int × Int} (hd : okD n d = true) (he : okD n e = true) : shp κ d = shp κ e ↔ kD κ d = kD κ e := by
  obtain ⟨l, x⟩ := d
  obtain ⟨m, y⟩ := e
  have h1 : l.length ≤ 3 := (okD_parts hd).1
  have h2 : m.length ≤ 3 := (okD_parts he).1
  simp only [shp, kD, Prod.mk.injEq]
  match l, m, h1, h2 with
  | [], [], _, _ => simp [pl]
  | [], _ :: _, _, _ => simp
  | _ :: _, [], _, _ => simp
  | [a], [b], _, _ => simp [pl]
  | [a], _ :: _ :: _, _, _ => simp
  | _ :: _ :: _, [b], _, _ => simp
  | [a, a'], [b, b'], _, _ => simp [pl, and_assoc]
  | [a, a'], _ :: _ :: _ :: _, _, _ => simp
  | _ :: _ :: _ :: _, [b, b'], _, _ => simp
  | [a, a', a''], [b, b', b''], _, _ => simp [pl, and_assoc]
  | _ :: _ :: _ :: _ :: _, _, h, _ => simp at h
  | _, _ :: _ :: _ :: _ :: _, _, h => simp at h
/-- two shapes compared -/
theorem run_shape (w : World) (a b x0 x1 x2 y0 y1 y2 r s : Int) :
    (Op.equalIn 10000 100 (.agg #[.int .i64 a, .int .u16 x0, .int .u16 x1, .int .u16 x2, .int .u16 r]) (.agg #[.int .i64 b, .int .u16 y0, .int .u16 y1, .int .u16 y2, .int .u16 s])).run Tryz.prog w =
      .ok (decide (a = b ∧ x0 = y0 ∧ x1 = y1 ∧ x2 = y2 ∧ r = s)) w := by
  have h1 : Tryz.prog.stoodInHeld 100 = false := by kernel_rfl
  have h2 : Tryz.prog.underlying 100 = some (.struct (Tryz.prog.fieldsOf 100)) := by kernel_rfl
  have hi : Tryz.prog.info? 75 = some (Tryz.prog.info? 75).get! := by kernel_rfl
  have hc : Tryz.prog.cellsOf 75 = 1 := by kernel_rfl
  have e1 : ∀ a b : Int, ∀ W, (Op.equalIn 9999 3 (.int .i64 a) (.int .i64 b)).run Tryz.prog W = .ok (a == b) W := fun a b W => run_equalIn_int W 9998 _ _ _ a b Tryz.underlying3
  have e2 : ∀ a b : Int, ∀ W, (Op.equalIn 9999 75 (.int .u16 a) (.int .u16 b)).run Tryz.prog W = .ok (a == b) W := fun a b W => run_equalIn_int W 9998 _ _ _ a b Tryz.underlying75
  have e3 : ∀ a b : Int, ∀ W, (Op.equalIn 9998 75 (.int .u16 a) (.int .u16 b)).run Tryz.prog W = .ok (a == b) W := fun a b W => run_equalIn_int W 9997 _ _ _ a b Tryz.underlying75
  have e4 : ∀ xs ys W, (Op.equalIn 9999 98 (.agg xs) (.agg ys)).run Tryz.prog W = (Op.eqItems 9998 75 (Tryz.prog.cellsOf 75) xs ys (List.range 3)).run Tryz.prog W :=
    fun xs ys W => run_equalIn_array W 9998 xs ys Tryz.underlying98 hi
  rw [run_equalIn_agg w 9999 _ _ _ h2 h1]
  simp only [Program.fieldsOf, Tryz.underlying100]
  simp [Op.eqFields, part, e1, e2, e4, hc, List.range_succ, Op.eqItems, e3]
  (repeat' split) <;> simp_all
theorem shv_eq (s t : Shp) : decide ((s.1 : Int) = (t.1 : Int) ∧ (s.2.1 : Int) = (t.2.1 : Int) ∧ (s.2.2.1 : Int) = (t.2.2.1 : Int) ∧ (s.2.2.2.1 : Int) = (t.2.2.2.1 : Int) ∧ (s.2.2.2.2 : Int) = (t.2.2.2.2 : Int)) = decide (s = t) := by
  obtain ⟨a, b, c, d, e⟩ := s
  obtain ⟨a', b', c', d', e'⟩ := t
  simp only [Prod.mk.injEq, decide_eq_decide]
  omega
/-- '==' and '!=' of shapes -/
theorem eql_shape (s t : Shp) (r : Bool) (hr : decide (s = t) = r) (w : World) : (binOp .eql 100 (shv s) (shv t)).run Tryz.prog w = .ok (.bool r) w := by
  rw [shv, shv, run_eql_struct, run_shape, shv_eq, hr]; rfl
theorem neq_shape (s t : Shp) (r : Bool) (hr : decide (s = t) = r) (w : World) : (binOp .neq 100 (shv s) (shv t)).run Tryz.prog w = .ok (.bool (!r)) w := by
  rw [shv, shv, run_neq_struct, run_shape, shv_eq, hr]; rfl
/-- impl.shapeOfTwo -/
theorem shapeOfTwo_any (a b : Nat) (w : World) :
    Calls Tryz.prog 214 #[.int .u16 (a : Int), .int .u16 (b : Int)] w fun e w' => e = .returned (shv (2, a, a, 0, b)) ∧ Below w.heap.size w w' := by
  go_enter Tryz.func214, Tryz.ntmps214
  go_wp2
  refine bodyPost_ret (v := shv (2, a, a, 0, b)) (by simp [results, Tryz.results214, go_sem, shv]) rfl ⟨rfl, ?_⟩
  repeat (first | exact Below.refl _ _ | refine Below.setCell ?_ (by first | (simp; done) | (simp; omega)) _ | refine Below.alloc ?_ (by first | (simp; done) | (simp; omega)) _)
/-- a block after one of its cells has been set -/
theorem row_set {w : World} {g : Nat} {cs : Array Value} {t : TypeId} {fz : Nat × Nat} (h : w.heap[g]? = some (.cells cs t fz)) (j : Nat) (u : Value) : (w.setCell ⟨g, j, none⟩ u).heap[g]? = some (.cells (cs.setIfInBounds j u) t fz) := by
  simp [World.setCell, Array.getElem?_modify, h]
theorem row_drew {w : World} {g : Nat} {o : Obj} (h : w.heap[g]? = some o) : w.drew.heap[g]? = some o := h
def shpR (r : Bool) (κ : Int → Nat) (d : List Int × Int) : Shp := if r then shp κ d else zsh
def plk (κ : Int → Nat) (L : List Int) (k i : Nat) : Nat := if i < k then κ (L.getD i 0) else 0
theorem okD_bad {n : Nat} {L : List Int} {x : Int} {k : Nat} (hk : k < L.length) (h : inN n (L.getD k 0) = false) : okD n (L, x) = false := by
  have : L.all (inN n) = false := by
    rw [List.all_eq_false]
    refine ⟨L[k], List.getElem_mem hk, ?_⟩
    simpa [List.getD, List.getElem?_eq_getElem hk] using h
  simp [okD, this]
theorem okD_good {n : Nat} {L : List Int} {x : Int} (h1 : L.length ≤ 3) (h2 : inN n x = true) (h3 : ∀ k, k < L.length → inN n (L.getD k 0) = true) : okD n (L, x) = true := by
  simp only [okD, Bool.and_eq_true, decide_eq_true_eq, List.all_eq_true]
  refine ⟨⟨h1, h2⟩, fun y hy => ?_⟩
  obtain ⟨k, hk, rfl⟩ := List.getElem_of_mem hy
  have := h3 k hk
  simpa [List.getD, List.getElem?_eq_getElem hk] using this
def κU (U : List Nat) (x : Int) : Nat := U.getD x.toNat 0
theorem κU_at {U : List Nat} {x : Int} (h : inN U.length x = true) : atU U x = κU U x := by
  simp only [inN, decide_eq_true_eq] at h
  simp [atU, κU, h.1]
set_option maxRecDepth 20000 in
/-- impl.shapeOf -/
theorem shapeOf_any (U : List Nat) (_hU : Lim U) (L : List Int) (x : Int) (hx : I64 x) (hL : ∀ y ∈ L, I64 y) (r : Bool) (hr : okD U.length (L, x) = r) (va mv : Value) (w : World) (h : Has w va (ivs L)) (hM : MapU w mv U) :
    Calls Tryz.prog 213 #[.agg #[va, .int .i64 x], mv] w fun e w' => e = .returned (.tuple #[shv (shpR r (κU U) (L, x)), .bool r]) ∧ Below w.heap.size w w' := by
  have HHS := Lib.hid (fun x (hx : I64 x) r hr W (hW : Below w.heap.size w W) => hasSort_any U mv x hx.1 hx.2 r hr W (hM.below hW))
  have HLK := Lib.hid (fun x (hx : I64 x) W (hW : Below w.heap.size w W) => (hM.below hW).look hx.1 hx.2)
  obtain ⟨m, hm⟩ : ∃ m, m = L.length := ⟨_, rfl⟩
  obtain ⟨A, ca, rfl, h'⟩ := h.shape ((ivs_len L).trans hm.symm)
  have hlm := h'.len.2
  have HH := Lib.hid h'
  have HM := Lib.hid hm
  have HX := Lib.hid hx
  have HL64 := Lib.hid hL
  clear h h' hM hm hL hx
  by_cases hbig : 3 < m
  · have HR : Hid (r = false) := Lib.hid (by rw [← hr, okD]; have := HM.out; simp; omega)
    clear hr
    go_enter Tryz.func213, Tryz.ntmps213
    go_wp2
    refine bodyPost_ret (v := .tuple #[shv zsh, .bool false]) (by simp [results, Tryz.results213, go_sem, shv, zsh]) rfl ⟨by rw [HR.out]; rfl, ?_⟩
    repeat (first | exact Below.refl _ _ | refine Below.setCell ?_ (by first | (simp; done) | (simp; omega)) _ | refine Below.alloc ?_ (by first | (simp; done) | (simp; omega)) _)
  cases hres : inN U.length x with
  | false =>
    have HR : Hid (r = false) := Lib.hid (by rw [← hr, okD, hres]; simp)
    have HS := Lib.hid (fun W hW => HHS.out x HX.out false hres W hW)
    clear hr hres
    go_enter Tryz.func213, Tryz.ntmps213
    go_wp2_with fail
    refine (HS.out _ ?_).mono ?_
    · repeat (first | exact Below.refl _ _ | refine Below.setCell ?_ (by first | (simp; done) | (simp; omega)) _ | refine Below.alloc ?_ (by first | (simp; done) | (simp; omega)) _)
    rintro e w1 ⟨rfl, rfl⟩
    go_wp2
    refine bodyPost_ret (v := .tuple #[shv zsh, .bool false]) (by simp [results, Tryz.results213, go_sem, shv, zsh]) rfl ⟨by rw [HR.out]; rfl, ?_⟩
    repeat (first | exact Below.refl _ _ | refine Below.setCell ?_ (by first | (simp; done) | (simp; omega)) _ | refine Below.alloc ?_ (by first | (simp; done) | (simp; omega)) _)
  | true =>
    have HS := Lib.hid (fun W hW => HHS.out x HX.out true hres W hW)
    have HLR := Lib.hid (fun W hW => HLK.out x HX.out W hW)
    have hat := κU_at hres
    have HRES := Lib.hid hres
    rw [hat] at HLR
    obtain ⟨c, hc⟩ : ∃ c, c = κU U x := ⟨_, rfl⟩
    rw [← hc] at HLR
    have HC := Lib.hid hc
    clear hres hat hc
    go_enter Tryz.func213, Tryz.ntmps213
    go_wp2_with fail
    refine (HS.out _ ?_).mono ?_
    · repeat (first | exact Below.refl _ _ | refine Below.setCell ?_ (by first | (simp; done) | (simp; omega)) _ | refine Below.alloc ?_ (by first | (simp; done) | (simp; omega)) _)
    rintro e w1 ⟨rfl, hw⟩
    have hb1 : Below w.heap.size w w1 := by rw [← hw]; repeat (first | exact Below.refl _ _ | refine Below.alloc ?_ (by first | (simp; done) | (simp; omega)) _)
    have hsz1 : w1.heap.size = w.heap.size + 2 := by rw [← hw]; simp
    have k0 : w1.heap[w.heap.size]? = some (.cells #[.slice A m ca, .int .i64 x] 191 (0, 0)) := by rw [← hw, Below.heap_alloc _ _ _ (by simp)]; exact heap_at _ _ _ rfl
    have k1 : w1.heap[w.heap.size + 1]? = some (.cells #[.int .i64 0, .int .u16 0, .int .u16 0, .int .u16 0, .int .u16 0] 100 (0, 0)) := by rw [← hw]; exact heap_at _ _ _ (by simp)
    have c0 : w1.cell? ⟨w.heap.size, 0, none⟩ = some (.slice A m ca) := cell_of_row w1 _ 0 _ _ _ k0
    have c1 : w1.cell? ⟨w.heap.size, 1, none⟩ = some (.int .i64 x) := cell_of_row w1 _ 1 _ _ _ k0
    have hlr0 := HLR.out w1 hb1
    have K1 := Lib.hid k1
    clear hw k0 k1
    go_wp2_with fail
    go_loopw [32] (fun i wr => ∃ k : Nat, k ≤ m ∧ i = .int .i64 k ∧ Hid (∀ j, j < k → inN U.length (L.getD j 0) = true) ∧
        Hid (wr.heap[w.heap.size + 2]? = some (.cells #[.int .i64 (m : Int), .int .u16 ((plk (κU U) L k 0 : Nat) : Int), .int .u16 ((plk (κU U) L k 1 : Nat) : Int), .int .u16 ((plk (κU U) L k 2 : Nat) : Int), .int .u16 (c : Int)] 100 (0, 0))) ∧
        Hid (wr.heap[w.heap.size + 1]? = some (.cells #[.int .i64 0, .int .u16 0, .int .u16 0, .int .u16 0, .int .u16 0] 100 (0, 0))) ∧ Below w.heap.size w wr) (fun i _ => m - (intOf i).toNat)
    case atStart =>
      refine ⟨0, Nat.zero_le _, rfl, Lib.hid (fun j hj => by omega), Lib.hid ?_, Lib.hid ?_, hb1.alloc (by omega) _⟩
      · exact heap_at _ _ _ hsz1.symm
      · rw [Below.heap_alloc _ _ _ (by omega)]; exact K1.out
    case round =>
      obtain ⟨k, hk, rfl, HIN, HS2, HZ, hbel⟩ := hrel
      by_cases hlt : k < m
      · obtain ⟨ga, oa, rfl, hga, hca⟩ := HH.out.cellAt hlt
        rw [ivs_get L k (by have := HM.out; omega), ← hbel.cell (p := ⟨ga, oa + k, none⟩) hga] at hca
        have hy64 : I64 (L.getD k 0) := HL64.out _ (by rw [List.getD_eq_getElem?_getD, List.getElem?_eq_getElem (by have := HM.out; omega)]; exact List.getElem_mem _)
        have HSK := Lib.hid (fun r hr W hW => HHS.out (L.getD k 0) hy64 r hr W hW)
        have HBE := Lib.hid hbel
        have d0 : wr.cell? ⟨w.heap.size + 1, 0, none⟩ = some (.int .i64 0) := cell_of_row wr _ 0 _ _ _ HZ.out
        have d1 : wr.cell? ⟨w.heap.size + 1, 1, none⟩ = some (.int .u16 0) := cell_of_row wr _ 1 _ _ _ HZ.out
        have d2 : wr.cell? ⟨w.heap.size + 1, 2, none⟩ = some (.int .u16 0) := cell_of_row wr _ 2 _ _ _ HZ.out
        have d3 : wr.cell? ⟨w.heap.size + 1, 3, none⟩ = some (.int .u16 0) := cell_of_row wr _ 3 _ _ _ HZ.out
        have d4 : wr.cell? ⟨w.heap.size + 1, 4, none⟩ = some (.int .u16 0) := cell_of_row wr _ 4 _ _ _ HZ.out
        have hzf : ∀ j, wr.frozen? ⟨w.heap.size + 1, j, none⟩ = false := fun j => frozen_of_row wr _ j _ _ HZ.out
        cases hin : inN U.length (L.getD k 0) with
        | false =>
          have HR : Hid (r = false) := Lib.hid (by rw [← hr]; exact okD_bad (by have := HM.out; omega) hin)
          have HS3 := Lib.hid (HSK.out false hin wr hbel)
          obtain ⟨y, hy⟩ : ∃ y, y = L.getD k 0 := ⟨_, rfl⟩
          rw [← hy] at hca HS3
          have f0 := hzf 0
          have f1 := hzf 1
          have f2 := hzf 2
          have f3 := hzf 3
          have f4 := hzf 4
          clear hin hr hy64 hy hzf c0 c1 hlr0
          go_wp2_with fail
          refine HS3.out.mono ?_
          rintro e w2 ⟨rfl, rfl⟩
          go_wp2
          refine bodyPost_ret (v := .tuple #[shv zsh, .bool false]) (by simp [results, Tryz.results213, go_sem, shv, zsh, d0, d1, d2, d3, d4]) rfl ⟨by rw [HR.out]; rfl, ?_⟩
          repeat (refine Below.setCell ?_ (by first | (simp; done) | (simp; omega)) _)
          exact hbel
        | true =>
          have HS3 := Lib.hid (HSK.out true hin wr hbel)
          have hlk := HLK.out (L.getD k 0) hy64 wr hbel
          rw [κU_at hin] at hlk
          obtain ⟨y, hy⟩ : ∃ y, y = L.getD k 0 := ⟨_, rfl⟩
          rw [← hy] at hca HS3 hlk
          obtain ⟨z, hz⟩ : ∃ z, z = κU U y := ⟨_, rfl⟩
          rw [← hz] at hlk
          have HZZ := Lib.hid hz
          have HYY := Lib.hid hy
          have HIN2 := Lib.hid hin
          have hk3 : k < 3 := by omega
          obtain ⟨v0, hv0⟩ : ∃ v, wr.cell? ⟨w.heap.size + 2, 1 + k, none⟩ = some v := by
            rw [cell_of_row wr _ (1 + k) _ _ _ HS2.out]
            exact ⟨_, Array.getElem?_eq_getElem (by simp; omega)⟩
          have hvf : wr.frozen? ⟨w.heap.size + 2, 1 + k, none⟩ = false := frozen_of_row wr _ (1 + k) _ _ HS2.out
          clear hin hr hy64 hy hz hzf c0 c1 hlr0 d0 d1 d2 d3 d4
          go_wp2_with fail
          refine HS3.out.mono ?_
          rintro e w2 ⟨rfl, rfl⟩
          go_wp2
          go_roundw
          case rel =>
            refine ⟨k + 1, by omega, by go_num, Lib.hid (fun j hj => ?_), Lib.hid ?_, Lib.hid ?_, hbel.setCell (by first | (simp; done) | (simp; omega)) _⟩
            · by_cases e : j = k
              · subst e; rw [← HYY.out]; rw [HYY.out]; exact HIN2.out
              · exact HIN.out j (by omega)
            · rw [row_set HS2.out]
              have hz := HZZ.out
              have hy := HYY.out
              match k, hk3 with
              | 0, _ => simp [plk, hz, hy]
              | 1, _ => simp [plk, hz, hy]
              | 2, _ => simp [plk, hz, hy]
            · rw [Below.heap_setCell _ _ _ _ (by simp)]; exact HZ.out
          case measure => simp [intOf]; omega
      · obtain rfl : k = m := by omega
        have HR : Hid (r = true) := Lib.hid (by rw [← hr]; exact okD_good (by have := HM.out; omega) HRES.out (fun j hj => HIN.out j (by have := HM.out; omega)))
        have HFR : Hid (shpR r (κU U) (L, x) = (k, plk (κU U) L k 0, plk (κU U) L k 1, plk (κU U) L k 2, c)) := Lib.hid (by
          rw [HR.out]
          have := HM.out
          subst this
          rw [HC.out]
          rfl)
        have s0 : wr.cell? ⟨w.heap.size + 2, 0, none⟩ = some (.int .i64 (k : Int)) := cell_of_row wr _ 0 _ _ _ HS2.out
        have s1 : wr.cell? ⟨w.heap.size + 2, 1, none⟩ = some (.int .u16 ((plk (κU U) L k 0 : Nat) : Int)) := cell_of_row wr _ 1 _ _ _ HS2.out
        have s2 : wr.cell? ⟨w.heap.size + 2, 2, none⟩ = some (.int .u16 ((plk (κU U) L k 1 : Nat) : Int)) := cell_of_row wr _ 2 _ _ _ HS2.out
        have s3 : wr.cell? ⟨w.heap.size + 2, 3, none⟩ = some (.int .u16 ((plk (κU U) L k 2 : Nat) : Int)) := cell_of_row wr _ 3 _ _ _ HS2.out
        have s4 : wr.cell? ⟨w.heap.size + 2, 4, none⟩ = some (.int .u16 (c : Int)) := cell_of_row wr _ 4 _ _ _ HS2.out
        have d0 : wr.cell? ⟨w.heap.size + 1, 0, none⟩ = some (.int .i64 0) := cell_of_row wr _ 0 _ _ _ HZ.out
        have d1 : wr.cell? ⟨w.heap.size + 1, 1, none⟩ = some (.int .u16 0) := cell_of_row wr _ 1 _ _ _ HZ.out
        have d2 : wr.cell? ⟨w.heap.size + 1, 2, none⟩ = some (.int .u16 0) := cell_of_row wr _ 2 _ _ _ HZ.out
        have d3 : wr.cell? ⟨w.heap.size + 1, 3, none⟩ = some (.int .u16 0) := cell_of_row wr _ 3 _ _ _ HZ.out
        have d4 : wr.cell? ⟨w.heap.size + 1, 4, none⟩ = some (.int .u16 0) := cell_of_row wr _ 4 _ _ _ HZ.out
        have f0 := frozen_of_row wr _ 0 _ _ HZ.out
        have f1 := frozen_of_row wr _ 1 _ _ HZ.out
        have f2 := frozen_of_row wr _ 2 _ _ HZ.out
        have f3 := frozen_of_row wr _ 3 _ _ HZ.out
        have f4 := frozen_of_row wr _ 4 _ _ HZ.out
        clear hr c0 c1 hlr0
        generalize plk (κU U) L k 0 = p0 at *
        generalize plk (κU U) L k 1 = p1 at *
        generalize plk (κU U) L k 2 = p2 at *
        go_wp2
        refine bodyPost_ret (v := .tuple #[shv (k, p0, p1, p2, c), .bool true]) (by simp [results, Tryz.results213, go_sem, shv, d0, d1, d2, d3, d4]) rfl ⟨by rw [HFR.out, HR.out], ?_⟩
        repeat (refine Below.setCell ?_ (by first | (simp; done) | (simp; omega)) _)
        exact hbel
end Go.Proofs.YtjejdcehlckfhaaGreat.sigi
