/-
  Tst, Sorto, Sigo, Sigu, Termop, Tsw, merged.
-/
import Derived.Test.YtjejdcehlckfhaaGreatTss
import Derived.Test.YtjejdcehlckfhaaGreatSubs
import Derived.Test.YtjejdcehlckfhaaGreatSorti
import Derived.SliceStrings
import Derived.OpenShut
import Derived.Deep.Slices
import Derived.Lib.SmallJoins
import Derived.Test.YtjejdcehlckfhaaGreatSigs
import Derived.ChangeArms
import Derived.Test.YtjejdcehlckfhaaGreatSigt
import Derived.Test.YtjejdcehlckfhaaGreatGd
import Derived.Test.YtjejdcehlckfhaaGreatGf
import Derived.Test.YtjejdcehlckfhaaGreatSige
import Derived.Test.YtjejdcehlckfhaaGreatTermu
/-
  spec.SortsOf.
-/
namespace Go.Proofs.YtjejdcehlckfhaaGreat.tst
open Go.ChangeShapes Go.WideShapes Go.ChangeAt Go.RowKit
open mem dec split strl subs sortn setm sets sortm sortp sorti sortf sortu sortg rowl sigm sigs sigk trm trmv terml termb termt termx termro rowg gram gramn grami formnd formk formr formf formt formm frm tsa tsm tsi tsj tsn tso tss

set_option maxRecDepth 50000 in
set_option maxHeartbeats 8000000 in
/-- spec.SortsOf -/
theorem sSortsOf_any {N lo : Nat} (P : List (List UInt8)) (Q : List (Int × Int)) (O : List OpM) (va vb vc : Value) (t : TermM) (ve : Value) (w : World) (h : HasG w va vb vc P Q O) (ht : HasTs N lo w ve t.args) (hB : Bnd t) (hsz : sizes t.args ≤ 1048576) (z : Bool) (hz : z = true ↔ STerm P Q O t) :
    Calls Tryz.prog 10 #[.agg #[va, vb, vc], aggT t ve] w fun e w' => e = .returned (.int .i64 ((sortsZ P Q O t z : Nat) : Int)) ∧ Below w.heap.size w w' := by
  have HIT := Lib.hid (fun W (hW : Below w.heap.size w W) => sIsTerm_any P Q O va vb vc t ve W (h.below (Nat.le_refl _) hW) (ht.below (Nat.le_refl _) hW) hB hsz z hz)
  have HKD : Hid (z = true → ∀ W, Below w.heap.size w W → Calls Tryz.prog 36 #[.agg #[va, vb, vc], aggT t ve] W fun e w' => e = .returned (.int .i64 ((sortsT (clo P.length (prs Q)) O t : Nat) : Int)) ∧ Below W.heap.size W w') := Lib.hid (fun hzt W hW => by
    have hs := hz.1 hzt
    exact srtC_all P Q O hs.1 N va vb vc t ve W lo (h.below (Nat.le_refl _) hW) (ht.below (Nat.le_refl _) hW) hB hs.2.2)
  have HSZ1 : Hid (z = true → sortsZ P Q O t z = sortsT (clo P.length (prs Q)) O t) := Lib.hid (fun h => by rw [sortsZ, if_pos h])
  have HSZ0 : Hid (z = false → sortsZ P Q O t z = 0) := Lib.hid (fun h => by rw [sortsZ, if_neg (by rw [h]; simp)])
  obtain ⟨sz, hsz'⟩ : ∃ q, q = sortsZ P Q O t z := ⟨_, rfl⟩
  rw [← hsz'] at HSZ1 HSZ0 ⊢
  obtain ⟨sv, hsv⟩ : ∃ q, q = sortsT (clo P.length (prs Q)) O t := ⟨_, rfl⟩
  rw [← hsv] at HSZ1 HKD
  obtain ⟨B, cb, rfl, _⟩ := HasR.shape ht rfl
  obtain ⟨A1, c1, A2, c2, A3, c3, rfl, rfl, rfl, _⟩ := h.shape
  unfold aggT at HIT HKD ⊢
  obtain ⟨q, hq⟩ : ∃ q, q = t.args.length := ⟨_, rfl⟩
  obtain ⟨to, hto⟩ : ∃ q, q = t.op := ⟨_, rfl⟩
  obtain ⟨tn, htn⟩ : ∃ q, q = t.name := ⟨_, rfl⟩
  obtain ⟨ts, hts⟩ : ∃ q, q = t.sort := ⟨_, rfl⟩
  obtain ⟨m1, hm1⟩ : ∃ q, q = P.length := ⟨_, rfl⟩
  obtain ⟨m2, hm2⟩ : ∃ q, q = Q.length := ⟨_, rfl⟩
  obtain ⟨m3, hm3⟩ : ∃ q, q = O.length := ⟨_, rfl⟩
  rw [← hq, ← hto, ← htn, ← hts, ← hm1, ← hm2, ← hm3] at HIT HKD ⊢
  clear h ht hB hsz hz hsz' hsv hq hto htn hts hm1 hm2 hm3
  obtain ⟨W, hW⟩ : ∃ W, W = (w.alloc (.cells #[.slice A1 m1 c1, .slice A2 m2 c2, .slice A3 m3 c3] 40)).alloc (.cells #[.int .i64 to, .string (bstr tn), .int .i64 ts, .slice B q cb] 44) := ⟨_, rfl⟩
  have hb0 : Below w.heap.size w W := by
    rw [hW]
    repeat (first | exact Below.refl _ _ | refine Below.alloc ?_ (by first | (simp; done) | (simp; omega)) _)
  have hX0 : Box34 w.heap.size (w.heap.size + 1) (.slice A1 m1 c1) (.slice A2 m2 c2) (.slice A3 m3 c3) (.int .i64 to) (.string (bstr tn)) (.int .i64 ts) (.slice B q cb) W := by
    rw [hW]
    exact ⟨tsl.box3 (tsl.heap2a _ _ _), box4 (termt.heap_at _ _ _ (by simp))⟩
  have HX := Lib.hid hX0
  have HB0 := Lib.hid hb0
  clear hb0 hX0
  go_enter Tryz.func10, Tryz.ntmps10
  go_wp2_with fail
  rw [← hW]
  clear hW
  refine (HIT.out _ HB0.out).mono ?_
  rintro e w1 ⟨rfl, hb1⟩
  have HB1 := Lib.hid (HB0.out.trans (hb1.mono HB0.out.size))
  have HX1 := Lib.hid (Box34.below HX.out hb1)
  clear hb1
  cases z with
  | false =>
    have HQ : Hid (sz = 0) := Lib.hid (HSZ0.out (by trivial))
    go_wp2
    go_ret
    exact ⟨ret_int (by rw [HQ.out]; rfl), HB1.out⟩
  | true =>
    have HQ : Hid (sz = sv) := Lib.hid (HSZ1.out (by trivial))
    obtain ⟨⟨x0, x1, x2⟩, y0, y1, y2, y3⟩ := HX1.out
    go_wp2_with fail
    refine (HKD.out (by trivial) _ HB1.out).mono ?_
    rintro e w2 ⟨rfl, hb2⟩
    have HB2 := Lib.hid (HB1.out.trans (hb2.mono HB1.out.size))
    clear hb2 x0 x1 x2 y0 y1 y2 y3
    go_wp2
    go_ret
    exact ⟨ret_int (by rw [HQ.out]), HB2.out⟩
end Go.Proofs.YtjejdcehlckfhaaGreat.tst
/-
  SORTS THAT CAME IN: from what the row's hypothesis reads to 'HasS'.
-/
set_option maxRecDepth 100000
namespace Go.Proofs.YtjejdcehlckfhaaGreat.sorto
open Go.Joins Go.ChangeShapes Go.WideShapes Go.ChangeAt Go.RowKit Go.Deep
open mem split strl subs sorti

theorem i64_bounds {x : Int} (h : (Lit.int .i64 x).wf = true) : -9223372036854775808 ≤ x ∧ x ≤ 9223372036854775807 := by
  simp only [Lit.wf, Bool.and_eq_true, decide_eq_true_eq] at h
  exact h

/-- strings, from the reading of a slice's header -/
theorem strings_of {H : Type} {enc : TypeId × Value → H} {W : World} {base n : Nat} {v : Value} {y : DataW H × List MemPlace}
    (hf : DataW.trod enc Tryz.prog W base (fun _ => true) true n 22 [v] = some y) :
    ∃ P : List (List UInt8), Has W v (ssv P) ∧ ∀ k, k < P.length → (P.getD k []).length ≤ maxLen := by
  rcases open_strings Tryz.underlying22 Tryz.underlying9 (by kernel_rfl) hf with ⟨hcs, hx⟩ | ⟨a, len, cap, ss, hcs, _, hl, hm, hz, hx, hcell, hsz⟩
  · simp at hcs
    subst hcs
    exact ⟨[], ⟨none, 0, rfl, Nat.le_refl _, by unfold maxLen; omega, fun j u hu => by simp [ssv] at hu⟩, fun k hk => by simp at hk⟩
  · simp at hcs
    subst hcs
    simp only [if_true] at hz
    have hlen : ((ss.take len).map (·.data.toList)).length = len := by simp; omega
    refine ⟨(ss.take len).map (·.data.toList), ⟨some a, cap, by rw [ssv_len, hlen], by rw [ssv_len, hlen]; exact hl, hm, fun j u hu => ?_⟩, fun k hk => ?_⟩
    · have hj : j < len := by have := (List.getElem?_eq_some_iff.1 hu).1; rw [ssv_len, hlen] at this; exact this
      have hc0 := hcell 0 (by omega)
      have hcj := hcell j (by omega)
      obtain ⟨b, o, sp⟩ := a
      have hsp : sp = none := by simpa [Addr.add] using World.cell?_spot hc0
      subst hsp
      have hu' : u = .string (ss.getD j ByteArray.empty) := by
        simp only [ssv, List.map_map, List.getElem?_map, List.getElem?_take, if_pos hj, List.getElem?_eq_getElem (show j < ss.length by omega)] at hu
        simp only [Option.map_some, Option.some.injEq, Function.comp] at hu
        rw [← hu, bstr_data]
        simp [List.getD, List.getElem?_eq_getElem (show j < ss.length by omega)]
      subst hu'
      refine ⟨b, o, rfl, World.block_lt_of_cell? W _ hc0, ?_⟩
      rw [Addr.add_lit] at hcj
      exact hcj
    · rw [hlen] at hk
      have h1 : k < ss.length := by omega
      have : ((ss.take len).map (·.data.toList)).getD k [] = ss[k].data.toList := by
        simp [List.getD, hk, List.getElem?_eq_getElem h1]
      rw [this]
      exact hsz _ (List.getElem_mem h1)

/-- pairs, from the reading of a slice's header -/
theorem pairs_of {H : Type} {enc : TypeId × Value → H} {W : World} {base n : Nat} {v : Value} {y : DataW H × List MemPlace}
    (hf : DataW.trod enc Tryz.prog W base (fun _ => true) true n 23 [v] = some y) :
    ∃ Q : List (Int × Int), HasP W v Q ∧ In64 Q := by
  rcases open_slice Tryz.underlying23 hf with ⟨hcs, hx⟩ | ⟨a, len, cap, m, k, D, Pl, hcs, hb, hl, hm, hmm, hx, hi⟩
  · simp at hcs
    subst hcs
    exact ⟨[], ⟨none, 0, rfl, Nat.le_refl _, by unfold maxLen; omega, fun j hj => by simp at hj⟩, fun p hp => by simp at hp⟩
  · simp at hcs
    subst hcs
    simp only [if_true] at hmm
    subst hmm
    have hC : Tryz.prog.cellsOf 180 = 2 := by kernel_rfl
    have hCi : Tryz.prog.cellsOf 3 = 1 := by kernel_rfl
    have key : ∀ j, j < len → ∃ p : Int × Int, W.cell? (a.add (j * 2)) = some (.int .i64 p.1) ∧ W.cell? ((a.add (j * 2)).add 1) = some (.int .i64 p.2) ∧
        (-9223372036854775808 ≤ p.1 ∧ p.1 ≤ 9223372036854775807) ∧ (-9223372036854775808 ≤ p.2 ∧ p.2 ≤ 9223372036854775807) := by
      intro j hj
      obtain ⟨cs', hc, ht'⟩ := hi j (by omega)
      rw [hC] at hc
      obtain ⟨y0, y1, n', hy, hlen, h0, h1⟩ := trod_struct2 Tryz.underlying180 ht'
      obtain ⟨_, hcl, hat⟩ := World.cells?_some hc
      have hc0 := hat 0 (by omega)
      have hc1 := hat 1 (by omega)
      obtain ⟨c0, c1, rfl⟩ : ∃ c0 c1, cs' = [c0, c1] := by
        match cs', hcl with
        | [c0, c1], _ => exact ⟨c0, c1, rfl⟩
      rw [hCi] at h0 h1
      simp only [List.drop_zero, List.take_succ_cons, List.take_zero, List.drop_succ_cons] at h0 h1
      obtain ⟨x0, e0, _, w0⟩ := DataW.trod_int Tryz.underlying3 h0
      obtain ⟨x1, e1, _, w1⟩ := DataW.trod_int Tryz.underlying3 h1
      simp only [List.cons.injEq, and_true] at e0 e1
      subst e0 e1
      have b0 := i64_bounds w0
      have b1 := i64_bounds w1
      refine ⟨(x0, x1), ?_, ?_, b0, b1⟩
      · have : (a.add (j * 2)).add 0 = a.add (j * 2) := by simp [Addr.add]
        rw [this] at hc0
        simpa using hc0
      · simpa using hc1
    let f : Nat → Int × Int := fun j => if h : j < len then Classical.choose (key j h) else (0, 0)
    have hfj : ∀ j, j < len → W.cell? (a.add (j * 2)) = some (.int .i64 (f j).1) ∧ W.cell? ((a.add (j * 2)).add 1) = some (.int .i64 (f j).2) ∧
        (-9223372036854775808 ≤ (f j).1 ∧ (f j).1 ≤ 9223372036854775807) ∧ (-9223372036854775808 ≤ (f j).2 ∧ (f j).2 ≤ 9223372036854775807) := by
      intro j hj
      have := Classical.choose_spec (key j hj)
      simpa only [f, dif_pos hj] using this
    have hget : ∀ j, j < len → ((List.range len).map f).getD j (0, 0) = f j := by
      intro j hj
      simp [List.getD, hj]
    refine ⟨(List.range len).map f, ⟨some a, m, by simp, by simpa using hl, hm, fun j hj => ?_⟩, fun p hp => ?_⟩
    · have hj' : j < len := by simpa using hj
      obtain ⟨k0, k1, _⟩ := hfj j hj'
      obtain ⟨b, o, sp⟩ := a
      have hsp : sp = none := by
        have := World.cell?_spot (hfj 0 (by omega)).1
        simpa [Addr.add] using this
      subst hsp
      rw [Addr.add_lit] at k0 k1
      rw [Addr.add_lit] at k1
      refine ⟨b, o, rfl, World.block_lt_of_cell? W _ k0, ?_, ?_⟩
      · rw [hget j hj']; exact k0
      · rw [hget j hj']; exact k1
    · obtain ⟨j, hj, rfl⟩ := List.mem_map.1 hp
      exact (hfj j (by simpa using hj)).2.2

/-- a Sorts that came in -/
theorem has_sorts {H : Type} {enc : TypeId × Value → H} {W : World} {base : Nat} {v : Value} {d : DataW H} {p : List MemPlace}
    (hval : Value.okWide Tryz.prog W .any base 25 v) (hd : DataW.Trod enc Tryz.prog W 0 (fun _ => true) true 25 v d p) :
    ∃ va vb P Q, v = .agg #[va, vb] ∧ HasS W va vb P Q := by
  obtain ⟨va, vb, y0, y1, n, rfl, _, _, h0, h1⟩ := open_agg2 Tryz.underlying25 (by kernel_rfl) (by kernel_rfl) hval hd
  obtain ⟨P, hP, hPl⟩ := strings_of h0
  obtain ⟨Q, hQ, hQ64⟩ := pairs_of h1
  exact ⟨va, vb, P, Q, rfl, hP, hQ, hPl, hQ64⟩
end Go.Proofs.YtjejdcehlckfhaaGreat.sorto
/-
  SIGNATURES THAT CAME IN: from what the row's hypothesis reads to 'HasG'.
-/
set_option maxRecDepth 100000
namespace Go.Proofs.YtjejdcehlckfhaaGreat.sigo
open Go.Joins Go.ChangeShapes Go.WideShapes Go.ChangeAt Go.RowKit Go.Deep
open mem split strl subs setm sorti sorto rowl sigm sigs

section
variable {H : Type} {enc : TypeId × Value → H} {W : World} {base : Nat}

theorem trod5 {t : TypeId} {f0 f1 f2 f3 f4 : Field} {fuel : Nat} {cs : List Value} {x : DataW H × List MemPlace} {sp : Nat → Bool} {held : Bool} (ht : Tryz.prog.underlying t = some (.struct #[f0, f1, f2, f3, f4])) (h : DataW.trod enc Tryz.prog W base sp held fuel t cs = some x) :
    ∃ (y0 y1 y2 y3 y4 : DataW H × List MemPlace) (n : Nat), cs.length = Tryz.prog.cellsOf t ∧ DataW.trod enc Tryz.prog W base sp held n f0.type ((cs.drop f0.offset).take (Tryz.prog.cellsOf f0.type)) = some y0 ∧
      DataW.trod enc Tryz.prog W base sp held n f1.type ((cs.drop f1.offset).take (Tryz.prog.cellsOf f1.type)) = some y1 ∧ DataW.trod enc Tryz.prog W base sp held n f2.type ((cs.drop f2.offset).take (Tryz.prog.cellsOf f2.type)) = some y2 ∧
      DataW.trod enc Tryz.prog W base sp held n f3.type ((cs.drop f3.offset).take (Tryz.prog.cellsOf f3.type)) = some y3 ∧ DataW.trod enc Tryz.prog W base sp held n f4.type ((cs.drop f4.offset).take (Tryz.prog.cellsOf f4.type)) = some y4 := by
  obtain ⟨xs, n, _, rfl, hl, hlen, hf⟩ := DataW.trod_struct ht h
  match xs, hlen with
  | [y0, y1, y2, y3, y4], _ => exact ⟨y0, y1, y2, y3, y4, n, hl, by simpa using hf 0 f0 rfl, by simpa using hf 1 f1 rfl, by simpa using hf 2 f2 rfl, by simpa using hf 3 f3 rfl, by simpa using hf 4 f4 rfl⟩

/-- a row, from the reading of each of its elements -/
theorem row_of {α : Type} [Inhabited α] {R : Reads α} {k : Nat} (hk : 0 < k) {a : Addr} {len m : Nat} (hl : len ≤ m) (hm : m ≤ maxLen)
    (h : ∀ j, j < len → ∃ (x : α) (cs : List Value), (∀ i, i < k → W.cell? ((a.add (j * k)).add i) = some (cs.getD i undef)) ∧ R 0 W cs x) :
    ∃ L : List α, HasR R k 0 W (.slice (some a) len m) L := by
  let f : Nat → α := fun j => if h' : j < len then Classical.choose (h j h') else default
  have hf : ∀ j, j < len → ∃ cs : List Value, (∀ i, i < k → W.cell? ((a.add (j * k)).add i) = some (cs.getD i undef)) ∧ R 0 W cs (f j) := by
    intro j hj
    have := Classical.choose_spec (h j hj)
    simpa only [f, dif_pos hj] using this
  refine ⟨(List.range len).map f, some a, m, by simp, by simpa using hl, hm, fun j hj => ?_⟩
  have hj' : j < len := by simpa using hj
  obtain ⟨cs, h1, h2⟩ := hf j hj'
  have hget : ((List.range len).map f).getD j default = f j := by simp [List.getD, hj']
  obtain ⟨cs0, h01, _⟩ := hf 0 (by omega)
  have hc0 := h01 0 hk
  obtain ⟨b, o, sp⟩ := a
  have hsp : sp = none := by simpa [Addr.add] using World.cell?_spot hc0
  subst hsp
  have hcj : ∀ i, i < k → W.cell? ⟨b, o + j * k + i, none⟩ = some (cs.getD i undef) := by
    intro i hi
    have := h1 i hi
    rw [Addr.add_lit, Addr.add_lit] at this
    exact this
  exact ⟨b, o, cs, rfl, Nat.zero_le _, World.block_lt_of_cell? W _ (hcj 0 hk), hcj, by rw [hget]; exact h2⟩

/-- numbers, from the reading of a slice's header -/
theorem ints_of {n : Nat} {v : Value} {y : DataW H × List MemPlace} (hf : DataW.trod enc Tryz.prog W base (fun _ => true) true n 88 [v] = some y) :
    ∃ L : List Int, HasL 0 W v (ivs L) ∧ ∀ x ∈ L, I64 x := by
  rcases open_ints Tryz.underlying88 Tryz.underlying3 (by kernel_rfl) hf with ⟨hcs, hx⟩ | ⟨a, len, cap, zs, hcs, _, hl, hm, hz, hx, hcell, hwz⟩
  · simp at hcs
    subst hcs
    exact ⟨[], ⟨none, 0, rfl, Nat.le_refl _, by unfold maxLen; omega, fun j u hu => by simp [ivs] at hu⟩, fun x hx => by simp at hx⟩
  · simp at hcs
    subst hcs
    simp only [if_true] at hz
    have hlen : (zs.take len).length = len := by simp; omega
    refine ⟨zs.take len, ⟨some a, cap, by rw [ivs_len, hlen], by rw [ivs_len, hlen]; exact hl, hm, fun j u hu => ?_⟩, fun x hx => i64_bounds (hwz x (List.mem_of_mem_take hx))⟩
    have hj : j < len := by have := (List.getElem?_eq_some_iff.1 hu).1; rw [ivs_len, hlen] at this; exact this
    have hc0 := hcell 0 (by omega)
    have hcj := hcell j (by omega)
    obtain ⟨b, o, sp⟩ := a
    have hsp : sp = none := by simpa [Addr.add] using World.cell?_spot hc0
    subst hsp
    have hu' : u = .int .i64 (zs.getD j 0) := by
      simp only [ivs, List.getElem?_map, List.getElem?_take, if_pos hj, List.getElem?_eq_getElem (show j < zs.length by omega)] at hu
      simp only [Option.map_some, Option.some.injEq] at hu
      rw [← hu]
      simp [List.getD, List.getElem?_eq_getElem (show j < zs.length by omega)]
    subst hu'
    refine ⟨b, o, rfl, Nat.zero_le _, World.block_lt_of_cell? W _ hc0, ?_⟩
    rw [Addr.add_lit] at hcj
    exact hcj

/-- declarations, from the reading of a slice's header -/
theorem decls_of {n : Nat} {v : Value} {y : DataW H × List MemPlace} (hf : DataW.trod enc Tryz.prog W base (fun _ => true) true n 125 [v] = some y) :
    ∃ D : List (List Int × Int), HasD 0 W v D := by
  rcases open_slice Tryz.underlying125 hf with ⟨hcs, hx⟩ | ⟨a, len, cap, m, k, E, Pl, hcs, hb, hl, hm, hmm, hx, hi⟩
  · simp at hcs
    subst hcs
    exact ⟨[], HasR.nil _ _ _ (by unfold maxLen; omega) _⟩
  · simp at hcs
    subst hcs
    simp only [if_true] at hmm
    subst hmm
    have hC : Tryz.prog.cellsOf 217 = 2 := by kernel_rfl
    have hCi : Tryz.prog.cellsOf 3 = 1 := by kernel_rfl
    have hCs : Tryz.prog.cellsOf 88 = 1 := by kernel_rfl
    refine row_of (by omega) hl hm (fun j hj => ?_)
    obtain ⟨cs', hc, ht'⟩ := hi j (by omega)
    rw [hC] at hc
    obtain ⟨y0, y1, n', hy, hlen, h0, h1⟩ := trod_struct2 Tryz.underlying217 ht'
    obtain ⟨_, hcl, hat⟩ := World.cells?_some hc
    have hc0 := hat 0 (by omega)
    have hc1 := hat 1 (by omega)
    obtain ⟨c0, c1, rfl⟩ : ∃ c0 c1, cs' = [c0, c1] := by
      match cs', hcl with
      | [c0, c1], _ => exact ⟨c0, c1, rfl⟩
    rw [hCs] at h0
    rw [hCi] at h1
    simp only [List.drop_zero, List.take_succ_cons, List.take_zero, List.drop_succ_cons] at h0 h1
    obtain ⟨L, hL, hL64⟩ := ints_of h0
    obtain ⟨x1, e1, _, w1⟩ := DataW.trod_int Tryz.underlying3 h1
    simp only [List.cons.injEq, and_true] at e1
    subst e1
    refine ⟨(L, x1), [c0, .int .i64 x1], fun i hi => ?_, c0, rfl, hL, i64_bounds w1, hL64⟩
    match i, hi with
    | 0, _ => rw [hc0]; rfl
    | 1, _ => rw [hc1]; rfl

/-- operators, from the reading of a slice's header -/
theorem ops_of {n : Nat} {v : Value} {y : DataW H × List MemPlace} (hf : DataW.trod enc Tryz.prog W base (fun _ => true) true n 26 [v] = some y) :
    ∃ O : List OpM, HasO 0 W v O := by
  rcases open_slice Tryz.underlying26 hf with ⟨hcs, hx⟩ | ⟨a, len, cap, m, k, E, Pl, hcs, hb, hl, hm, hmm, hx, hi⟩
  · simp at hcs
    subst hcs
    exact ⟨[], HasR.nil _ _ _ (by unfold maxLen; omega) _⟩
  · simp at hcs
    subst hcs
    simp only [if_true] at hmm
    subst hmm
    have hC : Tryz.prog.cellsOf 127 = 5 := by kernel_rfl
    have hCi : Tryz.prog.cellsOf 3 = 1 := by kernel_rfl
    have hCs : Tryz.prog.cellsOf 9 = 1 := by kernel_rfl
    have hCb : Tryz.prog.cellsOf 4 = 1 := by kernel_rfl
    have hCd : Tryz.prog.cellsOf 125 = 1 := by kernel_rfl
    refine row_of (by omega) hl hm (fun j hj => ?_)
    obtain ⟨cs', hc, ht'⟩ := hi j (by omega)
    rw [hC] at hc
    obtain ⟨y0, y1, y2, y3, y4, n', hlen, h0, h1, h2, h3, h4⟩ := trod5 Tryz.underlying127 ht'
    obtain ⟨_, hcl, hat⟩ := World.cells?_some hc
    have hc0 := hat 0 (by omega)
    have hc1 := hat 1 (by omega)
    have hc2 := hat 2 (by omega)
    have hc3 := hat 3 (by omega)
    have hc4 := hat 4 (by omega)
    obtain ⟨c0, c1, c2, c3, c4, rfl⟩ : ∃ c0 c1 c2 c3 c4, cs' = [c0, c1, c2, c3, c4] := by
      match cs', hcl with
      | [c0, c1, c2, c3, c4], _ => exact ⟨c0, c1, c2, c3, c4, rfl⟩
    rw [hCs] at h0
    rw [hCd] at h1
    rw [hCb] at h2 h3
    rw [hCi] at h4
    simp only [List.drop_zero, List.take_succ_cons, List.take_zero, List.drop_succ_cons] at h0 h1 h2 h3 h4
    obtain ⟨s, e0, _, hs⟩ := DataW.trod_string Tryz.underlying9 h0
    obtain ⟨D, hD⟩ := decls_of h1
    obtain ⟨p, e2, _⟩ := DataW.trod_bool Tryz.underlying4 h2
    obtain ⟨q, e3, _⟩ := DataW.trod_bool Tryz.underlying4 h3
    obtain ⟨x4, e4, _, w4⟩ := DataW.trod_int Tryz.underlying3 h4
    simp only [List.cons.injEq, and_true] at e0 e2 e3 e4
    subst e0 e2 e3 e4
    refine ⟨⟨s.data.toList, D, p, q, x4⟩, [.string s, c1, .bool p, .bool q, .int .i64 x4], fun i hi => ?_, c1, by rw [bstr_data], hD, by rw [← bstr_size, bstr_data]; exact hs, i64_bounds w4⟩
    match i, hi with
    | 0, _ => rw [hc0]; rfl
    | 1, _ => rw [hc1]; rfl
    | 2, _ => rw [hc2]; rfl
    | 3, _ => rw [hc3]; rfl
    | 4, _ => rw [hc4]; rfl
end
/-- a Signature that came in -/
theorem has_sig {H : Type} {enc : TypeId × Value → H} {W : World} {base : Nat} {v : Value} {d : DataW H} {p : List MemPlace}
    (hval : Value.okWide Tryz.prog W .any base 28 v) (hd : DataW.Trod enc Tryz.prog W 0 (fun _ => true) true 28 v d p) :
    ∃ va vb vc P Q O, v = .agg #[va, vb, vc] ∧ HasG W va vb vc P Q O := by
  have hC : Tryz.prog.cellsOf 28 = 3 := by kernel_rfl
  have hCs : Tryz.prog.cellsOf 25 = 2 := by kernel_rfl
  have hCo : Tryz.prog.cellsOf 26 = 1 := by kernel_rfl
  have hCn : Tryz.prog.cellsOf 22 = 1 := by kernel_rfl
  have hCp : Tryz.prog.cellsOf 23 = 1 := by kernel_rfl
  obtain ⟨cs, rfl, hsz⟩ := okWide_struct Tryz.underlying28 hval
  obtain ⟨c0, c1, c2, rfl⟩ := array3 (hsz.trans hC)
  obtain ⟨fuel, hf⟩ := hd
  obtain ⟨y0, y1, n, hx, _, h0, h1⟩ := trod_struct2 Tryz.underlying28 hf
  rw [hCs] at h0
  rw [hCo] at h1
  simp only [Value.cells, List.drop_zero, List.take_succ_cons, List.take_zero, List.drop_succ_cons] at h0 h1
  obtain ⟨z0, z1, n', hx', _, g0, g1⟩ := trod_struct2 Tryz.underlying25 h0
  rw [hCn] at g0
  rw [hCp] at g1
  simp only [List.drop_zero, List.take_succ_cons, List.take_zero, List.drop_succ_cons] at g0 g1
  obtain ⟨P, hP, hPl⟩ := strings_of g0
  obtain ⟨Q, hQ, hQ64⟩ := pairs_of g1
  obtain ⟨O, hO⟩ := ops_of h1
  exact ⟨c0, c1, c2, P, Q, O, rfl, ⟨hP, hQ, hPl, hQ64⟩, hO⟩
end Go.Proofs.YtjejdcehlckfhaaGreat.sigo
/-
  CONTRACTS OF THE LAWS' OWN FUNCTIONS ON OPERATORS AND SIGNATURES: toOpS, toSignature.
-/
namespace Go.Proofs.YtjejdcehlckfhaaGreat.sigu
open Go.ChangeShapes Go.WideShapes Go.ChangeAt Go.RowKit
open mem split strl join subs setm sortp sorti rowl sigm sigs sigt

theorem setCell_own5 {w : World} {g n cap base : Nat} {e : TypeId} {xs : List Value} (h : w.ownsRow base e 5 (.slice (some ⟨g, 0, none⟩) n cap) n xs) (j : Nat) (u0 u1 u2 u3 u4 : Value) :
    (((((w.setCell ⟨g, j, none⟩ u0).setCell ⟨g, j + 1, none⟩ u1).setCell ⟨g, j + 2, none⟩ u2).setCell ⟨g, j + 3, none⟩ u3).setCell ⟨g, j + 4, none⟩ u4).ownsRow base e 5 (.slice (some ⟨g, 0, none⟩) n cap) n (((((xs.set j u0).set (j + 1) u1).set (j + 2) u2).set (j + 3) u3).set (j + 4) u4) :=
  setCell_own (setCell_own (setCell_own (setCell_own (setCell_own h j u0) (j + 1) u1) (j + 2) u2) (j + 3) u3) (j + 4) u4
theorem info_op : (Tryz.prog.info? 97).map (fun i => (i.zero, i.size, i.bytes)) = some (some (.agg #[.string { data := #[] }, .slice none 0 0, .bool false, .bool false, .int .i64 0]), 5, 56) := by kernel_rfl
set_option maxHeartbeats 1000000 in
/-- laws.toOpS -/
theorem toOpS_any (O : List OpM) (hO : SmO O) (v : Value) (w : World) {lo : Nat} (h : HasO lo w v O) :
    Calls Tryz.prog 38 #[v] w fun e w' => ∃ v', e = .returned v' ∧ HasO w.heap.size w' v' O ∧ Below w.heap.size w w' := by
  obtain ⟨n, hn⟩ : ∃ n, n = O.length := ⟨_, rfl⟩
  obtain ⟨A, c, rfl, h⟩ := HasR.shape h hn.symm
  obtain ⟨i0, hi, hz0, hz1, hz2⟩ := info_parts info_op
  have hn2 : n ≤ 1048576 := by have := hO.1; omega
  have HH := Lib.hid h
  have HN := Lib.hid hn
  have HD := Lib.hid hO.2
  clear h hn hO
  go_enter Tryz.func38, Tryz.ntmps38
  go_wp2_with (at_make; refine wpList_make_full _ rfl _ _ 38 rfl w.heap.size 97 i0 _ 5 Tryz.underlying38 hi hz0 hz1 _ _ _ _ n rfl rfl rfl rfl (by rw [hz2]; omega) (by unfold maxLen; omega) (Nat.le_refl _) ?_)
  intro w1 hown hgrow
  have hsz1 : w.heap.size < w1.heap.size := by
    rcases hown.2 with ⟨hv, _⟩ | ⟨g, cap, cur, hv, hb, hg, _⟩
    · cases hv
    · have := (Array.getElem?_eq_some_iff.1 hg).1; omega
  go_wp2
  go_loopw [4] (fun i wr => ∃ (j : Nat) (ys : List Value), j ≤ n ∧ i = .int .i64 j ∧ wr.ownsRow w.heap.size 97 5 (.slice (some ⟨w.heap.size, 0, none⟩) n n) n ys ∧
      Hid (∀ i, i < j → ∃ cs, (∀ q, q < 5 → ys[i * 5 + q]? = some (cs.getD q undef)) ∧ RO (w.heap.size + 1) wr cs (O.getD i default)) ∧ w.heap.size < wr.heap.size ∧ Below w.heap.size w wr) (fun i _ => n - (intOf i).toNat)
  case atStart => exact ⟨0, _, Nat.zero_le _, rfl, hown, Lib.hid (fun i hi => by omega), hsz1, (Below.refl _ _).grown hgrow (Nat.le_refl _) (by intro k h; cases h)⟩
  case round =>
    obtain ⟨j, ys, hj, rfl, hown, HY, hsz, hbel⟩ := hrel
    by_cases hlt : j < n
    · obtain ⟨g, o, A2, c2, rfl, _, hg, hc0, hc1, hc2, hc3, hc4, hh, hnl, hi2⟩ := op_at HH.out hlt
      have hL := HD.out j (by have := HN.out; omega)
      rw [← hbel.cell (p := ⟨g, o + j * 5, none⟩) hg] at hc0
      rw [← hbel.cell (p := ⟨g, o + j * 5 + 1, none⟩) hg] at hc1
      rw [← hbel.cell (p := ⟨g, o + j * 5 + 2, none⟩) hg] at hc2
      rw [← hbel.cell (p := ⟨g, o + j * 5 + 3, none⟩) hg] at hc3
      rw [← hbel.cell (p := ⟨g, o + j * 5 + 4, none⟩) hg] at hc4
      have hh2 := hh.below RD_steady (Nat.le_refl _) hbel
      obtain ⟨⟨nm, D, a, b, u⟩, hd⟩ : ∃ d, d = O.getD j default := ⟨_, rfl⟩
      rw [← hd] at hc0 hc1 hc2 hc3 hc4 hh2 hL hnl hi2
      have HL := Lib.hid hh2
      have HX := Lib.hid hd
      have HI := Lib.hid (And.intro hnl hi2)
      have HOWN := Lib.hid hown
      have HSM := Lib.hid hL
      clear hh hh2 hd hown hi2 hnl hL
      go_wp2_with fail
      refine (toOp_any nm D HSM.out _ a b u _ HL.out).mono ?_
      rintro e w2 ⟨v2, rfl, hv2, hb2⟩
      obtain ⟨A3, c3, rfl, hv3⟩ := HasR.shape hv2 rfl
      have HO2 := Lib.hid (own_below HOWN.out hb2)
      have HV := Lib.hid hv3
      have HB2 := Lib.hid hb2
      obtain ⟨⟨v0, hw0⟩, hf0⟩ := own_get HO2.out (i := j * 5) (by omega)
      obtain ⟨⟨v1, hw1⟩, hf1⟩ := own_get HO2.out (i := j * 5 + 1) (by omega)
      obtain ⟨⟨v2, hw2⟩, hf2⟩ := own_get HO2.out (i := j * 5 + 2) (by omega)
      obtain ⟨⟨v3, hw3⟩, hf3⟩ := own_get HO2.out (i := j * 5 + 3) (by omega)
      obtain ⟨⟨v4, hw4⟩, hf4⟩ := own_get HO2.out (i := j * 5 + 4) (by omega)
      clear hv2 hv3
      go_wp2
      go_roundw
      case rel =>
        refine ⟨j + 1, _, by omega, by go_num, setCell_own5 HO2.out (j * 5) _ _ _ _ _, Lib.hid ?_, by simp [World.setCell]; have := hb2.size; omega, ?_⟩
        · have hlen : ys.length = n * 5 := by have := HOWN.out.1; omega
          intro i hi
          by_cases hij : i = j
          · subst hij
            refine ⟨[.string (bstr nm), .slice A3 D.length c3, .bool a, .bool b, .int .i64 u], set5_new (by omega), _, by rw [← HX.out], ?_, ?_⟩
            · rw [← HX.out]
              repeat (refine HasR.kept RD_steady ?_ (Kept.set (by simp) _))
              exact HV.out.mono RD_steady (by omega)
            · rw [← HX.out]; exact HI.out
          · obtain ⟨cs, h1, h2⟩ := HY.out i (by omega)
            refine ⟨cs, fun q hq => ?_, ?_⟩
            · rw [set5_old (by omega)]; exact h1 q hq
            · repeat (refine RO_steady.kept ?_ (Kept.set (by simp) _))
              exact RO_steady.kept h2 (Kept.below HB2.out (Nat.le_refl _))
        · repeat (refine Below.setCell ?_ (by simp) _)
          exact hbel.trans (HB2.out.mono hbel.size)
      case measure => simp [intOf]; omega
    · obtain rfl : j = n := by omega
      have HW : Hid (HasO w.heap.size wr (.slice (some ⟨w.heap.size, 0, none⟩) j j) O) := Lib.hid (HasR.of_own hown HN.out.symm (fun i hi => by
        obtain ⟨cs, h1, h2⟩ := HY.out i hi
        exact ⟨cs, h1, RO_steady.mono h2 (by omega)⟩))
      clear hown
      go_wp2
      go_ret
      exact ⟨_, rfl, HW.out, hbel⟩
/-- laws.toSignature -/
theorem toSignature_any (P : List (List UInt8)) (Q : List (Int × Int)) (O : List OpM) (hS : (Small P ∧ Q.length ≤ 1048576) ∧ SmO O) (va vb vc : Value) (w : World) (h : HasG w va vb vc P Q O) :
    Calls Tryz.prog 11 #[.agg #[va, vb, vc]] w fun e w' => ∃ v1 v2 v3, e = .returned (.agg #[v1, v2, v3]) ∧ HasG w' v1 v2 v3 P Q O ∧ Below w.heap.size w w' := by
  obtain ⟨A, ca, B, cb, C, cc, rfl, rfl, rfl, hl1, hl2, hl3, h'⟩ := h.shape
  have HSA := Lib.hid (fun W (hW : Below w.heap.size w W) => toSorts_own P hS.1.1.1 Q hS.1.2 _ _ W (h'.below (Nat.le_refl _) hW).s.a (h'.below (Nat.le_refl _) hW).s.b)
  have HSB := Lib.hid (fun W (hW : Below w.heap.size w W) => toOpS_any O hS.2 _ W (h'.below (Nat.le_refl _) hW).o)
  have HSS := Lib.hid h'.s
  obtain ⟨n, hn⟩ : ∃ n, n = O.length := ⟨_, rfl⟩
  have HN := Lib.hid hn
  rw [← hn] at HSB hl3 ⊢
  clear h h' hn hS
  go_enter Tryz.func11, Tryz.ntmps11
  go_wp2_with fail
  refine (HSA.out _ ?_).mono ?_
  · repeat (first | exact Below.refl _ _ | refine Below.alloc ?_ (by first | (simp; done) | (simp; omega)) _)
  rintro e w1 ⟨v1, v2, rfl, hw1, hw2, hb1⟩
  obtain ⟨A1, c1, rfl, _⟩ := own_slice hw1
  obtain ⟨A2, c2, rfl, _⟩ := own_slice hw2
  have HO1 := Lib.hid (own_down hw1 (base' := w.heap.size + 1 + 1 + 1) (by simp))
  have HO2 := Lib.hid (own_down hw2 (base' := w.heap.size + 1 + 1 + 1) (by simp))
  have hk1 : w1.heap[w.heap.size + 1]? = some (.cells #[.slice none 0 0, .slice none 0 0, .slice none 0 0] 40 (0, 0)) := by rw [hb1.block _ (by simp)]; exact (Below.heap_alloc _ _ _ (by simp)).trans (heap_at _ _ _ (by simp))
  have HK1 := Lib.hid hk1
  have hbw : Below w.heap.size w w1 := ((((Below.refl _ _).alloc (Nat.le_refl _) _).alloc (by simp) _).alloc (by simp; omega) _).trans (hb1.mono (by simp; omega))
  obtain ⟨hc1, hf1⟩ := bcell hb1
  have hz : w.heap.size + 2 < w1.heap.size := by have := hb1.size; simp at this; omega
  clear hw1 hw2 hk1 hb1
  go_wp2_with fail
  refine (HSB.out _ ?_).mono ?_
  · exact (hbw.setCell (by simp; omega) _).setCell (by simp; omega) _
  rintro e w2 ⟨v3, rfl, hw3, hb2⟩
  obtain ⟨A3, c3, rfl, hh3⟩ := HasR.shape hw3 HN.out.symm
  have HV3 := Lib.hid (hh3.mono RO_steady (lo' := w.heap.size + 1 + 1 + 1) (by simp [World.setCell]; omega))
  have hk2 : w2.heap[w.heap.size + 1]? = some (.cells #[.slice none 0 0, .slice none 0 0, .slice none 0 0] 40 (0, 0)) := by
    rw [hb2.block _ (by simp [World.setCell]; omega), Below.heap_setCell _ _ _ _ (by simp), Below.heap_setCell _ _ _ _ (by simp)]; exact HK1.out
  have d0 : w2.cell? ⟨w.heap.size + 1, 0, none⟩ = some (.slice none 0 0) := cell_of_row w2 _ 0 _ _ _ hk2
  have d1 : w2.cell? ⟨w.heap.size + 1, 1, none⟩ = some (.slice none 0 0) := cell_of_row w2 _ 1 _ _ _ hk2
  have d2 : w2.cell? ⟨w.heap.size + 1, 2, none⟩ = some (.slice none 0 0) := cell_of_row w2 _ 2 _ _ _ hk2
  have e0 := frozen_of_row w2 _ 0 _ _ hk2
  have e1 := frozen_of_row w2 _ 1 _ _ hk2
  have e2 := frozen_of_row w2 _ 2 _ _ hk2
  have HO1' := Lib.hid (own_below (own_grown (own_grown HO1.out (grown_set (g := w.heap.size + 1 + 1) (World.grownBy.refl _ _) 0 (.slice A1 P.length c1)) (by simp)) (grown_set (g := w.heap.size + 1 + 1) (World.grownBy.refl _ _) 1 (.slice A2 Q.length c2)) (by simp)) hb2)
  have HO2' := Lib.hid (own_below (own_grown (own_grown HO2.out (grown_set (g := w.heap.size + 1 + 1) (World.grownBy.refl _ _) 0 (.slice A1 P.length c1)) (by simp)) (grown_set (g := w.heap.size + 1 + 1) (World.grownBy.refl _ _) 1 (.slice A2 Q.length c2)) (by simp)) hb2)
  have hbw2 : Below w.heap.size w w2 := by
    refine Below.trans ?_ (hb2.mono ?_)
    · exact (hbw.setCell (by simp; omega) _).setCell (by simp; omega) _
    · simp [World.setCell]; omega
  obtain ⟨hc2, hf2⟩ := bcell hb2
  have hz2 : w.heap.size + 2 < w2.heap.size := by have := hb2.size; simp [World.setCell] at this; omega
  clear hw3 hh3 hk2 hb2
  go_wp2
  refine bodyPost_ret (v := .agg #[.slice A1 P.length c1, .slice A2 Q.length c2, .slice A3 n c3]) (by simp [results, Tryz.results11, go_sem, d0, d1, d2]) rfl ⟨_, _, _, rfl, ⟨⟨?_, ?_, HSS.out.short, HSS.out.in64⟩, ?_⟩, ?_⟩
  · refine Has.of_own (base := w.heap.size + 1 + 1 + 1) (n := P.length) (e := 9) ?_
    repeat (refine own_grown ?_ (grown_set (World.grownBy.refl _ _) _ _) (by simp))
    exact HO1'.out
  · refine HasP.of_own (base := w.heap.size + 1 + 1 + 1) (n := Q.length) (e := 177) ?_
    repeat (refine own_grown ?_ (grown_set (World.grownBy.refl _ _) _ _) (by simp))
    exact HO2'.out
  · refine HasR.mono RO_steady (lo := w.heap.size + 1 + 1 + 1) ?_ (Nat.zero_le _)
    repeat (refine HasR.kept RO_steady ?_ (Kept.set (by simp) _))
    exact HV3.out
  · repeat (refine Below.setCell ?_ (by first | (simp; done) | (simp; omega)) _)
    exact hbw2
end Go.Proofs.YtjejdcehlckfhaaGreat.sigu
/-
  TERMS THAT CAME IN: from what the row's hypothesis reads to 'HasTs'.
-/
set_option maxRecDepth 100000
namespace Go.Proofs.YtjejdcehlckfhaaGreat.termop
open Go.Joins Go.ChangeShapes Go.WideShapes Go.ChangeAt Go.RowKit Go.Deep
open mem rowl trm trmv terml termt termx

section
variable {H : Type} {enc : TypeId × Value → H} {W : World} {base : Nat}
theorem i64b {x : Int} (h : (Lit.int .i64 x).wf = true) : I64 x := by
  simp only [Lit.wf, Bool.and_eq_true, decide_eq_true_eq] at h
  exact h
/-- a row, from the reading of each of its elements -/
theorem row_of {α : Type} [Inhabited α] {R : Reads α} {k : Nat} (hk : 0 < k) {a : Addr} {len m : Nat} (hl : len ≤ m) (hm : m ≤ maxLen)
    (h : ∀ j, j < len → ∃ (x : α) (cs : List Value), (∀ i, i < k → W.cell? ((a.add (j * k)).add i) = some (cs.getD i undef)) ∧ R 0 W cs x) :
    ∃ L : List α, HasR R k 0 W (.slice (some a) len m) L := by
  let f : Nat → α := fun j => if h' : j < len then Classical.choose (h j h') else default
  have hf : ∀ j, j < len → ∃ cs : List Value, (∀ i, i < k → W.cell? ((a.add (j * k)).add i) = some (cs.getD i undef)) ∧ R 0 W cs (f j) := by
    intro j hj
    have := Classical.choose_spec (h j hj)
    simpa only [f, dif_pos hj] using this
  refine ⟨(List.range len).map f, some a, m, by simp, by simpa using hl, hm, fun j hj => ?_⟩
  have hj' : j < len := by simpa using hj
  obtain ⟨cs, h1, h2⟩ := hf j hj'
  have hget : ((List.range len).map f).getD j default = f j := by simp [List.getD, hj']
  obtain ⟨cs0, h01, _⟩ := hf 0 (by omega)
  have hc0 := h01 0 hk
  obtain ⟨b, o, sp⟩ := a
  have hsp : sp = none := by simpa [Addr.add] using World.cell?_spot hc0
  subst hsp
  have hcj : ∀ i, i < k → W.cell? ⟨b, o + j * k + i, none⟩ = some (cs.getD i undef) := by
    intro i hi
    have := h1 i hi
    rw [Addr.add_lit, Addr.add_lit] at this
    exact this
  exact ⟨b, o, cs, rfl, Nat.zero_le _, World.block_lt_of_cell? W _ (hcj 0 hk), hcj, by rw [hget]; exact h2⟩
/-- four cells that read as a term -/
theorem four_of {n : Nat} {cs : List Value} {y : DataW H × List MemPlace} (ht : DataW.trod enc Tryz.prog W base (fun _ => true) true n 31 cs = some y) :
    ∃ (op : Int) (s : ByteArray) (so : Int) (va : Value) (n' : Nat) (y' : DataW H × List MemPlace), n = n' + 1 ∧ cs = [.int .i64 op, .string s, .int .i64 so, va] ∧ s.size ≤ maxLen ∧ I64 op ∧ I64 so ∧ DataW.trod enc Tryz.prog W base (fun _ => true) true n' 29 [va] = some y' := by
  have hCi : Tryz.prog.cellsOf 3 = 1 := by kernel_rfl
  have hCs : Tryz.prog.cellsOf 9 = 1 := by kernel_rfl
  have hCd : Tryz.prog.cellsOf 29 = 1 := by kernel_rfl
  have hC : Tryz.prog.cellsOf 31 = 4 := by kernel_rfl
  obtain ⟨xs, n', hn, _, hl, hlen, hf⟩ := DataW.trod_struct Tryz.underlying31 ht
  rw [hC] at hl
  obtain ⟨c0, c1, c2, c3, rfl⟩ : ∃ c0 c1 c2 c3, cs = [c0, c1, c2, c3] := by
    match cs, hl with
    | [c0, c1, c2, c3], _ => exact ⟨c0, c1, c2, c3, rfl⟩
  obtain ⟨y0, y1, y2, y3, rfl⟩ : ∃ y0 y1 y2 y3, xs = [y0, y1, y2, y3] := by
    match xs, hlen with
    | [y0, y1, y2, y3], _ => exact ⟨y0, y1, y2, y3, rfl⟩
  have h0 : DataW.trod enc Tryz.prog W base (fun _ => true) true n' 3 (([c0, c1, c2, c3].drop 0).take (Tryz.prog.cellsOf 3)) = some y0 := hf 0 _ rfl
  have h1 : DataW.trod enc Tryz.prog W base (fun _ => true) true n' 9 (([c0, c1, c2, c3].drop 1).take (Tryz.prog.cellsOf 9)) = some y1 := hf 1 _ rfl
  have h2 : DataW.trod enc Tryz.prog W base (fun _ => true) true n' 3 (([c0, c1, c2, c3].drop 2).take (Tryz.prog.cellsOf 3)) = some y2 := hf 2 _ rfl
  have h3 : DataW.trod enc Tryz.prog W base (fun _ => true) true n' 29 (([c0, c1, c2, c3].drop 3).take (Tryz.prog.cellsOf 29)) = some y3 := hf 3 _ rfl
  rw [hCi] at h0 h2
  rw [hCs] at h1
  rw [hCd] at h3
  simp only [List.drop_zero, List.take_succ_cons, List.take_zero, List.drop_succ_cons] at h0 h1 h2 h3
  obtain ⟨x0, e0, _, w0⟩ := DataW.trod_int Tryz.underlying3 h0
  obtain ⟨s, e1, _, hs⟩ := DataW.trod_string Tryz.underlying9 h1
  obtain ⟨x2, e2, _, w2⟩ := DataW.trod_int Tryz.underlying3 h2
  simp only [List.cons.injEq, and_true] at e0 e1 e2
  subst e0 e1 e2
  exact ⟨x0, s, x2, c3, n', _, hn, rfl, hs, i64b w0, i64b w2, h3⟩
/-- terms, from the reading of a slice's header -/
theorem terms_of : ∀ (n : Nat) {v : Value} {y : DataW H × List MemPlace}, DataW.trod enc Tryz.prog W base (fun _ => true) true n 29 [v] = some y → ∃ L : List TermM, HasTs n 0 W v L := by
  intro n
  induction n using Nat.strongRecOn with
  | _ n ih =>
    intro v y hf
    have hC : Tryz.prog.cellsOf 31 = 4 := by kernel_rfl
    rcases DataW.trod_slice Tryz.underlying29 hf with ⟨hcs, hx⟩ | ⟨a, len, cap, elems, rest, k, hn, hcs, hx, hb, hl, hm, hlen, hel, _, _⟩
    · simp at hcs
      subst hcs
      exact ⟨[], HasR.nil _ _ _ (by unfold maxLen; omega) _⟩
    · simp at hcs
      subst hcs
      rw [hC] at hel
      refine row_of (by omega) hl hm (fun j hj => ?_)
      have he := hel j hj
      rw [List.getElem?_eq_getElem (by omega)] at he
      obtain ⟨cs, hc, ht⟩ := Option.bind_eq_some_iff.1 he
      obtain ⟨op, s, so, va, n', y', hk, rfl, hs, h1, h2, h3⟩ := four_of ht
      obtain ⟨L, hL⟩ := ih n' (by omega) h3
      obtain ⟨_, hcl, hat⟩ := World.cells?_some hc
      have hc0 := hat 0 (by omega)
      have hc1 := hat 1 (by omega)
      have hc2 := hat 2 (by omega)
      have hc3 := hat 3 (by omega)
      refine ⟨.mk op s.data.toList so L, [.int .i64 op, .string s, .int .i64 so, va], fun i hi => ?_, ?_⟩
      · match i, hi with
        | 0, _ => rw [hc0]; rfl
        | 1, _ => rw [hc1]; rfl
        | 2, _ => rw [hc2]; rfl
        | 3, _ => rw [hc3]; rfl
      · obtain ⟨m, rfl⟩ : ∃ m, n = m + 1 := ⟨k, hn⟩
        exact ⟨va, by show _ = [_, Value.string (bstr s.data.toList), _, _]; rw [bstr_data]; rfl, hL.up (by omega), by show (s.data.toList).length ≤ _; rw [← bstr_size, bstr_data]; exact hs, h1, h2⟩
end
/-- a Term that came in -/
theorem has_term {H : Type} {enc : TypeId × Value → H} {W : World} {base : Nat} {v : Value} {d : DataW H} {p : List MemPlace}
    (hval : Value.okWide Tryz.prog W .any base 31 v) (hd : DataW.Trod enc Tryz.prog W 0 (fun _ => true) true 31 v d p) :
    ∃ (n : Nat) (t : TermM) (va : Value), v = aggT t va ∧ HasTs n 0 W va t.args ∧ Bnd t := by
  have hC : Tryz.prog.cellsOf 31 = 4 := by kernel_rfl
  obtain ⟨cs, rfl, hsz⟩ := okWide_struct Tryz.underlying31 hval
  obtain ⟨fuel, hf⟩ := hd
  obtain ⟨op, s, so, va, n', y', hk, hcs, hs, h1, h2, h3⟩ := four_of hf
  obtain ⟨L, hL⟩ := terms_of n' h3
  refine ⟨n', .mk op s.data.toList so L, va, ?_, hL, by show (s.data.toList).length ≤ _; rw [← bstr_size, bstr_data]; exact hs, h1, h2⟩
  have : cs = #[.int .i64 op, .string s, .int .i64 so, va] := by
    simp only [Value.cells] at hcs
    exact Array.ext' (by rw [hcs])
  rw [this]
  show _ = Value.agg #[.int .i64 op, .string (bstr s.data.toList), .int .i64 so, va]
  rw [bstr_data]
/-- a []Term that came in -/
theorem has_terms {H : Type} {enc : TypeId × Value → H} {W : World} {base : Nat} {v : Value} {d : DataW H} {p : List MemPlace}
    (hval : Value.okWide Tryz.prog W .any base 29 v) (hd : DataW.Trod enc Tryz.prog W 0 (fun _ => true) true 29 v d p) : ∃ (n : Nat) (L : List TermM), HasTs n 0 W v L := by
  obtain ⟨a0, len, cap, rfl⟩ := okWide_slice Tryz.underlying29 hval
  obtain ⟨fuel, hf⟩ := hd
  obtain ⟨L, hL⟩ := terms_of fuel (v := .slice a0 len cap) hf
  exact ⟨fuel, L, hL⟩
end Go.Proofs.YtjejdcehlckfhaaGreat.termop
/-
  THE WALK OF FnExactSortsOf.
-/
namespace Go.Proofs.YtjejdcehlckfhaaGreat.fnExactSortsOf
open Go.ChangeShapes Go.WideShapes Go.ChangeAt Go.RowKit
open mem dec setm sets sortm sortn sortp sorti sorts subs split strl join sortf sortu sortg sigm sigs sigt sigu sige rowl trm trmv terml termb termt termu termx gram gramn gramt grami formk formt tso tst

set_option maxHeartbeats 8000000 in
set_option maxRecDepth 100000 in
theorem go {n : Nat} (P : List (List UInt8)) (Q : List (Int × Int)) (O : List OpM) (va vb vc : Value) (t : TermM) (ve : Value) (w : World) (h : HasG w va vb vc P Q O) (ht : HasTs n 0 w ve t.args) (hB : Bnd t) :
    Calls Tryz.prog 3 #[.agg #[va, vb, vc], aggT t ve] w fun e w' => e = .returned (.bool true) ∧ Below w.heap.size w w' := by
  have HSZ := Lib.hid (fun W (hW : Below w.heap.size w W) => szSignature_any P Q O va vb vc W (h.below (Nat.le_refl _) hW))
  have HSB := Lib.hid (fun W (hW : Below w.heap.size w W) r (h0 : 0 ≤ r) (h1 : r ≤ 1048576) => szTerm_any t.op t.name t.sort t.args ve W hB.1 (ht.below (Nat.le_refl _) hW) r h0 h1)
  have HTO := Lib.hid (fun W (hW : Below w.heap.size w W) (hs : (Small P ∧ Q.length ≤ 1048576) ∧ SmO O) => toSignature_any P Q O hs va vb vc W (h.below (Nat.le_refl _) hW))
  have HTT := Lib.hid (fun W (hW : Below w.heap.size w W) (hs : sizes t.args ≤ 1048576) => toTerm_any t.op t.name t.sort t.args hs ve W (ht.below (Nat.le_refl _) hW))
  obtain ⟨z, hz⟩ : ∃ z : Bool, z = true ↔ STerm P Q O t := by
    by_cases hq : STerm P Q O t
    · exact ⟨true, fun _ => hq, fun _ => rfl⟩
    · exact ⟨false, fun e => absurd e (by simp), fun e => absurd e hq⟩
  obtain ⟨kz, hkz⟩ : ∃ k : Int, k = ((sortsZ P Q O t z : Nat) : Int) := ⟨_, rfl⟩
  have HSP : Hid (∀ v1 v2 v3 v4 W lo, HasG W v1 v2 v3 P Q O → HasTs (n + 1) lo W v4 t.args → sizes t.args ≤ 1048576 → Calls Tryz.prog 10 #[.agg #[v1, v2, v3], aggT t v4] W fun e w' => e = .returned (.int .i64 kz) ∧ Below W.heap.size W w') := Lib.hid (fun v1 v2 v3 v4 W lo hG hT hs => by
    rw [hkz]; exact sSortsOf_any P Q O v1 v2 v3 t v4 W hG hT hB hs z hz)
  have HIM : Hid (∀ v1 v2 v3 v4 W lo, HasG W v1 v2 v3 P Q O → HasTs (n + 1) lo W v4 t.args → sizes t.args ≤ 1048576 → Calls Tryz.prog 13 #[.agg #[v1, v2, v3], aggT t v4] W fun e w' => e = .returned (.int .i64 kz) ∧ Below W.heap.size W w') := Lib.hid (fun v1 v2 v3 v4 W lo hG hT hs => by
    rw [hkz]; exact iSortsOf_any P Q O v1 v2 v3 t v4 W hG hT hB hs z hz)
  have HEA := Lib.hid (fun v1 v2 v3 u1 u2 u3 W (h1 : HasG W v1 v2 v3 P Q O) (h2 : HasG W u1 u2 u3 P Q O) => eqSignature_same P Q O v1 v2 v3 u1 u2 u3 W h1 h2)
  have HEB := Lib.hid (fun v1 v2 W lo lo' (hW : HasTs (n + 1) lo W v1 t.args) (hW' : HasTs (n + 1) lo' W v2 t.args) => eqTerm_any t.op t.name t.sort t.args v1 v2 W hW hW')
  obtain ⟨B, cb, rfl, _⟩ := HasR.shape ht rfl
  obtain ⟨A1, c1, A2, c2, A3, c3, rfl, rfl, rfl, _⟩ := h.shape
  have HSH : Hid (∀ {W v1 v2 v3}, HasG W v1 v2 v3 P Q O → ∃ A1 c1 A2 c2 A3 c3, v1 = .slice A1 P.length c1 ∧ v2 = .slice A2 Q.length c2 ∧ v3 = .slice A3 O.length c3) := Lib.hid (fun h => by
    obtain ⟨A1, c1, A2, c2, A3, c3, e1, e2, e3, _⟩ := h.shape
    exact ⟨A1, c1, A2, c2, A3, c3, e1, e2, e3⟩)
  have HOS : Hid (∀ {W lo v S}, OT 44 (n + 1) lo W v t.args S → ∃ A c, v = .slice A t.args.length c) := Lib.hid (fun h => OT.shape h)
  unfold aggT at HSP HIM ⊢
  obtain ⟨q, hq⟩ : ∃ q, q = t.args.length := ⟨_, rfl⟩
  obtain ⟨to, hto⟩ : ∃ q, q = t.op := ⟨_, rfl⟩
  obtain ⟨tn, htn⟩ : ∃ q, q = t.name := ⟨_, rfl⟩
  obtain ⟨ts, hts⟩ : ∃ q, q = t.sort := ⟨_, rfl⟩
  obtain ⟨m1, hm1⟩ : ∃ q, q = P.length := ⟨_, rfl⟩
  obtain ⟨m2, hm2⟩ : ∃ q, q = Q.length := ⟨_, rfl⟩
  obtain ⟨m3, hm3⟩ : ∃ q, q = O.length := ⟨_, rfl⟩
  rw [← hq] at HSB HTT HOS ⊢
  rw [← hto, ← htn, ← hts] at HSB HTT HSP HIM HEB ⊢
  have HSM0 : Hid (∀ {p1 p2 : Prop}, p1 → p2 → p1 ∧ p2) := Lib.hid (fun a b => ⟨a, b⟩)
  obtain ⟨SmP, hSmP⟩ : ∃ p : Prop, p = ((Small P ∧ Q.length ≤ 1048576) ∧ SmO O) := ⟨_, rfl⟩
  rw [← hSmP] at HTO
  have HSZ' : Hid (∀ W, Below w.heap.size w W → Calls Tryz.prog 8 #[.agg #[.slice A1 m1 c1, .slice A2 m2 c2, .slice A3 m3 c3], .int .i64 1048576] W fun e w' => ∃ r : Int, e = .returned (.int .i64 r) ∧ (0 ≤ r → SmP) ∧ r ≤ 1048576 ∧ Below W.heap.size W w') := Lib.hid (fun W hW => by
    rw [hm1, hm2, hm3]
    refine (HSZ.out W hW).mono ?_
    rintro e w' ⟨r, rfl, hr, hr1, hr2, hb⟩
    exact ⟨r, rfl, fun h => by rw [hSmP]; exact hr h, hr2, hb⟩)
  rw [← hm1, ← hm2, ← hm3] at HTO HSH ⊢
  clear h ht hB hz hkz hq hto htn hts hm1 hm2 hm3 HSZ hSmP HSM0
  obtain ⟨W, hW⟩ : ∃ W, W = (w.alloc (.cells #[.slice A1 m1 c1, .slice A2 m2 c2, .slice A3 m3 c3] 28)).alloc (.cells #[.int .i64 to, .string (bstr tn), .int .i64 ts, .slice B q cb] 31) := ⟨_, rfl⟩
  have hb0 : Below w.heap.size w W := by
    rw [hW]
    repeat (first | exact Below.refl _ _ | refine Below.alloc ?_ (by first | (simp; done) | (simp; omega)) _)
  have hX0 : Box34 w.heap.size (w.heap.size + 1) (.slice A1 m1 c1) (.slice A2 m2 c2) (.slice A3 m3 c3) (.int .i64 to) (.string (bstr tn)) (.int .i64 ts) (.slice B q cb) W := by
    rw [hW]
    exact ⟨box3 (heap2a _ _ _), box4 (termt.heap_at _ _ _ (by simp))⟩
  have HX := Lib.hid hX0
  have HB0 := Lib.hid hb0
  clear hb0 hX0
  go_enter Tryz.func3, Tryz.ntmps3
  go_wp2_with fail
  rw [← hW]
  clear hW
  refine (HSZ'.out _ HB0.out).mono ?_
  rintro e w1 ⟨r, rfl, hr, hr2, hb1⟩
  have HB1 := Lib.hid (HB0.out.trans (hb1.mono HB0.out.size))
  have HX1 := Lib.hid (Box34.below HX.out hb1)
  have HR := Lib.hid hr
  clear hb1 HX HB0 hr
  by_cases hneg : r < 0
  · go_wp2
    go_ret
    exact ⟨rfl, HB1.out⟩
  obtain ⟨⟨x0, x1, x2⟩, y0, y1, y2, y3⟩ := HX1.out
  go_wp2_with fail
  refine (HSB.out _ HB1.out r (by omega) hr2).mono ?_
  rintro e w2 ⟨r', rfl, hr', hr1', hr2', hb2⟩
  have HB2 := Lib.hid (HB1.out.trans (hb2.mono HB1.out.size))
  have HX2 := Lib.hid (Box34.below HX1.out hb2)
  have HR' := Lib.hid hr'
  clear hb2 x0 x1 x2 y0 y1 y2 y3 HX1 HB1 hr'
  by_cases hneg' : r' < 0
  · go_wp2
    go_ret
    exact ⟨rfl, HB2.out⟩
  have HSM := Lib.hid (And.intro (HR.out (by omega)) (show sizes t.args ≤ 1048576 by have := HR'.out (by omega); omega))
  clear HR HR' hr1' hr2' hr2
  have hwz : w.heap.size ≤ w2.heap.size := HB2.out.size
  go_wp2_with fail
  refine wp_region_noPanic ?_
  refine wp_region_held_drew (S := (Box34 w.heap.size (w.heap.size + 1) (.slice A1 m1 c1) (.slice A2 m2 c2) (.slice A3 m3 c3) (.int .i64 to) (.string (bstr tn)) (.int .i64 ts) (.slice B q cb))) (by kernel_rfl) ?_ (fun hHd0 => ?_)
  · exact HX2.out
  refine wpAnyH_take (i := 0) (v := ?_) rfl (by kernel_rfl) (by kernel_rfl) (by kernel_rfl) (fun _ _ _ h => h) (Or.inl ⟨by rfl, ?_⟩) (by with_reducible assumption) ?_
  rotate_left
  · intro w hSw; (try dsimp only at hSw); go_simp <;> with_reducible rfl
  (try simp only [Act.put]); (try simp only [List.setIfInBounds_toArray]); (try simp only [List.set_cons_succ, List.set_cons_zero])
  refine wpAnyH_take (i := 2) (v := ?_) rfl (by kernel_rfl) (by kernel_rfl) (by kernel_rfl) (fun _ _ _ h => h) (Or.inl ⟨by rfl, ?_⟩) (by with_reducible assumption) ?_
  rotate_left
  · intro w hSw; (try dsimp only at hSw); go_simp <;> with_reducible rfl
  (try simp only [Act.put]); (try simp only [List.setIfInBounds_toArray]); (try simp only [List.set_cons_succ, List.set_cons_zero])
  refine wpAnyH_ready (rs := [1]) (by kernel_rfl) (by simp) ?_
  refine AllReadyH.cons (o := _) rfl (fun K hK => ?_) ?_
  · (go_simp; refine (HTO.out w2.drew (HB2.out.drew) HSM.out.1).mono ?_; rintro e w3 ⟨v1, v2, v3, rfl, hG, hb3⟩; obtain ⟨D1, d1, D2, d2, D3, d3, rfl, rfl, rfl⟩ := HSH.out hG; have hX3 := Box34.below (w := w2.drew) (show Box34 w.heap.size (w.heap.size + 1) (.slice A1 m1 c1) (.slice A2 m2 c2) (.slice A3 m3 c3) (.int .i64 to) (.string (bstr tn)) (.int .i64 ts) (.slice B q cb) w2.drew from HX2.out) hb3; have HB3 := Lib.hid ((HB2.out.drew).trans (hb3.mono (HB2.out.drew).size)); have HG3 := Lib.hid hG; clear hG hb3; (try dsimp only))
    refine hK.out _ _ ?_ (fun hHd1 => ?_)
    · (try dsimp only); first | (with_reducible assumption) | (exact hX3) | (exact hX4) | (exact hX5)
    clear hK K hHd0
    (try simp only [Act.put]); (try simp only [List.setIfInBounds_toArray]); (try simp only [List.set_cons_succ, List.set_cons_zero])
    refine wpAnyH_ready (rs := [3]) (by kernel_rfl) (by simp) ?_
    refine AllReadyH.cons (o := _) rfl (fun K hK => ?_) ?_
    · (go_simp; refine (HTT.out w3 (HB3.out) HSM.out.2).mono ?_; rintro e w4 ⟨v4, S4, rfl, ho, hb4⟩; obtain ⟨E1, e1, rfl⟩ := HOS.out ho; have hX4 := Box34.below (w := w3) hX3 hb4; have HB4 := Lib.hid ((HB3.out).trans (hb4.mono (HB3.out).size)); have HG4b := Lib.hid (HG3.out.below (Nat.le_refl _) hb4); have HO4 := Lib.hid ho; clear ho hb4; (try dsimp only))
      refine hK.out _ _ ?_ (fun hHd2 => ?_)
      · (try dsimp only); first | (with_reducible assumption) | (exact hX3) | (exact hX4) | (exact hX5)
      clear hK K hHd1
      (try simp only [Act.put]); (try simp only [List.setIfInBounds_toArray]); (try simp only [List.set_cons_succ, List.set_cons_zero])
      refine wpAnyH_ready (rs := [4]) (by kernel_rfl) (by simp) ?_
      refine AllReadyH.cons (o := _) rfl (fun K hK => ?_) ?_
      · (go_simp; refine (HSP.out _ _ _ _ w4 _ HG4b.out HO4.out.has HSM.out.2).mono ?_; rintro e w5 ⟨rfl, hb5⟩; have hX5 := Box34.below hX4 hb5; have HB5 := Lib.hid (HB4.out.trans (hb5.mono HB4.out.size)); clear hb5; (try dsimp only))
        refine hK.out _ _ ?_ (fun hHd3 => ?_)
        · (try dsimp only); first | (with_reducible assumption) | (exact hX3) | (exact hX4) | (exact hX5)
        clear hK K hHd2
        (try simp only [Act.put]); (try simp only [List.setIfInBounds_toArray]); (try simp only [List.set_cons_succ, List.set_cons_zero])
        refine wpAnyH_ready (rs := [5]) (by kernel_rfl) (by simp) ?_
        refine AllReadyH.cons (o := _) rfl (fun K hK => ?_) ?_
        · go_simp
          refine hK.out _ _ ?_ (fun hHd4 => ?_)
          · (try dsimp only); first | (with_reducible assumption) | (exact hX3) | (exact hX4) | (exact hX5)
          clear hK K hHd3
          (try simp only [Act.put]); (try simp only [List.setIfInBounds_toArray]); (try simp only [List.set_cons_succ, List.set_cons_zero])
          refine wpAnyH_done (by kernel_rfl) ?_ _
          refine NoPanic.normal ?_
          have HX5 := Lib.hid hX5
          clear hX5
          obtain ⟨⟨x0, x1, x2⟩, y0, y1, y2, y3⟩ := HX5.out
          go_wp2_with fail
          refine (HTO.out w5 HB5.out HSM.out.1).mono ?_
          rintro e w6 ⟨v5, v6, v7, rfl, hG, hb6⟩
          obtain ⟨F1, f1, F2, f2, F3, f3, rfl, rfl, rfl⟩ := HSH.out hG
          have HG6 := Lib.hid hG
          have HB6 := Lib.hid (HB5.out.trans (hb6.mono HB5.out.size))
          have HX6 := Lib.hid (Box34.below HX5.out hb6)
          have hs6 : w.heap.size + 1 < w6.heap.size := by
            have q := block_lt_of_cell HX6.out.2.1
            simpa using q
          have hs6' : w.heap.size < w6.heap.size := by omega
          clear hG hb6 x0 x1 x2 y0 y1 y2 y3
          obtain ⟨⟨x0, x1, x2⟩, y0, y1, y2, y3⟩ := HX6.out
          go_wp2_with fail
          obtain ⟨W7, hW7⟩ : ∃ W7, W7 = w6.alloc (.cells #[.slice F1 m1 f1, .slice F2 m2 f2, .slice F3 m3 f3] 40) := ⟨_, rfl⟩
          have hb67 : Below w6.heap.size w6 W7 := by rw [hW7]; exact (Below.refl _ _).alloc (Nat.le_refl _) _
          have hY7 : W7.heap[w6.heap.size]? = some (.cells #[.slice F1 m1 f1, .slice F2 m2 f2, .slice F3 m3 f3] 40 (0, 0)) := by rw [hW7]; exact termt.heap_at _ _ _ rfl
          have hz7 : W7.heap.size = w6.heap.size + 1 := by rw [hW7]; simp
          rw [← hW7]
          have HB7 := Lib.hid (HB6.out.trans (hb67.mono HB6.out.size))
          have HX7 := Lib.hid (Box34.below HX6.out hb67)
          have HG7 := Lib.hid (HG6.out.below (Nat.le_refl _) hb67)
          have HY7 := Lib.hid hY7
          have HZ7 := Lib.hid hz7
          clear hW7 hb67 hY7 hz7 x0 x1 x2 y0 y1 y2 y3
          refine (HTT.out W7 HB7.out HSM.out.2).mono ?_
          rintro e w8 ⟨v8, S8, rfl, ho, hb8⟩
          obtain ⟨G1, g1, rfl⟩ := HOS.out ho
          have HO8 := Lib.hid ho
          have HB8 := Lib.hid (HB7.out.trans (hb8.mono HB7.out.size))
          have HX8 := Lib.hid (Box34.below HX7.out hb8)
          have HG8 := Lib.hid (HG7.out.below (Nat.le_refl _) hb8)
          have hs8 : w6.heap.size < w8.heap.size := by have := hb8.size; have := HZ7.out; omega
          have HY8 : Hid (w8.heap[w6.heap.size]? = some (.cells #[.slice F1 m1 f1, .slice F2 m2 f2, .slice F3 m3 f3] 40 (0, 0))) := Lib.hid ((hb8.block _ (by have := HZ7.out; omega)).trans HY7.out)
          obtain ⟨k0, k1, k2⟩ := box3 HY8.out
          clear ho hb8
          go_wp2_with fail
          obtain ⟨W9, hW9⟩ : ∃ W9, W9 = w8.alloc (.cells #[.int .i64 to, .string (bstr tn), .int .i64 ts, .slice G1 q g1] 44) := ⟨_, rfl⟩
          have hb89 : Below w8.heap.size w8 W9 := by rw [hW9]; exact (Below.refl _ _).alloc (Nat.le_refl _) _
          have hY9 : Box34 w6.heap.size w8.heap.size (.slice F1 m1 f1) (.slice F2 m2 f2) (.slice F3 m3 f3) (.int .i64 to) (.string (bstr tn)) (.int .i64 ts) (.slice G1 q g1) W9 := ⟨box3 ((hb89.block _ hs8).trans HY8.out), box4 (by rw [hW9]; exact termt.heap_at _ _ _ rfl)⟩
          rw [← hW9]
          have HB9 := Lib.hid (HB8.out.trans (hb89.mono HB8.out.size))
          have HX9 := Lib.hid (Box34.below HX8.out hb89)
          have HG9 := Lib.hid (HG8.out.below (Nat.le_refl _) hb89)
          have HO9 := Lib.hid (HO8.out.below hb89)
          have HY9 := Lib.hid hY9
          clear hW9 hb89 hY9 k0 k1 k2
          refine (HIM.out _ _ _ _ W9 _ HG9.out HO9.out.has HSM.out.2).mono ?_
          rintro e w10 ⟨rfl, hb10⟩
          have HB10 := Lib.hid (HB9.out.trans (hb10.mono HB9.out.size))
          have HX10 := Lib.hid (Box34.below HX9.out hb10)
          have HY10 := Lib.hid (Box34.below HY9.out hb10)
          have HG10 := Lib.hid (HG9.out.below (Nat.le_refl _) hb10)
          have HO10 := Lib.hid (HO9.out.below hb10)
          clear hb10
          go_wp2_with fail
          refine wp_region_noPanic ?_
          refine wp_region_held_drew (S := (fun w' => Box34 w6.heap.size w8.heap.size (.slice F1 m1 f1) (.slice F2 m2 f2) (.slice F3 m3 f3) (.int .i64 to) (.string (bstr tn)) (.int .i64 ts) (.slice G1 q g1) w' ∧ Box34 w.heap.size (w.heap.size + 1) (.slice A1 m1 c1) (.slice A2 m2 c2) (.slice A3 m3 c3) (.int .i64 to) (.string (bstr tn)) (.int .i64 ts) (.slice B q cb) w')) (by kernel_rfl) ?_ (fun hHd0 => ?_)
          · exact ⟨HY10.out, HX10.out⟩
          refine wpAnyH_take (i := 0) (v := ?_) rfl (by kernel_rfl) (by kernel_rfl) (by kernel_rfl) (fun _ _ _ h => h) (Or.inl ⟨by rfl, ?_⟩) (by with_reducible assumption) ?_
          rotate_left
          · intro w hSw; (try dsimp only at hSw); go_simp <;> with_reducible rfl
          (try simp only [Act.put]); (try simp only [List.setIfInBounds_toArray]); (try simp only [List.set_cons_succ, List.set_cons_zero])
          refine wpAnyH_take (i := 1) (v := ?_) rfl (by kernel_rfl) (by kernel_rfl) (by kernel_rfl) (fun _ _ _ h => h) (Or.inl ⟨by rfl, ?_⟩) (by with_reducible assumption) ?_
          rotate_left
          · intro w hSw; (try dsimp only at hSw); go_simp <;> with_reducible rfl
          (try simp only [Act.put]); (try simp only [List.setIfInBounds_toArray]); (try simp only [List.set_cons_succ, List.set_cons_zero])
          refine wpAnyH_ready (rs := [2]) (by kernel_rfl) (by simp) ?_
          refine AllReadyH.cons (o := _) rfl (fun K hK => ?_) ?_
          · (go_simp; refine (HTO.out w10.drew HB10.out.drew HSM.out.1).mono ?_; rintro e w11 ⟨v11, v12, v13, rfl, hG11, hb11⟩; obtain ⟨J1, j1, J2, j2, J3, j3, rfl, rfl, rfl⟩ := HSH.out hG11; have hX11 := And.intro (Box34.below (w := w10.drew) HY10.out hb11) (Box34.below (w := w10.drew) HX10.out hb11); have HB11 := Lib.hid (HB10.out.drew.trans (hb11.mono HB10.out.size)); (try dsimp only))
            refine hK.out _ _ ?_ (fun hHd1 => ?_)
            · (try dsimp only); first | (with_reducible assumption) | (exact hX11) | (exact hX12)
            clear hK K hHd0
            (try simp only [Act.put]); (try simp only [List.setIfInBounds_toArray]); (try simp only [List.set_cons_succ, List.set_cons_zero])
            refine wpAnyH_ready (rs := [3]) (by kernel_rfl) (by simp) ?_
            refine AllReadyH.cons (o := _) rfl (fun K hK => ?_) ?_
            · (go_simp; refine (HEA.out _ _ _ _ _ _ w11 ((HG10.out.below (Nat.le_refl _) (Below.refl _ _).drew).below (Nat.le_refl _) hb11) hG11).mono ?_; rintro e w12 ⟨rfl, hb12⟩; have hX12 := And.intro (Box34.below hX11.1 hb12) (Box34.below hX11.2 hb12); have HB12 := Lib.hid (HB11.out.trans (hb12.mono HB11.out.size)); have hb1112 := hb11.trans (hb12.mono hb11.size); (try dsimp only))
              refine hK.out _ _ ?_ (fun hHd2 => ?_)
              · (try dsimp only); first | (with_reducible assumption) | (exact hX11) | (exact hX12)
              clear hK K hHd1
              (try simp only [Act.put]); (try simp only [List.setIfInBounds_toArray]); (try simp only [List.set_cons_succ, List.set_cons_zero])
              refine wpAnyH_ready (rs := [4]) (by kernel_rfl) (by simp) ?_
              refine AllReadyH.cons (o := _) rfl (fun K hK => ?_) ?_
              · go_simp
                refine hK.out _ _ ?_ (fun hHd3 => ?_)
                · (try dsimp only); first | (with_reducible assumption) | (exact hX11) | (exact hX12)
                clear hK K hHd2
                (try simp only [Act.put]); (try simp only [List.setIfInBounds_toArray]); (try simp only [List.set_cons_succ, List.set_cons_zero])
                refine wpAnyH_done (by kernel_rfl) ?_ _
                refine NoPanic.normal ?_
                have HX12 := Lib.hid hX12.2
                have HY12 := Lib.hid hX12.1
                clear hX12 hX11
                go_wp2_with fail
                refine wp_region_noPanic ?_
                refine wp_region_held_drew (S := (fun w' => Box34 w6.heap.size w8.heap.size (.slice F1 m1 f1) (.slice F2 m2 f2) (.slice F3 m3 f3) (.int .i64 to) (.string (bstr tn)) (.int .i64 ts) (.slice G1 q g1) w' ∧ Box34 w.heap.size (w.heap.size + 1) (.slice A1 m1 c1) (.slice A2 m2 c2) (.slice A3 m3 c3) (.int .i64 to) (.string (bstr tn)) (.int .i64 ts) (.slice B q cb) w')) (by kernel_rfl) ?_ (fun hHd0 => ?_)
                · exact ⟨HY12.out, HX12.out⟩
                refine wpAnyH_take (i := 0) (v := ?_) rfl (by kernel_rfl) (by kernel_rfl) (by kernel_rfl) (fun _ _ _ h => h) (Or.inl ⟨by rfl, ?_⟩) (by with_reducible assumption) ?_
                rotate_left
                · intro w hSw; (try dsimp only at hSw); go_simp <;> with_reducible rfl
                (try simp only [Act.put]); (try simp only [List.setIfInBounds_toArray]); (try simp only [List.set_cons_succ, List.set_cons_zero])
                refine wpAnyH_take (i := 1) (v := ?_) rfl (by kernel_rfl) (by kernel_rfl) (by kernel_rfl) (fun _ _ _ h => h) (Or.inl ⟨by rfl, ?_⟩) (by with_reducible assumption) ?_
                rotate_left
                · intro w hSw; (try dsimp only at hSw); go_simp <;> with_reducible rfl
                (try simp only [Act.put]); (try simp only [List.setIfInBounds_toArray]); (try simp only [List.set_cons_succ, List.set_cons_zero])
                refine wpAnyH_ready (rs := [2]) (by kernel_rfl) (by simp) ?_
                refine AllReadyH.cons (o := _) rfl (fun K hK => ?_) ?_
                · (go_simp; refine (HTT.out w12.drew HB12.out.drew HSM.out.2).mono ?_; rintro e w13 ⟨v13, S13, rfl, ho13, hb13⟩; obtain ⟨J1, j1, rfl⟩ := HOS.out ho13; have hX13 := And.intro (Box34.below (w := w12.drew) HY12.out hb13) (Box34.below (w := w12.drew) HX12.out hb13); have HB13 := Lib.hid (HB12.out.drew.trans (hb13.mono HB12.out.size)); (try dsimp only))
                  refine hK.out _ _ ?_ (fun hHd1 => ?_)
                  · (try dsimp only); first | (with_reducible assumption) | (exact hX13) | (exact hX14)
                  clear hK K hHd0
                  (try simp only [Act.put]); (try simp only [List.setIfInBounds_toArray]); (try simp only [List.set_cons_succ, List.set_cons_zero])
                  refine wpAnyH_ready (rs := [3]) (by kernel_rfl) (by simp) ?_
                  refine AllReadyH.cons (o := _) rfl (fun K hK => ?_) ?_
                  · (go_simp; refine (HEB.out _ _ w13 _ _ (((HO10.out.below (Below.refl _ _).drew).below (hb1112.trans (Below.refl _ _).drew)).below hb13).has ho13.has).mono ?_; rintro e w14 ⟨rfl, hb14⟩; have hX14 := And.intro (Box34.below hX13.1 hb14) (Box34.below hX13.2 hb14); have HB14 := Lib.hid (HB13.out.trans (hb14.mono HB13.out.size)); have hb1314 := hb13.trans (hb14.mono hb13.size); (try dsimp only))
                    refine hK.out _ _ ?_ (fun hHd2 => ?_)
                    · (try dsimp only); first | (with_reducible assumption) | (exact hX13) | (exact hX14)
                    clear hK K hHd1
                    (try simp only [Act.put]); (try simp only [List.setIfInBounds_toArray]); (try simp only [List.set_cons_succ, List.set_cons_zero])
                    refine wpAnyH_ready (rs := [4]) (by kernel_rfl) (by simp) ?_
                    refine AllReadyH.cons (o := _) rfl (fun K hK => ?_) ?_
                    · go_simp
                      refine hK.out _ _ ?_ (fun hHd3 => ?_)
                      · (try dsimp only); first | (with_reducible assumption) | (exact hX13) | (exact hX14)
                      clear hK K hHd2
                      (try simp only [Act.put]); (try simp only [List.setIfInBounds_toArray]); (try simp only [List.set_cons_succ, List.set_cons_zero])
                      refine wpAnyH_done (by kernel_rfl) ?_ _
                      refine NoPanic.normal ?_
                      go_wp2
                      go_ret
                      exact ⟨rfl, HB14.out⟩
                    exact AllReadyH.nil
                  exact AllReadyH.nil
                exact AllReadyH.nil
              exact AllReadyH.nil
            exact AllReadyH.nil
          exact AllReadyH.nil
        exact AllReadyH.nil
      exact AllReadyH.nil
    exact AllReadyH.nil
  exact AllReadyH.nil
set_option maxRecDepth 100000 in
theorem walk {H : Type} {enc : TypeId × Value → H} {W : World} {base : Nat} {v v' : Value} {d d' : DataW H} {p p' : List MemPlace}
    (hval : Value.okWide Tryz.prog W .any base 28 v) (hd : DataW.Trod enc Tryz.prog W 0 (fun _ => true) true 28 v d p) (_hlt : ∀ x ∈ p, x.block < W.heap.size)
    (hval' : Value.okWide Tryz.prog W .any base 31 v') (hd' : DataW.Trod enc Tryz.prog W 0 (fun _ => true) true 31 v' d' p') (_hlt' : ∀ x ∈ p', x.block < W.heap.size) :
    Calls Tryz.prog 3 #[v, v'] W fun e w' => e = .returned (.bool true) ∧ Below W.heap.size W w' := by
  obtain ⟨va, vb, vc, P, Q, O, rfl, h⟩ := sigo.has_sig hval hd
  obtain ⟨n, t, ve, rfl, ht, hB⟩ := termop.has_term hval' hd'
  exact go P Q O va vb vc t ve W h ht hB
end Go.Proofs.YtjejdcehlckfhaaGreat.fnExactSortsOf
