/-
  THE PROGRAM's FUNCTIONS OF THE SORTS OF TERMS: what all ways to take a group of arguments apart give.
-/
import Derived.Test.YtjejdcehlckfhaaGreatTsj
import Derived.Deep.RegionHeld3
namespace Go.Proofs.YtjejdcehlckfhaaGreat.tsk
open Go.ChangeShapes Go.WideShapes Go.ChangeAt Go.RowKit
open mem split strl subs sortn setm sets sortm sortp sorti rowl sigm sigs gramo tsm tsi tsj

/-- an array of 128 sets -/
def ArrF (w : World) (b : Nat) (f : Nat → Nat) : Prop := b < w.heap.size ∧ ∀ x, x < 128 → w.cell? ⟨b, x, none⟩ = some (.int .u16 ((f x : Nat) : Int)) ∧ w.frozen? ⟨b, x, none⟩ = false
theorem ArrF.below {w w' : World} {b : Nat} {f : Nat → Nat} (h : ArrF w b f) {B : Nat} (hB : b < B) (hb : Below B w w') : ArrF w' b f :=
  ⟨Nat.lt_of_lt_of_le h.1 hb.size, fun x hx => ⟨(hb.cell (p := ⟨b, x, none⟩) hB).trans (h.2 x hx).1, (hb.frozen (p := ⟨b, x, none⟩) hB).trans (h.2 x hx).2⟩⟩
abbrev C11 (x : Nat) (nm : List UInt8) (A : Option Addr) (n c : Nat) (a b : Bool) (u : Int) (i s0 s1 s2 s3 s4 : Nat) (w : World) : Prop :=
  w.cell? ⟨x, 0, none⟩ = some (.string (bstr nm)) ∧ w.cell? ⟨x, 1, none⟩ = some (.slice A n c) ∧ w.cell? ⟨x, 2, none⟩ = some (.bool a) ∧ w.cell? ⟨x, 3, none⟩ = some (.bool b) ∧ w.cell? ⟨x, 4, none⟩ = some (.int .i64 u) ∧ w.cell? ⟨x, 5, none⟩ = some (.int .i64 (i : Int)) ∧
  w.cell? ⟨x, 6, none⟩ = some (.int .i64 (s0 : Int)) ∧ w.cell? ⟨x, 7, none⟩ = some (.int .u16 (s1 : Int)) ∧ w.cell? ⟨x, 8, none⟩ = some (.int .u16 (s2 : Int)) ∧ w.cell? ⟨x, 9, none⟩ = some (.int .u16 (s3 : Int)) ∧ w.cell? ⟨x, 10, none⟩ = some (.int .u16 (s4 : Int))
theorem C11.below {x : Nat} {nm : List UInt8} {A : Option Addr} {n c : Nat} {a b : Bool} {u : Int} {i s0 s1 s2 s3 s4 : Nat} {w w' : World} (h : C11 x nm A n c a b u i s0 s1 s2 s3 s4 w) (hb : Below w.heap.size w w') : C11 x nm A n c a b u i s0 s1 s2 s3 s4 w' := by
  have hx : x < w.heap.size := block_lt_of_cell h.1
  have k : ∀ y, w'.cell? ⟨x, y, none⟩ = w.cell? ⟨x, y, none⟩ := fun y => hb.cell (p := ⟨x, y, none⟩) hx
  unfold C11
  rw [k, k, k, k, k, k, k, k, k, k, k]
  exact h
abbrev SGrp (x bl l r : Nat) (nm : List UInt8) (A : Option Addr) (n c : Nat) (a b : Bool) (u : Int) (i s0 s1 s2 s3 s4 : Nat) (fl fr : Nat) (W w : World) : Prop :=
  (C11 x nm A n c a b u i s0 s1 s2 s3 s4 w ∧ w.cell? ⟨bl, l, none⟩ = some (.int .u16 (fl : Int)) ∧ w.cell? ⟨bl, r, none⟩ = some (.int .u16 (fr : Int))) ∧ Below W.heap.size W w
theorem SGrp.of {x bl l r : Nat} {nm : List UInt8} {A : Option Addr} {n c : Nat} {a b : Bool} {u : Int} {i s0 s1 s2 s3 s4 fl fr : Nat} {W w : World} (h : C11 x nm A n c a b u i s0 s1 s2 s3 s4 W) (h1 : W.cell? ⟨bl, l, none⟩ = some (.int .u16 (fl : Int))) (h2 : W.cell? ⟨bl, r, none⟩ = some (.int .u16 (fr : Int))) (hb : Below W.heap.size W w) : SGrp x bl l r nm A n c a b u i s0 s1 s2 s3 s4 fl fr W w :=
  ⟨⟨C11.below h hb, (hb.cell (p := ⟨bl, l, none⟩) (block_lt_of_cell h1)).trans h1, (hb.cell (p := ⟨bl, r, none⟩) (block_lt_of_cell h2)).trans h2⟩, hb⟩

/-- what one part and the rest give -/
def givP (com : Bool) (D : List (List Int × Int)) (f : Nat → Nat) (g l : Nat) : Nat := if com || befo l (rest g l) then giveR D [f l, f (rest g l)] else 0
theorem givP_all (com : Bool) (D : List (List Int × Int)) (f : Nat → Nat) (g : Nat) : orL (givP com D f g) (lefts g) = orL (fun l => giveR D [f l, f (rest g l)]) (leftsC com g) := by
  apply Nat.eq_of_testBit_eq
  intro j
  rw [orL_bit, orL_bit, leftsC, List.any_filter, Bool.eq_iff_iff, List.any_eq_true, List.any_eq_true]
  constructor
  · rintro ⟨l, hl, e⟩
    refine ⟨l, hl, ?_⟩
    unfold givP at e
    split at e
    · rename_i hc; rw [hc, e]; rfl
    · rw [Nat.zero_testBit] at e; cases e
  · rintro ⟨l, hl, e⟩
    refine ⟨l, hl, ?_⟩
    rw [Bool.and_eq_true] at e
    rw [givP, if_pos e.1]
    exact e.2
theorem orL_cons {α : Type} (f : α → Nat) (x : α) (L : List α) : orL f (x :: L) = f x ||| orL f L := by
  apply Nat.eq_of_testBit_eq
  intro j
  rw [Nat.testBit_or, orL_bit, orL_bit, List.any_cons]
theorem u16_lit2 (w : World) (x y : Nat) : Has (w.alloc (.cells #[.int .u16 (x : Int), .int .u16 (y : Int)] 75)) (.slice (some ⟨w.heap.size, 0, none⟩) 2 2) (u16s [x, y]) := by
  refine ⟨_, 2, rfl, by simp [u16s], by unfold maxLen; omega, fun j v hv => ⟨w.heap.size, 0, rfl, by simp, ?_⟩⟩
  match j, hv with
  | 0, hv => simp [u16s] at hv; subst hv; simp
  | 1, hv => simp [u16s] at hv; subst hv; simp
set_option maxRecDepth 20000 in
set_option maxHeartbeats 4000000 in
/-- groupSorts.results -/
theorem grpResults_any {n : Nat} (hn : n ≤ 8) (nm : List UInt8) (Ad : Option Addr) (dn cd : Nat) (a com : Bool) (u : Int) (i s0 s1 s2 s3 s4 : Nat) (D : List (List Int × Int)) (g : Nat) (h0 : 0 < g) (hg : g < 128) (f : Nat → Nat) (hf : ∀ x, f x < 65536) (bl : Nat) (w : World) (hA : ArrF w bl f) (hD : HasD 0 w (.slice Ad dn cd) D) (hDN : DeclN n 2 D) :
    Calls Tryz.prog 185 #[.pointer (some ⟨bl, 0, none⟩), aggE nm Ad dn cd a com u i s0 s1 s2 s3 s4, .int .u16 (g : Int)] w fun e w' => e = .returned (.int .u16 ((orL (fun l => giveR D [f l, f (rest g l)]) (leftsC com g) : Nat) : Int)) ∧ Below w.heap.size w w' := by
  rw [← givP_all]
  have hpn := pow8 hn
  have HPL := Lib.hid (fun l => show givP com D f g l < 256 by
    unfold givP
    split
    · exact Nat.lt_of_lt_of_le (giveR_lt hDN _) hpn
    · decide)
  have HOR := Lib.hid (fun l W (hW : Below w.heap.size w W) va (h1 : Has W va (u16s [f l, f (rest g l)])) => opResults_any hn nm Ad dn cd a com u i s0 s1 s2 s3 s4 D [f l, f (rest g l)] va W (hD.below RD_steady (Nat.le_refl _) hW) hDN (Nat.le_refl _) (fun i => by
    match i with
    | 0 => exact hf _
    | 1 => exact hf _
    | i + 2 => simp) h1)
  have HAR := Lib.hid (fun W (hW : Below w.heap.size w W) => hA.below hA.1 hW)
  have HLF := Lib.hid (lefts_from g)
  have hbl := hA.1
  obtain ⟨W, hW⟩ : ∃ W, W = w.alloc (.cells #[.string (bstr nm), .slice Ad dn cd, .bool a, .bool com, .int .i64 u, .int .i64 (i : Int), .int .i64 (s0 : Int), .int .u16 (s1 : Int), .int .u16 (s2 : Int), .int .u16 (s3 : Int), .int .u16 (s4 : Int)] 102) := ⟨_, rfl⟩
  have hb0 : Below w.heap.size w W := by rw [hW]; exact (Below.refl _ _).alloc (Nat.le_refl _) _
  have hX0 : C11 w.heap.size nm Ad dn cd a com u i s0 s1 s2 s3 s4 W := by
    rw [hW]
    refine ⟨?_, ?_, ?_, ?_, ?_, ?_, ?_, ?_, ?_, ?_, ?_⟩ <;> simp
  have HB0 := Lib.hid hb0
  have HX0 := Lib.hid hX0
  have hs1 : bits .and .u16 ((g : Int) - 1) (g : Int) = (((g - 1) &&& g : Nat) : Int) := by
    have := and_u16 (g - 1) g (by omega) (by omega)
    rw [show (((g - 1 : Nat)) : Int) = (g : Int) - 1 by omega] at this
    exact this
  have hw1 : IntKind.u16.wrap ((g : Int) - 1) = (g : Int) - 1 := wraps_u16 _ (by omega) (by omega)
  have hfst : g &&& ((g - 1) &&& g) = (g - 1) &&& g := by rw [Nat.and_comm (g - 1) g, ← Nat.and_assoc, Nat.and_self]
  have hle : (g - 1) &&& g ≤ g - 1 := Nat.and_le_left
  have HFST := Lib.hid (And.intro hfst hle)
  obtain ⟨T, hT⟩ : ∃ T, T = orL (givP com D f g) (lefts g) := ⟨_, rfl⟩
  have HT := Lib.hid hT
  rw [← hT]
  obtain ⟨l0, hl0⟩ : ∃ l0, l0 = (g - 1) &&& g := ⟨_, rfl⟩
  rw [← hl0] at HLF hs1 HFST
  clear hA hD hDN hf hb0 hX0 hfst hle hT hl0
  go_enter Tryz.func185, Tryz.ntmps185
  go_wp2
  rw [← hW]
  clear hW
  go_loopw [7, 8, 9] (fun s v8 _ wr => ∃ acc l : Nat, s = .int .u16 (acc : Int) ∧ v8 = .int .u16 (l : Int) ∧ acc < 256 ∧ l < g ∧ Hid (g &&& l = l ∧ acc ||| orL (givP com D f g) (leftsFrom g l) = T) ∧ Hid (Below W.heap.size W wr)) (fun _ v _ _ => (intOf v).toNat)
  case atStart => exact ⟨0, l0, rfl, rfl, by decide, by have := HFST.out.2; omega, Lib.hid ⟨HFST.out.1, by rw [Nat.zero_or, ← HLF.out, ← HT.out]⟩, Lib.hid (Below.refl _ _)⟩
  case round =>
    obtain ⟨acc, l, rfl, rfl, hac, hlg, HI, HB⟩ := hrel
    have hsz := HB.out.size
    by_cases hl0 : l = 0
    · subst hl0
      have HQ : Hid (acc = T) := Lib.hid (by have := HI.out.2; rw [leftsFrom_zero] at this; simpa [orL] using this)
      go_wp2
      go_ret
      exact ⟨ret_int (by rw [HQ.out]), HB0.out.trans (HB.out.mono HB0.out.size)⟩
    · have hr1 := rest_lt HI.out.1 (by omega)
      have hr2 := rest_pos HI.out.1 hlg
      have han : bits .andNot .u16 (g : Int) (l : Int) = ((rest g l : Nat) : Int) := by rw [andNot_u16 g l (by omega) (by omega), rest_sub HI.out.1]; rfl
      have hs2 : bits .and .u16 ((l : Int) - 1) (g : Int) = (((l - 1) &&& g : Nat) : Int) := by
        have := and_u16 (l - 1) g (by omega) (by omega)
        rw [show (((l - 1 : Nat)) : Int) = (l : Int) - 1 by omega] at this
        exact this
      have hw2 : IntKind.u16.wrap ((l : Int) - 1) = (l : Int) - 1 := wraps_u16 _ (by omega) (by omega)
      have hle : (l - 1) &&& g ≤ l - 1 := Nat.and_le_left
      have HN : Hid (g &&& ((l - 1) &&& g) = (l - 1) &&& g ∧ (acc ||| givP com D f g l) ||| orL (givP com D f g) (leftsFrom g ((l - 1) &&& g)) = T) := Lib.hid ⟨by rw [Nat.and_comm (l - 1) g, ← Nat.and_assoc, Nat.and_self], by
        have := HI.out.2
        rw [leftsFrom_cons g l hl0, orL_cons] at this
        rw [Nat.or_assoc]; exact this⟩
      have HPV : Hid (givP com D f g l = if com || befo l (rest g l) then giveR D [f l, f (rest g l)] else 0) := Lib.hid rfl
      have hp := HPL.out l
      obtain ⟨l2, hl2⟩ : ∃ l2, l2 = (l - 1) &&& g := ⟨_, rfl⟩
      rw [← hl2] at hs2 hle HN
      have hbw := HB0.out.trans (HB.out.mono HB0.out.size)
      have HBW := Lib.hid hbw
      obtain ⟨q1, q2⟩ := (HAR.out wr hbw).2 l (by omega)
      obtain ⟨q3, q4⟩ := (HAR.out wr hbw).2 (rest g l) (by omega)
      have HOP := Lib.hid (HOR.out l)
      have HBF := Lib.hid (fun r hr W => nbefore_any l (rest g l) (by omega) (by omega) r hr W)
      obtain ⟨rr, hrr⟩ : ∃ rr, rr = rest g l := ⟨_, rfl⟩
      rw [← hrr] at hr1 hr2 han q3 q4 HOP HBF HPV
      obtain ⟨fl, hfl⟩ : ∃ q, q = f l := ⟨_, rfl⟩
      obtain ⟨fr, hfr⟩ : ∃ q, q = f rr := ⟨_, rfl⟩
      rw [← hfl] at q1
      rw [← hfr] at q3
      rw [← hfl, ← hfr] at HOP HPV
      obtain ⟨pv, hpv⟩ : ∃ q, q = givP com D f g l := ⟨_, rfl⟩
      rw [← hpv] at HN hp HPV
      obtain ⟨gv, hgv⟩ : ∃ q, q = giveR D [fl, fr] := ⟨_, rfl⟩
      rw [← hgv] at HOP HPV
      have HX := Lib.hid (C11.below HX0.out HB.out)
      have ho16 : acc ||| pv < 256 := Nat.or_lt_two_pow (n := 8) hac hp
      have hor := or_u16 acc pv (by omega) (by omega)
      clear hl2 hrr hfl hfr hpv hgv hbw q2 q4
      have hmid : ∀ ob, Below wr.heap.size wr (wr.alloc ob).drew := fun ob => ((Below.refl _ _).alloc (Nat.le_refl _) ob).drew
      have i1 : (0 : Int) ≤ (l : Int) := by omega
      have i2 : (l : Int) < 128 := by omega
      have i3 : (0 : Int) ≤ (rr : Int) := by omega
      have i4 : (rr : Int) < 128 := by omega
      have HMID := Lib.hid hmid
      clear hmid
      by_cases hc : (com || befo l rr) = true
      · have HG : Hid (pv = gv) := Lib.hid (by rw [HPV.out, if_pos hc])
        rw [HG.out] at hor ho16
        have HN2 : Hid (g &&& l2 = l2 ∧ (acc ||| gv) ||| orL (givP com D f g) (leftsFrom g l2) = T) := Lib.hid (by rw [← HG.out]; exact HN.out)
        obtain ⟨y0, y1, y2, y3, y4, y5, y6, y7, y8, y9, y10⟩ := HX.out
        cases hcom : com with
        | true =>
          subst hcom
          clear hc
          go_wp2_with fail
          go_region_held3 (SGrp w.heap.size bl l rr nm Ad dn cd a true u i s0 s1 s2 s3 s4 fl fr wr)
            (exact SGrp.of HX.out q1 q3 (by first | exact (Below.refl _ _).drew | exact HMID.out _ | assumption))
            ((go_at_call 151; refine (HOP.out _ (HBW.out.trans ((HMID.out _).mono HBW.out.size)) _ (u16_lit2 _ fl fr)).mono ?_; rintro e w1 ⟨rfl, hb1⟩; have hb1' := (HMID.out (.cells #[.int .u16 (fl : Int), .int .u16 (fr : Int)] 75)).trans (hb1.mono (HMID.out _).size); clear hb1))
          go_wp2
          have HB6 : Hid (Below W.heap.size W w1) := Lib.hid (HB.out.trans (Below.mono (by go_split_ands; assumption) hsz))
          go_roundw
          case rel => exact ⟨acc ||| gv, l2, by rw [← hor], rfl, ho16, by omega, HN2, HB6⟩
          case measure => simp [intOf]; omega
        | false =>
          subst hcom
          have HBE := Lib.hid (HBF.out true (by simpa using hc))
          clear hc
          go_wp2_with (go_at_call 215; refine (HBE.out _).mono ?_; rintro e w0 ⟨rfl, rfl⟩)
          go_region_held3 (SGrp w.heap.size bl l rr nm Ad dn cd a false u i s0 s1 s2 s3 s4 fl fr wr)
            (exact SGrp.of HX.out q1 q3 (by first | exact (Below.refl _ _).drew | exact HMID.out _ | assumption))
            ((go_at_call 151; refine (HOP.out _ (HBW.out.trans ((HMID.out _).mono HBW.out.size)) _ (u16_lit2 _ fl fr)).mono ?_; rintro e w1 ⟨rfl, hb1⟩; have hb1' := (HMID.out (.cells #[.int .u16 (fl : Int), .int .u16 (fr : Int)] 75)).trans (hb1.mono (HMID.out _).size); clear hb1))
          go_wp2
          have HB6 : Hid (Below W.heap.size W w1) := Lib.hid (HB.out.trans (Below.mono (by go_split_ands; assumption) hsz))
          go_roundw
          case rel => exact ⟨acc ||| gv, l2, by rw [← hor], rfl, ho16, by omega, HN2, HB6⟩
          case measure => simp [intOf]; omega
      · have HG : Hid (pv = 0) := Lib.hid (by rw [HPV.out, if_neg hc])
        have HN2 : Hid (g &&& l2 = l2 ∧ acc ||| orL (givP com D f g) (leftsFrom g l2) = T) := Lib.hid (by have := HN.out; rw [HG.out, Nat.or_zero] at this; exact this)
        obtain ⟨y0, y1, y2, y3, y4, y5, y6, y7, y8, y9, y10⟩ := HX.out
        cases hcom : com with
        | true => rw [hcom] at hc; simp at hc
        | false =>
          subst hcom
          have HBE := Lib.hid (HBF.out false (by simpa using hc))
          clear hc
          go_wp2_with (go_at_call 215; refine (HBE.out _).mono ?_; rintro e w0 ⟨rfl, rfl⟩)
          go_roundw
          case rel => exact ⟨acc, l2, rfl, rfl, hac, by omega, HN2, HB⟩
          case measure => simp [intOf]; omega
end Go.Proofs.YtjejdcehlckfhaaGreat.tsk
