/-
  THE PROGRAM's FUNCTIONS OF THE SORTS OF TERMS: firstNumbers, waysToCombine, resultSorts.
-/
import Derived.Test.YtjejdcehlckfhaaGreatTsk
namespace Go.Proofs.YtjejdcehlckfhaaGreat.tsl
open Go.ChangeShapes Go.WideShapes Go.ChangeAt Go.RowKit
open mem split strl subs sortn setm sets sortm sortp sorti rowl sigm sigs gramo tsm tsi tsj tsk

theorem ArrF.set {w : World} {b : Nat} {f : Nat → Nat} (h : ArrF w b f) {x : Nat} (hx : x < 128) (v : Nat) : ArrF (w.setCell ⟨b, x, none⟩ (.int .u16 (v : Int))) b (fun y => if y = x then v else f y) := by
  refine ⟨by rw [show (w.setCell ⟨b, x, none⟩ (.int .u16 (v : Int))).heap.size = w.heap.size by simp [World.setCell]]; exact h.1, fun y hy => ⟨?_, ?_⟩⟩
  · by_cases e : y = x
    · subst e
      simp only [if_pos]
      exact World.cell?_setCell_same _ _ _ (h.2 y hy).1
    · simp only [if_neg e]
      rw [World.cell?_setCell_other w ⟨b, x, none⟩ ⟨b, y, none⟩ _ (fun e' => e (by injection e' with _ h _; exact h.symm))]
      exact (h.2 y hy).1
  · rw [World.frozen?_setCell]
    exact (h.2 y hy).2
theorem zero128 : Tryz.zeroCells227 = Array.replicate 128 (.int .u16 0) := by kernel_rfl
theorem ArrF.new (w : World) : ArrF (w.alloc (.cells Tryz.zeroCells227 227)) w.heap.size (fun _ => 0) := by
  rw [zero128]
  refine ⟨by simp, fun x hx => ⟨?_, ?_⟩⟩
  · refine (cell_of_row _ _ x _ _ _ (termt.heap_at _ _ _ rfl)).trans ?_
    simp [hx]
  · simp
theorem heap3a (w : World) (o1 o2 o3 : Obj) : (((w.alloc o1).alloc o2).alloc o3).heap[w.heap.size]? = some o1 := by
  show (((w.heap.push o1).push o2).push o3)[w.heap.size]? = some o1
  rw [Array.getElem?_push, if_neg (by simp; try omega), Array.getElem?_push, if_neg (by simp; try omega), Array.getElem?_push, if_pos rfl]
theorem heap3b (w : World) (o1 o2 o3 : Obj) : (((w.alloc o1).alloc o2).alloc o3).heap[w.heap.size + 1]? = some o2 := by
  show (((w.heap.push o1).push o2).push o3)[w.heap.size + 1]? = some o2
  rw [Array.getElem?_push, if_neg (by simp; try omega), Array.getElem?_push, if_pos (by simp; try omega)]
theorem heap2a (w : World) (o1 o2 : Obj) : ((w.alloc o1).alloc o2).heap[w.heap.size]? = some o1 := by
  show ((w.heap.push o1).push o2)[w.heap.size]? = some o1
  rw [Array.getElem?_push, if_neg (by simp; try omega), Array.getElem?_push, if_pos rfl]
theorem box3 {w : World} {x : Nat} {v0 v1 v2 : Value} {t : TypeId} (h : w.heap[x]? = some (.cells #[v0, v1, v2] t (0, 0))) : w.cell? ⟨x, 0, none⟩ = some v0 ∧ w.cell? ⟨x, 1, none⟩ = some v1 ∧ w.cell? ⟨x, 2, none⟩ = some v2 :=
  ⟨cell_of_row w x 0 _ _ _ h, cell_of_row w x 1 _ _ _ h, cell_of_row w x 2 _ _ _ h⟩
theorem box11 {w : World} {x : Nat} {nm : List UInt8} {A : Option Addr} {n c : Nat} {a b : Bool} {u : Int} {i s0 s1 s2 s3 s4 : Nat} {t : TypeId} (h : w.heap[x]? = some (.cells #[.string (bstr nm), .slice A n c, .bool a, .bool b, .int .i64 u, .int .i64 (i : Int), .int .i64 (s0 : Int), .int .u16 (s1 : Int), .int .u16 (s2 : Int), .int .u16 (s3 : Int), .int .u16 (s4 : Int)] t (0, 0))) : C11 x nm A n c a b u i s0 s1 s2 s3 s4 w :=
  ⟨cell_of_row w x 0 _ _ _ h, cell_of_row w x 1 _ _ _ h, cell_of_row w x 2 _ _ _ h, cell_of_row w x 3 _ _ _ h, cell_of_row w x 4 _ _ _ h, cell_of_row w x 5 _ _ _ h, cell_of_row w x 6 _ _ _ h, cell_of_row w x 7 _ _ _ h, cell_of_row w x 8 _ _ _ h, cell_of_row w x 9 _ _ _ h, cell_of_row w x 10 _ _ _ h⟩
abbrev SCmb (x y : Nat) (mm um : Option Nat) (Ao : Option Addr) (no co : Nat) (nm : List UInt8) (A : Option Addr) (n c : Nat) (a b : Bool) (u : Int) (i s0 s1 s2 s3 s4 : Nat) (B : Nat) (W w : World) : Prop :=
  ((w.cell? ⟨x, 0, none⟩ = some (.map mm) ∧ w.cell? ⟨x, 1, none⟩ = some (.slice Ao no co) ∧ w.cell? ⟨x, 2, none⟩ = some (.map um)) ∧ C11 y nm A n c a b u i s0 s1 s2 s3 s4 w) ∧ Below B W w
theorem C11.belowB {x : Nat} {nm : List UInt8} {A : Option Addr} {n c : Nat} {a b : Bool} {u : Int} {i s0 s1 s2 s3 s4 : Nat} {w w' : World} {B : Nat} (h : C11 x nm A n c a b u i s0 s1 s2 s3 s4 w) (hx : x < B) (hb : Below B w w') : C11 x nm A n c a b u i s0 s1 s2 s3 s4 w' := by
  have k : ∀ y, w'.cell? ⟨x, y, none⟩ = w.cell? ⟨x, y, none⟩ := fun y => hb.cell (p := ⟨x, y, none⟩) hx
  unfold C11
  rw [k, k, k, k, k, k, k, k, k, k, k]
  exact h
theorem SCmb.of {x y : Nat} {mm um : Option Nat} {Ao : Option Addr} {no co : Nat} {nm : List UInt8} {A : Option Addr} {n c : Nat} {a b : Bool} {u : Int} {i s0 s1 s2 s3 s4 B : Nat} {W w : World} (h : SCmb x y mm um Ao no co nm A n c a b u i s0 s1 s2 s3 s4 B W W) (hx : x < B) (hy : y < B) (hb : Below B W w) : SCmb x y mm um Ao no co nm A n c a b u i s0 s1 s2 s3 s4 B W w := by
  have k : ∀ z, w.cell? ⟨x, z, none⟩ = W.cell? ⟨x, z, none⟩ := fun z => hb.cell (p := ⟨x, z, none⟩) hx
  refine ⟨⟨?_, C11.belowB h.1.2 hy hb⟩, hb⟩
  rw [k, k, k]
  exact h.1.1
/-- firstNumbers -/
theorem first_any (n : Nat) (hn : n ≤ 15) (w : World) : Calls Tryz.prog 149 #[.int .i64 (n : Int)] w fun e w' => e = .returned (.int .u16 ((2 ^ n - 1 : Nat) : Int)) ∧ w' = w := by
  have h1 : 2 ^ n ≤ 32768 := Nat.pow_le_pow_right (n := 2) (j := 15) (by decide) hn
  have h0 : 0 < 2 ^ n := Nat.two_pow_pos n
  have hw1 : IntKind.u16.wrap (2 ^ n) = ((2 ^ n : Nat) : Int) := by
    have e : (2 : Int) ^ n = ((2 ^ n : Nat) : Int) := by simp
    rw [e]; exact wraps_u16 _ (by omega) (by omega)
  have hn0 : ¬ (n : Int) < 0 := by omega
  obtain ⟨z, hz⟩ : ∃ z, z = 2 ^ n := ⟨_, rfl⟩
  rw [← hz] at h1 h0 hw1 ⊢
  obtain ⟨m, hm⟩ : ∃ m, m = z - 1 := ⟨_, rfl⟩
  have hw2 : IntKind.u16.wrap ((z : Int) - 1) = (m : Int) := by rw [wraps_u16 _ (by omega) (by omega)]; omega
  rw [← hm]
  clear hz hm h1 h0
  go_enter Tryz.func149, Tryz.ntmps149
  go_wp2
  go_ret
  exact ⟨rfl, rfl⟩
set_option maxRecDepth 20000 in
set_option maxHeartbeats 4000000 in
/-- sortRules.waysToCombine: all ways -/
theorem ways_any (U : List Nat) (hU : Lim U) (mm um : Option Nat) (Ao : Option Addr) (no co : Nat) (nm : List UInt8) (Ad : Option Addr) (dn cd : Nat) (a com : Bool) (u : Int) (i s0 s1 s2 s3 s4 : Nat) (D : List (List Int × Int)) (A : List Nat) (h2 : 2 ≤ A.length) (h7 : A.length ≤ 7) (hA : ∀ i, A.getD i 0 < 2 ^ U.length) (va : Value) (w : World) (hM : MapU w (.map um) U) (hD : HasD 0 w (.slice Ad dn cd) D) (hDN : DeclN U.length 2 D) (hva : Has w va (u16s A)) :
    Calls Tryz.prog 148 #[.agg #[.map mm, .slice Ao no co, .map um], aggE nm Ad dn cd a com u i s0 s1 s2 s3 s4, va] w fun e w' => ∃ (b : Nat) (f : Nat → Nat), e = .returned (.pointer (some ⟨b, 0, none⟩)) ∧ w.heap.size ≤ b ∧ ArrF w' b f ∧ Done com U D A (A.length + 1) 0 f ∧ (∀ x, f x < 2 ^ U.length) ∧ Below w.heap.size w w' := by
  have hpn := pow8 hU.1
  obtain ⟨p, hp⟩ : ∃ p, p = A.length := ⟨_, rfl⟩
  obtain ⟨Aa, ca, rfl, hva⟩ := hva.shape (n := p) (by rw [u16s_len, hp])
  have HUP := Lib.hid (fun S (hS : S < 65536) W (hW : Below w.heap.size w W) => upward_any U hU S hS (.map um) W (hM.below hW))
  have HGR := Lib.hid (fun g (g0 : 0 < g) (gh : g < 128) f (hf : ∀ x, f x < 65536) bl W (hW : Below w.heap.size w W) (hAr : ArrF W bl f) => grpResults_any hU.1 nm Ad dn cd a com u i s0 s1 s2 s3 s4 D g g0 gh f hf bl W hAr (hD.below RD_steady (Nat.le_refl _) hW) hDN)
  have HVA := Lib.hid (fun W (hW : Below w.heap.size w W) => hva.below (Nat.le_refl _) hW)
  have HP := Lib.hid hp
  have HAL := Lib.hid hA
  have HLIM := Lib.hid hU
  have HDN := Lib.hid hDN
  have hla := hva.len.2
  rw [← hp] at h2 h7 ⊢
  have hz7 : 2 ^ p ≤ 128 := Nat.pow_le_pow_right (n := 2) (j := 7) (by decide) h7
  have hz1 : 2 ^ 2 ≤ 2 ^ p := Nat.pow_le_pow_right (by decide) h2
  have HFN := Lib.hid (first_any p (by omega))
  have HZ : Hid (2 ^ A.length = 2 ^ p) := Lib.hid (by rw [HP.out])
  obtain ⟨z, hz⟩ : ∃ z, z = 2 ^ p := ⟨_, rfl⟩
  rw [← hz] at hz7 hz1 HFN HZ
  obtain ⟨m, hm⟩ : ∃ m, m = z - 1 := ⟨_, rfl⟩
  have hw3 : IntKind.u16.wrap ((m : Int) + 1) = (z : Int) := by rw [wraps_u16 _ (by omega) (by omega)]; omega
  have hmz : m + 1 = z := by omega
  rw [← hm] at HFN
  clear hz hm
  obtain ⟨W, hW⟩ : ∃ W, W = ((w.alloc (.cells #[.map mm, .slice Ao no co, .map um] 82)).alloc (.cells #[.string (bstr nm), .slice Ad dn cd, .bool a, .bool com, .int .i64 u, .int .i64 (i : Int), .int .i64 (s0 : Int), .int .u16 (s1 : Int), .int .u16 (s2 : Int), .int .u16 (s3 : Int), .int .u16 (s4 : Int)] 102)).alloc (.cells Tryz.zeroCells227 227) := ⟨_, rfl⟩
  have hb0 : Below w.heap.size w W := by
    rw [hW]
    repeat (first | exact Below.refl _ _ | refine Below.alloc ?_ (by first | (simp; done) | (simp; omega)) _)
  have hX0 : SCmb w.heap.size (w.heap.size + 1) mm um Ao no co nm Ad dn cd a com u i s0 s1 s2 s3 s4 (w.heap.size + 2) W W := by
    rw [hW]
    exact ⟨⟨box3 (heap3a _ _ _ _), box11 (heap3b _ _ _ _)⟩, Below.refl _ _⟩
  have hA0 : ArrF W (w.heap.size + 2) (fun _ => 0) := by
    rw [hW]
    have := ArrF.new ((w.alloc (.cells #[.map mm, .slice Ao no co, .map um] 82)).alloc (.cells #[.string (bstr nm), .slice Ad dn cd, .bool a, .bool com, .int .i64 u, .int .i64 (i : Int), .int .i64 (s0 : Int), .int .u16 (s1 : Int), .int .u16 (s2 : Int), .int .u16 (s3 : Int), .int .u16 (s4 : Int)] 102))
    simpa using this
  have HB0 := Lib.hid hb0
  have HX0 := Lib.hid hX0
  have HA0 := Lib.hid hA0
  clear hM hD hDN hva hA hp hb0 hX0 hA0
  go_enter Tryz.func148, Tryz.ntmps148
  go_wp2
  rw [← hW]
  clear hW
  go_loopw [8, 9, 16] (fun _ _ v16 wr => ∃ (k : Nat) (f : Nat → Nat), v16 = .int .i64 k ∧ k ≤ p ∧ Hid (∀ i, i < k → f (2 ^ i) = A.getD i 0) ∧ Hid (∀ x, f x < 2 ^ U.length) ∧ Hid (ArrF wr (w.heap.size + 2) f) ∧ Hid (Below (w.heap.size + 2) W wr)) (fun _ _ v _ => p - (intOf v).toNat)
  case atStart => exact ⟨0, fun _ => 0, rfl, Nat.zero_le _, Lib.hid (fun i hi => absurd hi (Nat.not_lt_zero _)), Lib.hid (fun _ => Nat.two_pow_pos _), HA0, Lib.hid (Below.refl _ _)⟩
  case round =>
    obtain ⟨k, f, rfl, hk, HF, HFL, HAR, HB⟩ := hrel
    have hbw := HB0.out.trans (HB.out.mono (by omega))
    have hs3 := HAR.out.1
    by_cases hlt : k < p
    · obtain ⟨g, o, rfl, hg, hcell⟩ := (HVA.out wr hbw).cellAt hlt
      rw [u16s_get _ k (by have := HP.out; omega)] at hcell
      have hk7 : 2 ^ k < 128 := Nat.pow_lt_pow_right (a := 2) (m := k) (n := 7) (by decide) (by omega)
      have hwr : wrap64 (2 ^ k) = ((2 ^ k : Nat) : Int) := by
        have e : (2 : Int) ^ k = ((2 ^ k : Nat) : Int) := by simp
        rw [e]
        obtain ⟨b, hb⟩ : ∃ b, b = 2 ^ k := ⟨_, rfl⟩
        rw [← hb] at hk7 ⊢
        unfold wrap64; omega
      obtain ⟨c0, c1⟩ := HAR.out.2 (2 ^ k) hk7
      obtain ⟨av, hav⟩ : ∃ q, q = A.getD k 0 := ⟨_, rfl⟩
      rw [← hav] at hcell
      have HF2 : Hid (∀ i, i < k + 1 → (fun y => if y = 2 ^ k then av else f y) (2 ^ i) = A.getD i 0) := Lib.hid (fun i hi => by
        by_cases e : i = k
        · subst e; simp only [if_pos]; exact hav
        · have : 2 ^ i ≠ 2 ^ k := Nat.ne_of_lt (Nat.pow_lt_pow_right (by decide) (by omega))
          simp only [if_neg this]
          exact HF.out i (by omega))
      have HFL2 : Hid (∀ x, (fun y => if y = 2 ^ k then av else f y) x < 2 ^ U.length) := Lib.hid (fun x => by
        by_cases e : x = 2 ^ k
        · simp only [if_pos e]; rw [hav]; exact HAL.out k
        · simp only [if_neg e]; exact HFL.out x)
      have HA2 := Lib.hid (ArrF.set HAR.out hk7 av)
      obtain ⟨y, hy⟩ : ∃ y, y = 2 ^ k := ⟨_, rfl⟩
      rw [← hy] at hk7 hwr c0 c1 HF2 HFL2 HA2
      have i1 : (0 : Int) ≤ (k : Int) := by omega
      have i2 : (k : Int) < (p : Int) := by omega
      have i3 : (0 : Int) ≤ (y : Int) := by omega
      have i4 : (y : Int) < 128 := by omega
      have HB2 := Lib.hid (HB.out.setCell (p := ⟨w.heap.size + 2, y, none⟩) (Nat.le_refl _) (.int .u16 (av : Int)))
      clear hav hy
      go_wp2
      go_region
      go_wp2
      go_roundw
      case rel => exact ⟨k + 1, _, by go_num, by omega, HF2, HFL2, HA2, Lib.hid HB2.out.drew⟩
      case measure => simp [intOf]; omega
    · obtain rfl : k = p := by omega
      clear hlt
      have HD0 : Hid (Done com U D A 2 0 f) := Lib.hid (done_first (by have := HP.out; omega) (fun i hi => HF.out i (by have := HP.out; omega)))
      clear HF
      clear hs3
      go_wp2
      go_loopw [10] (fun v11 wr => ∃ (s : Nat) (f : Nat → Nat), v11 = .int .i64 s ∧ 2 ≤ s ∧ s ≤ k + 1 ∧ Hid (Done com U D A s 0 f) ∧ Hid (∀ x, f x < 2 ^ U.length) ∧ Hid (ArrF wr (w.heap.size + 2) f) ∧ Hid (Below (w.heap.size + 2) W wr)) (fun v _ => k + 1 - (intOf v).toNat)
      case atStart => exact ⟨2, f, rfl, Nat.le_refl _, by omega, HD0, HFL, HAR, HB⟩
      case round =>
        clear HD0 HFL HAR HB hbw
        obtain ⟨s, f, rfl, hs2, hsk, HDN2, HFL, HAR, HB⟩ := hrel
        by_cases hlt : s ≤ k
        · have d1 : decide ((s : Int) ≤ (k : Int)) = true := decide_eq_true (by omega)
          go_wp2_with (go_at_call 149; refine (HFN.out _).mono ?_; rintro e w0 ⟨rfl, rfl⟩)
          go_loopw [38] (fun v37 wr => ∃ (g : Nat) (f : Nat → Nat), v37 = .int .u16 g ∧ g ≤ z ∧ Hid (Done com U D A s g f) ∧ Hid (∀ x, f x < 2 ^ U.length) ∧ Hid (ArrF wr (w.heap.size + 2) f) ∧ Hid (Below (w.heap.size + 2) W wr)) (fun v _ => z - (intOf v).toNat)
          case atStart => exact ⟨0, f, rfl, Nat.zero_le _, HDN2, HFL, HAR, HB⟩
          case round =>
            clear HDN2 HFL HAR HB
            obtain ⟨g, f, rfl, hgz, HDN2, HFL, HAR, HB⟩ := hrel
            have hbw := HB0.out.trans (HB.out.mono (by omega))
            have HBW := Lib.hid hbw
            have hs3 := HAR.out.1
            by_cases hgl : g < z
            · have HCN := Lib.hid (fun W => ncount_any g (by omega) W)
              have hwg : IntKind.u16.wrap ((g : Int) + 1) = (g : Int) + 1 := wraps_u16 _ (by omega) (by omega)
              rw [show (els g).length = cnt g from rfl] at HCN
              have hc7 := (cnt_small ⟨g, by omega⟩).1
              simp only at hc7
              by_cases hc : cnt g = s
              · have HRS := Lib.hid (done_give (by have := HP.out; omega) HDN2.out hc hs2 (by rw [HZ.out]; exact hgl))
                have hg0 : 0 < g := Nat.pos_of_ne_zero (fun e => by rw [e] at hc; rw [show cnt 0 = 0 from by decide] at hc; omega)
                rw [hc] at HCN
                have HG := Lib.hid (fun W hW hA => HGR.out g hg0 (by omega) f (fun x => Nat.lt_of_lt_of_le (HFL.out x) (by omega)) (w.heap.size + 2) W hW hA)
                have hgl16 : orL (fun l => giveR D [f l, f (rest g l)]) (leftsC com g) < 65536 := Nat.lt_of_lt_of_le (orL_lt _ _ U.length (fun l _ => giveR_lt HDN.out _)) (by omega)
                obtain ⟨gv, hgv⟩ : ∃ q, q = orL (fun l => giveR D [f l, f (rest g l)]) (leftsC com g) := ⟨_, rfl⟩
                rw [← hgv] at HG HRS hgl16
                have HU2 := Lib.hid (HUP.out gv hgl16)
                have HD3 : Hid (Done com U D A s (g + 1) (fun x => if x = g then upC U gv else f x)) := Lib.hid (done_fill HDN2.out HRS.out.symm)
                have HFL2 : Hid (∀ x, (fun x => if x = g then upC U gv else f x) x < 2 ^ U.length) := Lib.hid (fun x => by
                  by_cases e : x = g
                  · simp only [if_pos e]; exact upC_lt HLIM.out gv
                  · simp only [if_neg e]; exact HFL.out x)
                obtain ⟨uv, huv⟩ : ∃ q, q = upC U gv := ⟨_, rfl⟩
                rw [← huv] at HU2 HD3 HFL2
                have HX := Lib.hid (SCmb.of HX0.out (by omega) (by omega) HB.out)
                have HX1 : Hid (SCmb w.heap.size (w.heap.size + 1) mm um Ao no co nm Ad dn cd a com u i s0 s1 s2 s3 s4 (w.heap.size + 2) wr wr) := Lib.hid ⟨HX.out.1, Below.refl _ _⟩
                have i1 : (0 : Int) ≤ (g : Int) := by omega
                have i2 : (g : Int) < 128 := by omega
                clear hc hgv huv hgl16 hbw HRS hg0
                go_wp2_with (go_at_call 48; refine (HCN.out _).mono ?_; rintro e w0 ⟨rfl, nq, rfl⟩)
                have hbq : Below (w.heap.size + 3) wr (wr.drewN nq).drew := (below_drewN (Below.refl _ _) nq).drew
                have HBQ := Lib.hid hbq
                clear hbq
                obtain ⟨⟨z0, z1, z2⟩, y0, y1, y2, y3, y4, y5, y6, y7, y8, y9, y10⟩ := HX1.out.1
                go_region_held3 (SCmb w.heap.size (w.heap.size + 1) mm um Ao no co nm Ad dn cd a com u i s0 s1 s2 s3 s4 (w.heap.size + 2) wr)
                  (exact SCmb.of HX1.out (by omega) (by omega) (by first | exact HBQ.out.mono (by omega) | exact HB1.out.mono (by omega) | exact HB2.out.mono (by omega) | exact HB2c.out _))
                  ((first
                    | (go_at_call 185; refine (HG.out _ (HBW.out.trans (HBQ.out.mono (by omega))) (HAR.out.below (B := w.heap.size + 3) (by omega) HBQ.out)).mono ?_; rintro e w1 ⟨rfl, hb1⟩; have HB1 := Lib.hid (HBQ.out.trans (hb1.mono (by have := HBQ.out.size; omega))); clear hb1)
                    | (go_at_call 150; refine (HU2.out _ (HBW.out.trans (HB1.out.mono (by omega)))).mono ?_; rintro e w2 ⟨rfl, hb2⟩; have HB2 := Lib.hid (HB1.out.trans (hb2.mono (by have := HB1.out.size; omega))); clear hb2; have HB2c := Lib.hid (fun v => (HB2.out.mono (B' := w.heap.size + 2) (by omega)).setCell (p := ⟨w.heap.size + 2, g, none⟩) (Nat.le_refl _) v); obtain ⟨t1, t2⟩ := (HAR.out.below (B := w.heap.size + 3) (by omega) HB2.out).2 g (by omega))))
                have HA4 := Lib.hid (ArrF.set (HAR.out.below (B := w.heap.size + 3) (by omega) HB2.out) (x := g) (by omega) uv)
                have HB4 := Lib.hid ((HB.out.trans (HB2.out.mono (by omega))).setCell (p := ⟨w.heap.size + 2, g, none⟩) (Nat.le_refl _) (.int .u16 (uv : Int)))
                go_wp2
                go_roundw
                case rel => exact ⟨g + 1, _, by go_num, by omega, HD3, HFL2, HA4, HB4⟩
                case measure => simp [intOf]; omega
              · have HD3 : Hid (Done com U D A s (g + 1) f) := Lib.hid (done_step HDN2.out hc)
                have d3 : ((cnt g : Int) == (s : Int)) = false := by simp; omega
                have d4 : decide ((cnt g : Int) = (s : Int)) = false := decide_eq_false (by omega)
                obtain ⟨cg, hcg⟩ : ∃ q, q = cnt g := ⟨_, rfl⟩
                rw [← hcg] at HCN d3 d4 hc
                clear hcg hbw
                go_wp2_with (go_at_call 48; refine (HCN.out _).mono ?_; rintro e w0 ⟨rfl, nq, rfl⟩)
                go_roundw
                case rel => exact ⟨g + 1, f, by go_num, by omega, HD3, HFL, Lib.hid (HAR.out.below (B := w.heap.size + 3) (by omega) (below_drewN (Below.refl _ _) nq)), Lib.hid (below_drewN HB.out nq)⟩
                case measure => simp [intOf]; omega
            · obtain rfl : g = z := by omega
              have HD3 : Hid (Done com U D A (s + 1) 0 f) := Lib.hid (done_next HDN2.out (by rw [HZ.out]; omega))
              go_wp2
              go_roundw
              case rel => exact ⟨s + 1, f, by go_num, by omega, by omega, HD3, HFL, HAR, HB⟩
              case measure => simp [intOf]; omega
        · obtain rfl : s = k + 1 := by omega
          have d1 : decide (((k + 1 : Nat) : Int) ≤ (k : Int)) = false := decide_eq_false (by omega)
          go_wp2
          go_ret
          exact ⟨_, f, rfl, by omega, HAR.out, HP.out ▸ HDN2.out, HFL.out, HB0.out.trans (HB.out.mono (by omega))⟩
set_option maxRecDepth 20000 in
set_option maxHeartbeats 4000000 in
/-- sortRules.resultSorts -/
theorem resultSorts_any (U : List Nat) (hU : Lim U) (mm um : Option Nat) (Ao : Option Addr) (no co : Nat) (nm : List UInt8) (Ad : Option Addr) (dn cd : Nat) (a com : Bool) (u : Int) (i s0 s1 s2 s3 s4 : Nat) (D : List (List Int × Int)) (A : List Nat) (q : Nat) (hDN : DeclN U.length q D) (hq : (a || com) = true → q = 2 ∧ 2 ≤ A.length ∧ A.length ≤ 7) (hq2 : q ≤ A.length) (hA : ∀ i, A.getD i 0 < 2 ^ U.length) (va : Value) (w : World) (hM : MapU w (.map um) U) (hD : HasD 0 w (.slice Ad dn cd) D) (hva : Has w va (u16s A)) :
    Calls Tryz.prog 104 #[.agg #[.map mm, .slice Ao no co, .map um], aggE nm Ad dn cd a com u i s0 s1 s2 s3 s4, va] w fun e w' => e = .returned (.int .u16 ((sortsA U D a com A : Nat) : Int)) ∧ Below w.heap.size w w' := by
  have hpn := pow8 hU.1
  have HCB := Lib.hid (fun (h : (a || com) = true) W (hW : Below w.heap.size w W) => (ways_any U hU mm um Ao no co nm Ad dn cd a com u i s0 s1 s2 s3 s4 D A (hq h).2.1 (hq h).2.2 hA va W (hM.below hW) (hD.below RD_steady (Nat.le_refl _) hW) ((hq h).1 ▸ hDN) (hva.below (Nat.le_refl _) hW)).mono (fun e w' h' => by
    obtain ⟨b, f, h1, h2, h3, h4, _, h6⟩ := h'
    exact (show ∃ (b : Nat) (f : Nat → Nat), e = .returned (.pointer (some ⟨b, 0, none⟩)) ∧ ArrF w' b f ∧ f (2 ^ A.length - 1) = V com U D A (2 ^ A.length - 1) ∧ Below W.heap.size W w' from ⟨b, f, h1, h3, done_whole (hq h).2.2 (by have := (hq h).2.1; omega) h4, h6⟩)))
  have HFN := Lib.hid (fun (h : (a || com) = true) => first_any A.length (by have := (hq h).2.2; omega))
  have HM7 : Hid ((a || com) = true → 2 ^ A.length - 1 < 128) := Lib.hid (fun h => by
    have : 2 ^ A.length ≤ 2 ^ 7 := Nat.pow_le_pow_right (by decide) (hq h).2.2
    omega)
  have HUP := Lib.hid (fun S (hS : S < 65536) W (hW : Below w.heap.size w W) => upward_any U hU S hS (.map um) W (hM.below hW))
  have HOR := Lib.hid (fun W (hW : Below w.heap.size w W) => opResults_any hU.1 nm Ad dn cd a com u i s0 s1 s2 s3 s4 D A va W (hD.below RD_steady (Nat.le_refl _) hW) hDN hq2 (fun i => Nat.lt_of_lt_of_le (hA i) (by omega)) (hva.below (Nat.le_refl _) hW))
  have hgl := giveR_lt hDN A
  obtain ⟨pp, hpp⟩ : ∃ q, q = A.length := ⟨_, rfl⟩
  obtain ⟨Aa, ca, rfl, hva⟩ := hva.shape (n := pp) (by rw [u16s_len, hpp])
  have HSA : Hid (sortsA U D a com A = if a || com then V com U D A (2 ^ A.length - 1) else upC U (giveR D A)) := Lib.hid rfl
  obtain ⟨sv, hsv⟩ : ∃ q, q = sortsA U D a com A := ⟨_, rfl⟩
  rw [← hsv] at HSA ⊢
  obtain ⟨gv, hgv⟩ : ∃ q, q = giveR D A := ⟨_, rfl⟩
  rw [← hgv] at HOR HSA hgl
  have hgl16 : gv < 65536 := by omega
  have HU2 := Lib.hid (HUP.out gv hgl16)
  obtain ⟨uv, huv⟩ : ∃ q, q = upC U gv := ⟨_, rfl⟩
  rw [← huv] at HU2 HSA
  obtain ⟨vv, hvv⟩ : ∃ q, q = V com U D A (2 ^ A.length - 1) := ⟨_, rfl⟩
  rw [← hvv] at HCB HSA
  rw [← hpp] at HCB HFN HM7
  obtain ⟨mx, hmx⟩ : ∃ q, q = 2 ^ pp - 1 := ⟨_, rfl⟩
  rw [← hmx] at HCB HFN HM7
  obtain ⟨W, hW⟩ : ∃ W, W = (w.alloc (.cells #[.map mm, .slice Ao no co, .map um] 82)).alloc (.cells #[.string (bstr nm), .slice Ad dn cd, .bool a, .bool com, .int .i64 u, .int .i64 (i : Int), .int .i64 (s0 : Int), .int .u16 (s1 : Int), .int .u16 (s2 : Int), .int .u16 (s3 : Int), .int .u16 (s4 : Int)] 102) := ⟨_, rfl⟩
  have hb0 : Below w.heap.size w W := by
    rw [hW]
    repeat (first | exact Below.refl _ _ | refine Below.alloc ?_ (by first | (simp; done) | (simp; omega)) _)
  have hX0 : SCmb w.heap.size (w.heap.size + 1) mm um Ao no co nm Ad dn cd a com u i s0 s1 s2 s3 s4 (w.heap.size + 2) W W := by
    rw [hW]
    exact ⟨⟨box3 (heap2a _ _ _), box11 (termt.heap_at _ _ _ (by simp))⟩, Below.refl _ _⟩
  have hz : W.heap.size = w.heap.size + 2 := by rw [hW]; simp
  have HB0 := Lib.hid hb0
  have HX0 := Lib.hid hX0
  have HZ := Lib.hid hz
  clear hM hD hDN hva hA hpp hb0 hX0 hsv hgv huv hvv hz hq hq2 HUP hmx
  obtain ⟨⟨z0, z1, z2⟩, y0, y1, y2, y3, y4, y5, y6, y7, y8, y9, y10⟩ := HX0.out.1
  by_cases hc : (a || com) = true
  · have HQ : Hid (sv = vv) := Lib.hid (by rw [HSA.out, if_pos hc])
    have HC1 := Lib.hid (HCB.out hc)
    have HFN1 := Lib.hid (HFN.out hc)
    have hm7 := HM7.out hc
    have i1 : (0 : Int) ≤ (mx : Int) := by omega
    have i2 : (mx : Int) < 128 := by omega
    have HBQ : Hid (Below w.heap.size w W.drew) := Lib.hid HB0.out.drew
    cases a with
    | true =>
      clear hc
      go_enter Tryz.func104, Tryz.ntmps104
      go_wp2_with fail
      rw [← hW]
      clear hW
      go_wp2_with fail
      refine wp_region_noPanic ?_
      refine wp_region_held_drew (S := (SCmb w.heap.size (w.heap.size + 1) mm um Ao no co nm Ad dn cd true com u i s0 s1 s2 s3 s4 (w.heap.size + 2) W)) (by kernel_rfl) ?_ (fun hHd0 => ?_)
      · exact SCmb.of HX0.out (by omega) (by omega) (Below.refl _ _).drew
      refine wpAnyH_take (i := 0) (v := ?_) rfl (by kernel_rfl) (by kernel_rfl) (by kernel_rfl) (fun _ _ _ h => h) (Or.inl ⟨by rfl, ?_⟩) (by with_reducible assumption) ?_
      rotate_left
      · intro w hSw; (try dsimp only at hSw); go_simp <;> with_reducible rfl
      (try simp only [Act.put]); (try simp only [List.setIfInBounds_toArray]); (try simp only [List.set_cons_succ, List.set_cons_zero])
      refine wpAnyH_take (i := 1) (v := ?_) rfl (by kernel_rfl) (by kernel_rfl) (by kernel_rfl) (fun _ _ _ h => h) (Or.inl ⟨by rfl, ?_⟩) (by with_reducible assumption) ?_
      rotate_left
      · intro w hSw; (try dsimp only at hSw); go_simp <;> with_reducible rfl
      (try simp only [Act.put]); (try simp only [List.setIfInBounds_toArray]); (try simp only [List.set_cons_succ, List.set_cons_zero])
      refine wpAnyH_take (i := 2) (v := ?_) rfl (by kernel_rfl) (by kernel_rfl) (by kernel_rfl) (fun _ _ _ h => h) (Or.inl ⟨by rfl, ?_⟩) (by with_reducible assumption) ?_
      rotate_left
      · intro w hSw; (try dsimp only at hSw); go_simp <;> with_reducible rfl
      (try simp only [Act.put]); (try simp only [List.setIfInBounds_toArray]); (try simp only [List.set_cons_succ, List.set_cons_zero])
      refine wpAnyH_take (i := 4) (v := ?_) rfl (by kernel_rfl) (by kernel_rfl) (by kernel_rfl) (fun _ _ _ h => h) (Or.inl ⟨by rfl, ?_⟩) (by with_reducible assumption) ?_
      rotate_left
      · intro w hSw; (try dsimp only at hSw); go_simp <;> with_reducible rfl
      (try simp only [Act.put]); (try simp only [List.setIfInBounds_toArray]); (try simp only [List.set_cons_succ, List.set_cons_zero])
      refine wpAnyH_take (i := 5) (v := ?_) rfl (by kernel_rfl) (by kernel_rfl) (by kernel_rfl) (fun _ _ _ h => h) (Or.inl ⟨by rfl, ?_⟩) (by with_reducible assumption) ?_
      rotate_left
      · intro w hSw; (try dsimp only at hSw); go_simp <;> with_reducible rfl
      (try simp only [Act.put]); (try simp only [List.setIfInBounds_toArray]); (try simp only [List.set_cons_succ, List.set_cons_zero])
      refine wpAnyH_ready (rs := [3]) (by kernel_rfl) (by simp) ?_
      refine AllReadyH.cons (o := _) rfl (fun K hK => ?_) ?_
      · (go_simp; refine (HC1.out _ HBQ.out).mono ?_; rintro e w1 ⟨b, f, rfl, hA1, hf1, hb1⟩; have HB1 := Lib.hid (HBQ.out.trans (hb1.mono HBQ.out.size)); have HC2 : Hid (Below (w.heap.size + 2) W w1) := Lib.hid ((Below.refl _ W).drew.trans (hb1.mono (by show _ ≤ W.heap.size; rw [HZ.out]; exact Nat.le_refl _))); have hc1 := (hA1.2 mx hm7).1; rw [hf1] at hc1; clear hb1 hA1 hf1; (try dsimp only))
        refine hK.out _ _ ?_ (fun hHd1 => ?_)
        · (try dsimp only); exact SCmb.of HX0.out (by omega) (by omega) HC2.out
        clear hK K hHd0
        (try simp only [Act.put]); (try simp only [List.setIfInBounds_toArray]); (try simp only [List.set_cons_succ, List.set_cons_zero])
        refine wpAnyH_take (i := 7) (v := ?_) rfl (by kernel_rfl) (by kernel_rfl) (by kernel_rfl) (fun _ _ _ h => h) (Or.inl ⟨by rfl, ?_⟩) (by with_reducible assumption) ?_
        rotate_left
        · intro w hSw; (try dsimp only at hSw); go_simp <;> with_reducible rfl
        (try simp only [Act.put]); (try simp only [List.setIfInBounds_toArray]); (try simp only [List.set_cons_succ, List.set_cons_zero])
        refine wpAnyH_ready (rs := [6]) (by kernel_rfl) (by simp) ?_
        refine AllReadyH.cons (o := _) rfl (fun K hK => ?_) ?_
        · (go_simp; refine (HFN1.out _).mono ?_; rintro e w2 ⟨rfl, rfl⟩; (try dsimp only))
          refine hK.out _ _ ?_ (fun hHd2 => ?_)
          · (try dsimp only); exact SCmb.of HX0.out (by omega) (by omega) HC2.out
          clear hK K hHd1
          (try simp only [Act.put]); (try simp only [List.setIfInBounds_toArray]); (try simp only [List.set_cons_succ, List.set_cons_zero])
          refine wpAnyH_take (i := 8) (v := ?_) rfl (by kernel_rfl) (by kernel_rfl) (by kernel_rfl) (fun _ _ _ h => h) (Or.inl ⟨by rfl, ?_⟩) (by with_reducible assumption) ?_
          rotate_left
          · intro w hSw; (try dsimp only at hSw); go_simp <;> with_reducible rfl
          (try simp only [Act.put]); (try simp only [List.setIfInBounds_toArray]); (try simp only [List.set_cons_succ, List.set_cons_zero])
          refine wpAnyH_ready (rs := [9]) (by kernel_rfl) (by simp) ?_
          refine AllReadyH.cons (o := _) rfl (fun K hK => ?_) ?_
          · go_simp
            refine hK.out _ _ ?_ (fun hHd3 => ?_)
            · (try dsimp only); exact SCmb.of HX0.out (by omega) (by omega) HC2.out
            clear hK K hHd2
            (try simp only [Act.put]); (try simp only [List.setIfInBounds_toArray]); (try simp only [List.set_cons_succ, List.set_cons_zero])
            refine wpAnyH_ready (rs := [10]) (by kernel_rfl) (by simp) ?_
            refine AllReadyH.cons (o := _) rfl (fun K hK => ?_) ?_
            · go_simp
              refine hK.out _ _ ?_ (fun hHd4 => ?_)
              · (try dsimp only); exact SCmb.of HX0.out (by omega) (by omega) HC2.out
              clear hK K hHd3
              (try simp only [Act.put]); (try simp only [List.setIfInBounds_toArray]); (try simp only [List.set_cons_succ, List.set_cons_zero])
              refine wpAnyH_done (by kernel_rfl) ?_ _
              refine NoPanic.normal ?_
              go_wp2
              go_ret
              exact ⟨by rw [HQ.out]; rfl, HB1.out⟩
            exact AllReadyH.nil
          exact AllReadyH.nil
        exact AllReadyH.nil
      exact AllReadyH.nil
    | false =>
      cases com with
      | false => simp at hc
      | true =>
        clear hc
        go_enter Tryz.func104, Tryz.ntmps104
        go_wp2_with fail
        rw [← hW]
        clear hW
        go_wp2_with fail
        refine wp_region_noPanic ?_
        refine wp_region_held_drew (S := (SCmb w.heap.size (w.heap.size + 1) mm um Ao no co nm Ad dn cd false true u i s0 s1 s2 s3 s4 (w.heap.size + 2) W)) (by kernel_rfl) ?_ (fun hHd0 => ?_)
        · exact SCmb.of HX0.out (by omega) (by omega) (Below.refl _ _).drew
        refine wpAnyH_take (i := 0) (v := ?_) rfl (by kernel_rfl) (by kernel_rfl) (by kernel_rfl) (fun _ _ _ h => h) (Or.inl ⟨by rfl, ?_⟩) (by with_reducible assumption) ?_
        rotate_left
        · intro w hSw; (try dsimp only at hSw); go_simp <;> with_reducible rfl
        (try simp only [Act.put]); (try simp only [List.setIfInBounds_toArray]); (try simp only [List.set_cons_succ, List.set_cons_zero])
        refine wpAnyH_take (i := 1) (v := ?_) rfl (by kernel_rfl) (by kernel_rfl) (by kernel_rfl) (fun _ _ _ h => h) (Or.inl ⟨by rfl, ?_⟩) (by with_reducible assumption) ?_
        rotate_left
        · intro w hSw; (try dsimp only at hSw); go_simp <;> with_reducible rfl
        (try simp only [Act.put]); (try simp only [List.setIfInBounds_toArray]); (try simp only [List.set_cons_succ, List.set_cons_zero])
        refine wpAnyH_take (i := 2) (v := ?_) rfl (by kernel_rfl) (by kernel_rfl) (by kernel_rfl) (fun _ _ _ h => h) (Or.inl ⟨by rfl, ?_⟩) (by with_reducible assumption) ?_
        rotate_left
        · intro w hSw; (try dsimp only at hSw); go_simp <;> with_reducible rfl
        (try simp only [Act.put]); (try simp only [List.setIfInBounds_toArray]); (try simp only [List.set_cons_succ, List.set_cons_zero])
        refine wpAnyH_take (i := 4) (v := ?_) rfl (by kernel_rfl) (by kernel_rfl) (by kernel_rfl) (fun _ _ _ h => h) (Or.inl ⟨by rfl, ?_⟩) (by with_reducible assumption) ?_
        rotate_left
        · intro w hSw; (try dsimp only at hSw); go_simp <;> with_reducible rfl
        (try simp only [Act.put]); (try simp only [List.setIfInBounds_toArray]); (try simp only [List.set_cons_succ, List.set_cons_zero])
        refine wpAnyH_take (i := 5) (v := ?_) rfl (by kernel_rfl) (by kernel_rfl) (by kernel_rfl) (fun _ _ _ h => h) (Or.inl ⟨by rfl, ?_⟩) (by with_reducible assumption) ?_
        rotate_left
        · intro w hSw; (try dsimp only at hSw); go_simp <;> with_reducible rfl
        (try simp only [Act.put]); (try simp only [List.setIfInBounds_toArray]); (try simp only [List.set_cons_succ, List.set_cons_zero])
        refine wpAnyH_ready (rs := [3]) (by kernel_rfl) (by simp) ?_
        refine AllReadyH.cons (o := _) rfl (fun K hK => ?_) ?_
        · (go_simp; refine (HC1.out _ HBQ.out).mono ?_; rintro e w1 ⟨b, f, rfl, hA1, hf1, hb1⟩; have HB1 := Lib.hid (HBQ.out.trans (hb1.mono HBQ.out.size)); have HC2 : Hid (Below (w.heap.size + 2) W w1) := Lib.hid ((Below.refl _ W).drew.trans (hb1.mono (by show _ ≤ W.heap.size; rw [HZ.out]; exact Nat.le_refl _))); have hc1 := (hA1.2 mx hm7).1; rw [hf1] at hc1; clear hb1 hA1 hf1; (try dsimp only))
          refine hK.out _ _ ?_ (fun hHd1 => ?_)
          · (try dsimp only); exact SCmb.of HX0.out (by omega) (by omega) HC2.out
          clear hK K hHd0
          (try simp only [Act.put]); (try simp only [List.setIfInBounds_toArray]); (try simp only [List.set_cons_succ, List.set_cons_zero])
          refine wpAnyH_take (i := 7) (v := ?_) rfl (by kernel_rfl) (by kernel_rfl) (by kernel_rfl) (fun _ _ _ h => h) (Or.inl ⟨by rfl, ?_⟩) (by with_reducible assumption) ?_
          rotate_left
          · intro w hSw; (try dsimp only at hSw); go_simp <;> with_reducible rfl
          (try simp only [Act.put]); (try simp only [List.setIfInBounds_toArray]); (try simp only [List.set_cons_succ, List.set_cons_zero])
          refine wpAnyH_ready (rs := [6]) (by kernel_rfl) (by simp) ?_
          refine AllReadyH.cons (o := _) rfl (fun K hK => ?_) ?_
          · (go_simp; refine (HFN1.out _).mono ?_; rintro e w2 ⟨rfl, rfl⟩; (try dsimp only))
            refine hK.out _ _ ?_ (fun hHd2 => ?_)
            · (try dsimp only); exact SCmb.of HX0.out (by omega) (by omega) HC2.out
            clear hK K hHd1
            (try simp only [Act.put]); (try simp only [List.setIfInBounds_toArray]); (try simp only [List.set_cons_succ, List.set_cons_zero])
            refine wpAnyH_take (i := 8) (v := ?_) rfl (by kernel_rfl) (by kernel_rfl) (by kernel_rfl) (fun _ _ _ h => h) (Or.inl ⟨by rfl, ?_⟩) (by with_reducible assumption) ?_
            rotate_left
            · intro w hSw; (try dsimp only at hSw); go_simp <;> with_reducible rfl
            (try simp only [Act.put]); (try simp only [List.setIfInBounds_toArray]); (try simp only [List.set_cons_succ, List.set_cons_zero])
            refine wpAnyH_ready (rs := [9]) (by kernel_rfl) (by simp) ?_
            refine AllReadyH.cons (o := _) rfl (fun K hK => ?_) ?_
            · go_simp
              refine hK.out _ _ ?_ (fun hHd3 => ?_)
              · (try dsimp only); exact SCmb.of HX0.out (by omega) (by omega) HC2.out
              clear hK K hHd2
              (try simp only [Act.put]); (try simp only [List.setIfInBounds_toArray]); (try simp only [List.set_cons_succ, List.set_cons_zero])
              refine wpAnyH_ready (rs := [10]) (by kernel_rfl) (by simp) ?_
              refine AllReadyH.cons (o := _) rfl (fun K hK => ?_) ?_
              · go_simp
                refine hK.out _ _ ?_ (fun hHd4 => ?_)
                · (try dsimp only); exact SCmb.of HX0.out (by omega) (by omega) HC2.out
                clear hK K hHd3
                (try simp only [Act.put]); (try simp only [List.setIfInBounds_toArray]); (try simp only [List.set_cons_succ, List.set_cons_zero])
                refine wpAnyH_done (by kernel_rfl) ?_ _
                refine NoPanic.normal ?_
                go_wp2
                go_ret
                exact ⟨by rw [HQ.out]; rfl, HB1.out⟩
              exact AllReadyH.nil
            exact AllReadyH.nil
          exact AllReadyH.nil
        exact AllReadyH.nil
  · have HQ : Hid (sv = uv) := Lib.hid (by rw [HSA.out, if_neg hc])
    have ha : a = false := by cases a <;> simp_all
    have hcm : com = false := by cases com <;> simp_all
    subst ha hcm
    clear hc
    go_enter Tryz.func104, Tryz.ntmps104
    go_wp2_with fail
    rw [← hW]
    clear hW
    go_wp2_with fail
    have HBQ : Hid (Below w.heap.size w W.drew) := Lib.hid HB0.out.drew
    go_region_held3 (SCmb w.heap.size (w.heap.size + 1) mm um Ao no co nm Ad dn cd false false u i s0 s1 s2 s3 s4 (w.heap.size + 2) W)
      (exact SCmb.of HX0.out (by omega) (by omega) (by first | exact (Below.refl _ _).drew | exact HC2.out | exact HC3.out))
      ((first
        | (go_at_call 151; refine (HOR.out _ HBQ.out).mono ?_; rintro e w1 ⟨rfl, hb1⟩; have HB1 := Lib.hid (HBQ.out.trans (hb1.mono HBQ.out.size)); have HC2 : Hid (Below (w.heap.size + 2) W w1) := Lib.hid ((Below.refl _ W).drew.trans (hb1.mono (by show _ ≤ W.heap.size; rw [HZ.out]; exact Nat.le_refl _))); clear hb1)
        | (go_at_call 150; refine (HU2.out _ HB1.out).mono ?_; rintro e w2 ⟨rfl, hb2⟩; have HB2 := Lib.hid (HB1.out.trans (hb2.mono HB1.out.size)); have HC3 : Hid (Below (w.heap.size + 2) W w2) := Lib.hid (HC2.out.trans (hb2.mono (by have := HC2.out.size; rw [HZ.out] at this; exact this))); clear hb2)))
    go_wp2
    go_ret
    exact ⟨ret_int (by rw [HQ.out]), HB2.out⟩
end Go.Proofs.YtjejdcehlckfhaaGreat.tsl
