/-
  THE PROGRAM's FUNCTIONS OF THE SORTS OF TERMS: isBefore, upward, haveSorts, the results of declarations.
-/
import Derived.Test.YtjejdcehlckfhaaGreatTsm
import Derived.Test.YtjejdcehlckfhaaGreatSigs
namespace Go.Proofs.YtjejdcehlckfhaaGreat.tsi
open Go.ChangeShapes Go.WideShapes Go.ChangeAt Go.RowKit
open mem split strl subs sortn setm sets sortm sortp sorti rowl sigm sigs tsm

/-- a list of sets as cells -/
def u16s (A : List Nat) : List Value := A.map fun (a : Nat) => Value.int .u16 (a : Int)
theorem u16s_len (A : List Nat) : (u16s A).length = A.length := by simp [u16s]
theorem u16s_get (A : List Nat) (k : Nat) (h : k < A.length) : (u16s A).getD k undef = .int .u16 ((A.getD k 0 : Nat) : Int) := by
  simp [u16s, List.getD, List.getElem?_map, List.getElem?_eq_getElem h]
theorem u16s_snoc (A : List Nat) (a : Nat) : u16s (A ++ [a]) = u16s A ++ [.int .u16 (a : Int)] := by simp [u16s]
/-- numberSet.isBefore -/
theorem nbefore_any (s t : Nat) (_hs : s < 65536) (ht : t < 65536) (r : Bool) (hr : befo s t = r) (w : World) :
    Calls Tryz.prog 215 #[.int .u16 (s : Int), .int .u16 (t : Int)] w fun e w' => e = .returned (.bool r) ∧ w = w' := by
  subst hr
  have H : Hid (decide ((s : Int) < bits .and .u16 (t : Int) (IntKind.u16.wrap (-(t : Int)))) = befo s t) := Lib.hid (by
    have e : IntKind.u16.wrap (-(t : Int)) = (((65536 - t) % 65536 : Nat) : Int) := by
      simp [IntKind.wrap, IntKind.bits, IntKind.signed]; omega
    rw [e, and_u16 t _ ht (by omega), befo, decide_eq_decide]
    by_cases h0 : t = 0
    · subst h0; simp
    · rw [Nat.mod_eq_of_lt (by omega)]; omega)
  go_enter Tryz.func215, Tryz.ntmps215
  go_wp2
  go_ret
  exact ⟨ret_bool (by rw [← H.out]; try simp), rfl⟩
theorem upL_snoc (U : List Nat) (L : List Nat) (k : Nat) : orL (fun k => U.getD k 0) (L ++ [k]) = orL (fun k => U.getD k 0) L ||| U.getD k 0 := orL_snoc _ _ _
/-- sortSets.upward -/
theorem upward_any (U : List Nat) (hU : Lim U) (S : Nat) (hS : S < 65536) (v : Value) (w : World) (hM : MapU w v U) :
    Calls Tryz.prog 150 #[v, .int .u16 (S : Int)] w fun e w' => e = .returned (.int .u16 ((upC U S : Nat) : Int)) ∧ Below w.heap.size w w' := by
  have HE := Lib.hid (fun W => nels_any S hS W)
  have HM := Lib.hid hM
  have HU := Lib.hid hU
  have HLL := Lib.hid (fun L => Nat.lt_of_lt_of_le (orL_lt (fun k => U.getD k 0) L U.length (fun k _ => hU.2 k)) (Nat.le_trans (pow8 hU.1) (by decide : 256 ≤ 65536)))
  have HT := Lib.hid (fun j (h : j < (els S).length) => takeN (els S) j h)
  have HEL := Lib.hid (fun j (h : j < (els S).length) => els_lt h)
  have HEN := Lib.hid (elsTo_len S 16)
  rw [show elsTo S 16 = els S from rfl] at HEN
  unfold upC
  obtain ⟨E, hE⟩ : ∃ E, E = els S := ⟨_, rfl⟩
  rw [← hE] at HE HT HEL HEN ⊢
  obtain ⟨m, hm⟩ : ∃ m, m = E.length := ⟨_, rfl⟩
  rw [← hm] at HE HT HEL HEN
  have hm16 : m ≤ 16 := HEN.out
  have HMM := Lib.hid hm
  clear hM hU hE hm
  go_enter Tryz.func150, Tryz.ntmps150
  go_wp2_with (go_at_call 49; refine (HE.out _).mono ?_; rintro e w1 ⟨ev, rfl, hown, hb1⟩; obtain ⟨A, c, rfl, hh⟩ := (Has.of_own hown).shape (n := m) (by rw [ivs_len]; simp [nats]; exact HMM.out.symm); have HH := Lib.hid hh; clear hown hh)
  go_loop [5, 11] (fun s i => ∃ j : Nat, j ≤ m ∧ i = .int .i64 j ∧ s = .int .u16 ((orL (fun k => U.getD k 0) (E.take j) : Nat) : Int)) (fun _ i => m - (intOf i).toNat)
  case atStart => exact ⟨0, Nat.zero_le _, rfl, rfl⟩
  case round =>
    obtain ⟨j, hj, rfl, rfl⟩ := hrel
    by_cases hlt : j < m
    · obtain ⟨g, o, rfl, hg, hcell⟩ := HH.out.cellAt hlt
      rw [ivs_get _ j (by simp [nats]; have := HMM.out; omega), nats_get] at hcell
      have hk := HEL.out j hlt
      have hsn := upL_snoc U (E.take j) (E.getD j 0)
      rw [← HT.out j hlt] at hsn
      have hLl := HLL.out (E.take j)
      obtain ⟨k, hkk⟩ : ∃ k, k = E.getD j 0 := ⟨_, rfl⟩
      rw [← hkk] at hcell hk hsn
      have k1 := (HM.out.below hb1).look (x := (k : Int)) (by omega) (by omega)
      rw [atU_nat] at k1
      have hUk := HU.out.lt k
      obtain ⟨G, hG⟩ : ∃ G, G = orL (fun k => U.getD k 0) (E.take j) := ⟨_, rfl⟩
      rw [← hG] at hsn hLl ⊢
      obtain ⟨u, hu⟩ : ∃ u, u = U.getD k 0 := ⟨_, rfl⟩
      rw [← hu] at k1 hUk hsn
      have a1 := or_u16 G u hLl hUk
      have HSN := Lib.hid hsn
      clear hkk hG hu hsn
      go_wp2
      go_round
      case rel => exact ⟨j + 1, by omega, by go_num, by rw [HSN.out]⟩
      case measure => simp [intOf]; omega
    · obtain rfl : j = m := by omega
      have HTT : Hid (E.take j = E) := Lib.hid (by rw [HMM.out, List.take_length])
      rw [HTT.out]
      go_wp2
      go_ret
      exact ⟨rfl, hb1⟩
/-- haveSorts -/
theorem haveSorts_any (A : List Nat) (d : List Int) (hA : ∀ i, A.getD i 0 < 65536) (hd : ∀ k, k < d.length → 0 ≤ d.getD k 0 ∧ d.getD k 0 < 16) (hl : d.length ≤ A.length) (va vd : Value) (r : Bool) (hr : fitD A d = r) (w : World) (h1 : Has w va (u16s A)) (h2 : Has w vd (ivs d)) :
    Calls Tryz.prog 186 #[va, vd] w fun e w' => e = .returned (.bool r) ∧ w = w' := by
  obtain ⟨m, hm⟩ : ∃ m, m = d.length := ⟨_, rfl⟩
  obtain ⟨p, hp⟩ : ∃ p, p = A.length := ⟨_, rfl⟩
  obtain ⟨Aa, ca, rfl, h1⟩ := h1.shape (n := p) (by rw [u16s_len, hp])
  obtain ⟨Ad, cd, rfl, h2⟩ := h2.shape (n := m) (by rw [ivs_len, hm])
  have hla := h1.len.2
  have hld := h2.len.2
  rw [← hm, ← hp] at hl
  rw [← hm] at hd
  have H1 := Lib.hid h1
  have H2 := Lib.hid h2
  have HR := Lib.hid hr
  have HM := Lib.hid hm
  have HP := Lib.hid hp
  have HA := Lib.hid hA
  have HD := Lib.hid hd
  clear h1 h2 hr hm hp hA hd
  go_enter Tryz.func186, Tryz.ntmps186
  go_wp2
  go_loop [5, 6, 9] (fun _ _ i => ∃ k : Nat, k ≤ m ∧ i = .int .i64 k ∧ Hid (fitTo A d k = true)) (fun _ _ i => m - (intOf i).toNat)
  case atStart => exact ⟨0, Nat.zero_le _, rfl, Lib.hid rfl⟩
  case round =>
    obtain ⟨k, hk, rfl, HF⟩ := hrel
    by_cases hlt : k < m
    · obtain ⟨g, o, rfl, hg, hcell⟩ := H2.out.cellAt hlt
      rw [ivs_get _ k (by have := HM.out; omega)] at hcell
      obtain ⟨g2, o2, rfl, hg2, hcell2⟩ := H1.out.cellAt (show k < p by omega)
      rw [u16s_get _ k (by have := HP.out; omega)] at hcell2
      have hd0 := HD.out k hlt
      have ha0 := HA.out k
      have HS := Lib.hid (fitTo_succ A d k)
      have HN : Hid ((A.getD k 0).testBit (d.getD k 0).toNat = false → fitD A d = false) := Lib.hid (fun h => fitTo_no (by have := HM.out; omega) h)
      obtain ⟨x, hx⟩ : ∃ x, x = d.getD k 0 := ⟨_, rfl⟩
      rw [← hx] at hcell hd0 HS HN
      obtain ⟨a, ha⟩ : ∃ a, a = A.getD k 0 := ⟨_, rfl⟩
      rw [← ha] at hcell2 ha0 HS HN
      obtain ⟨j, rfl⟩ : ∃ j : Nat, x = (j : Int) := ⟨x.toNat, by omega⟩
      rw [Int.toNat_natCast] at HS HN
      have hj16 : j < 16 := by omega
      clear hx ha
      have i1 : (0 : Int) ≤ (k : Int) := by omega
      have i2 : (k : Int) < (p : Int) := by omega
      have i3 : (k : Int) < (m : Int) := by omega
      cases hb : a.testBit j with
      | true =>
        have HC := Lib.hid (fun W => nhas_any a j ha0 hj16 true hb W)
        have HF2 : Hid (fitTo A d (k + 1) = true) := Lib.hid (by rw [HS.out, HF.out, hb]; rfl)
        clear hb
        go_wp2_with (go_at_call 97; refine (HC.out _).mono ?_; rintro e w1 ⟨rfl, rfl⟩)
        go_round
        case rel => exact ⟨k + 1, by omega, by go_num, HF2⟩
        case measure => simp [intOf]; omega
      | false =>
        have HC := Lib.hid (fun W => nhas_any a j ha0 hj16 false hb W)
        have HQ : Hid (r = false) := Lib.hid (by rw [← HR.out, HN.out hb])
        clear hb
        go_wp2_with (go_at_call 97; refine (HC.out _).mono ?_; rintro e w1 ⟨rfl, rfl⟩)
        go_ret
        exact ⟨ret_bool HQ.out.symm, rfl⟩
    · obtain rfl : k = m := by omega
      have HQ : Hid (r = true) := Lib.hid (by rw [← HR.out, fitD, ← HM.out, HF.out])
      go_wp2
      go_ret
      exact ⟨ret_bool HQ.out.symm, rfl⟩
end Go.Proofs.YtjejdcehlckfhaaGreat.tsi
