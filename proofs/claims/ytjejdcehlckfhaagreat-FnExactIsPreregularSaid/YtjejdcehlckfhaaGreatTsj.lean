/-
  THE PROGRAM's FUNCTIONS OF THE SORTS OF TERMS: what the declarations of an operator give.
-/
import Derived.Test.YtjejdcehlckfhaaGreatTsi
import Derived.Test.YtjejdcehlckfhaaGreatGramo
namespace Go.Proofs.YtjejdcehlckfhaaGreat.tsj
open Go.ChangeShapes Go.WideShapes Go.ChangeAt Go.RowKit
open mem split strl subs sortn setm sets sortm sortp sorti rowl sigm sigs gramo tsm tsi

theorem DeclN.at {n m : Nat} {D : List (List Int × Int)} (h : DeclN n m D) {k : Nat} (hk : k < D.length) : (D.getD k ([], 0)).1.length = m ∧ (0 ≤ (D.getD k ([], 0)).2 ∧ (D.getD k ([], 0)).2 < n) ∧ ∀ j, j < m → 0 ≤ (D.getD k ([], 0)).1.getD j 0 ∧ (D.getD k ([], 0)).1.getD j 0 < n := by
  have hm : D.getD k ([], 0) ∈ D := by rw [List.getD_eq_getElem?_getD, List.getElem?_eq_getElem hk]; exact List.getElem_mem _
  obtain ⟨h1, h2, h3⟩ := h _ hm
  simp only [inN, decide_eq_true_eq] at h2 h3
  exact ⟨h1, h2, h3⟩
set_option maxRecDepth 20000 in
set_option maxHeartbeats 2000000 in
/-- operator.results -/
theorem opResults_any {n m : Nat} (hn : n ≤ 8) (nm : List UInt8) (Ad : Option Addr) (dn cd : Nat) (a b : Bool) (u : Int) (i s0 s1 s2 s3 s4 : Nat) (D : List (List Int × Int)) (A : List Nat) (va : Value) (w : World) (hD : HasD 0 w (.slice Ad dn cd) D) (hDN : DeclN n m D) (hm : m ≤ A.length) (hA : ∀ i, A.getD i 0 < 65536) (h1 : Has w va (u16s A)) :
    Calls Tryz.prog 151 #[aggE nm Ad dn cd a b u i s0 s1 s2 s3 s4, va] w fun e w' => e = .returned (.int .u16 ((giveR D A : Nat) : Int)) ∧ Below w.heap.size w w' := by
  obtain ⟨Aa, ca, rfl, h1⟩ := h1.shape (n := A.length) (u16s_len A)
  have hla := h1.len.2
  have hdl := hD.len
  have HD := Lib.hid hD
  have HA := Lib.hid h1
  have HDN := Lib.hid hDN
  have hpn := pow8 hn
  have HLT := Lib.hid (fun k => giveR_lt (hDN.take k) A)
  have HA2 := Lib.hid hA
  have HDL := Lib.hid hdl.1
  have hdn := hdl.2.1
  have HFIT := Lib.hid (fun (d : List Int) (vd : Value) r (hl : d.length ≤ A.length) (hd : ∀ k, k < d.length → 0 ≤ d.getD k 0 ∧ d.getD k 0 < 16) (hr : fitD A d = r) W (hW : Below w.heap.size w W) (h2 : Has W vd (ivs d)) => haveSorts_any A d hA hd hl _ vd r hr W (h1.below (Nat.le_refl _) hW) h2)
  obtain ⟨p, hp⟩ : ∃ p, p = A.length := ⟨_, rfl⟩
  rw [← hp] at HFIT hla hm ⊢
  clear hD h1 hDN hA hdl hp
  go_enter Tryz.func151, Tryz.ntmps151
  go_wp2
  go_loopw [5, 7, 12] (fun s _ i wr => ∃ k : Nat, k ≤ dn ∧ i = .int .i64 k ∧ s = .int .u16 ((giveR (D.take k) A : Nat) : Int) ∧ Hid (Below w.heap.size w wr)) (fun _ _ i _ => dn - (intOf i).toNat)
  case atStart => exact ⟨0, Nat.zero_le _, rfl, rfl, Lib.hid ((Below.refl _ _).alloc (Nat.le_refl _) _)⟩
  case round =>
    obtain ⟨k, hk, rfl, rfl, HB⟩ := hrel
    have hsz := HB.out.size
    by_cases hlt : k < dn
    · obtain ⟨g, o, A2, c2, rfl, _, hg, hc0, hc1, hh, _, _⟩ := decl_at HD.out hlt
      have hkD : k < D.length := by have := HDL.out; omega
      obtain ⟨q1, q2, q3⟩ := DeclN.at HDN.out hkD
      have hc0' := (HB.out.cell (p := ⟨g, o + k * 2, none⟩) hg).trans hc0
      have hc1' := (HB.out.cell (p := ⟨g, o + k * 2 + 1, none⟩) hg).trans hc1
      have HH := Lib.hid hh.has
      have HHIT := Lib.hid (fun h => give_hit (A := A) hkD h)
      have HMISS := Lib.hid (fun h => give_miss (A := A) hkD h)
      have hGl := HLT.out k
      rw [show (D.getD k default) = D.getD k ([], 0) from rfl] at hc0' hc1' HH
      obtain ⟨d, hd⟩ : ∃ d, d = (D.getD k ([], 0)).1 := ⟨_, rfl⟩
      obtain ⟨x, hx⟩ : ∃ x, x = (D.getD k ([], 0)).2 := ⟨_, rfl⟩
      rw [← hd] at hc0' q1 q3 HHIT HMISS HH
      rw [← hx] at hc1' q2 HHIT
      obtain ⟨j, rfl⟩ : ∃ j : Nat, x = (j : Int) := ⟨x.toNat, by omega⟩
      rw [Int.toNat_natCast] at HHIT
      have hj : j < 16 := by omega
      obtain ⟨G, hG⟩ : ∃ G, G = giveR (D.take k) A := ⟨_, rfl⟩
      rw [← hG] at HHIT HMISS hGl ⊢
      have hG16 : G < 65536 := by omega
      have HWI := Lib.hid (fun W => nwith_any G j hG16 hj W)
      obtain ⟨md, hmd⟩ : ∃ md, md = d.length := ⟨_, rfl⟩
      rw [← hmd] at hc0' HH
      have HC := Lib.hid (fun r hr W (hW : Below w.heap.size w W) => HFIT.out d _ r (by omega) (fun k hk => by have := q3 k (by omega); omega) hr W hW (HH.out.below (Nat.le_refl _) hW))
      have hq : ∀ ob : Obj, Below w.heap.size w (wr.alloc ob) := fun ob => HB.out.alloc hsz ob
      have HQ := Lib.hid hq
      clear hc0 hc1 hh hd hx hG q1 q2 q3 hG16 hGl hmd hq
      cases hf : fitD A d with
      | true =>
        have HC2 := Lib.hid (HC.out true hf)
        have HE := Lib.hid (HHIT.out hf)
        clear hf
        go_wp2_with (first | (go_at_call 186; refine (HC2.out _ (HQ.out _)).mono ?_; rintro e w2 ⟨rfl, rfl⟩) | (go_at_call 95; refine (HWI.out _).mono ?_; rintro e w3 ⟨rfl, rfl⟩))
        go_roundw
        case rel => exact ⟨k + 1, by omega, by go_num, by rw [HE.out], Lib.hid (HQ.out _)⟩
        case measure => simp [intOf]; omega
      | false =>
        have HC2 := Lib.hid (HC.out false hf)
        have HE := Lib.hid (HMISS.out hf)
        clear hf
        go_wp2_with (first | (go_at_call 186; refine (HC2.out _ (HQ.out _)).mono ?_; rintro e w2 ⟨rfl, rfl⟩))
        go_roundw
        case rel => exact ⟨k + 1, by omega, by go_num, by rw [HE.out], Lib.hid (HQ.out _)⟩
        case measure => simp [intOf]; omega
    · obtain rfl : k = dn := by omega
      have HTT : Hid (D.take k = D) := Lib.hid (by rw [HDL.out, List.take_length])
      rw [HTT.out]
      go_wp2
      go_ret
      exact ⟨rfl, HB.out⟩
end Go.Proofs.YtjejdcehlckfhaaGreat.tsj
