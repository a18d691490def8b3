/-
  THE PROGRAM's FUNCTIONS OF SIGNATURES: IsSignature, FindOp, ArityOf, IsFreeSignature.
-/
import Derived.Test.YtjejdcehlckfhaaGreatSigr
import Derived.Laws.Cover3
namespace Go.Proofs.YtjejdcehlckfhaaGreat.sigv
open Go.ChangeShapes Go.WideShapes Go.ChangeAt Go.RowKit
open mem split strl join subs sortn setm sets sortm sortp sorti sortf rowl sigm sigs sigi sigj sigk sigq sigr

theorem run_eql_map {P : Program} (w : World) (t k e : TypeId) (m : Option Nat) (h : P.underlying t = some (.map k e)) : (binOp .eql t (.map m) (.map none)).run P w = .ok (.bool m.isNone) w := by
  simp only [binOp]
  simp [run_equal_map_nil w t k e m h]
theorem run_neq_map {P : Program} (w : World) (t k e : TypeId) (m : Option Nat) (h : P.underlying t = some (.map k e)) : (binOp .neq t (.map m) (.map none)).run P w = .ok (.bool m.isSome) w := by
  rw [run_neq_map_nil w t k e m h]; cases m <;> rfl
theorem names_short {lo : Nat} {w : World} {v : Value} {O : List OpM} (h : HasO lo w v O) : ∀ k, k < (nms O).length → ((nms O).getD k []).length ≤ maxLen := by
  intro k hk
  obtain ⟨A, c, rfl, h⟩ := HasR.shape h rfl
  rw [nms_len] at hk
  obtain ⟨_, _, _, _, _, _, _, _, _, _, _, _, _, hnl, _⟩ := op_at h hk
  rw [nms_get O k hk]; exact hnl
/-- what signatureShapes leaves -/
def ShapesP (P : List (List UInt8)) (Q : List (Int × Int)) (O : List OpM) (r : Bool) (w : World) (e : Ending) (w' : World) : Prop := ∃ mv sv, e = .returned (.tuple #[mv, sv]) ∧ (r = false → mv = .map none ∧ sv = .slice none 0 0) ∧
  (r = true → (∃ b, mv = .map (some b)) ∧ (∃ A c, sv = .slice A O.length c) ∧ MapU w' mv (kindsU P Q) ∧ HasT w' sv (shps (κU (kindsU P Q)) O)) ∧ Below w.heap.size w w'
set_option maxRecDepth 20000 in
set_option maxHeartbeats 2000000 in
/-- impl.signatureShapes -/
theorem sigShapes_any (P : List (List UInt8)) (Q : List (Int × Int)) (O : List OpM) (va vb vc : Value) (r : Bool) (hr : sigOk P Q O = r) (w : World) (h : HasG w va vb vc P Q O) :
    Calls Tryz.prog 103 #[.agg #[va, vb, vc]] w (ShapesP P Q O r w) := by
  have HSK := Lib.hid (fun W (hW : Below w.heap.size w W) => sortKinds_any P Q va vb W (h.below (Nat.le_refl _) hW).s)
  obtain ⟨A, ca, B, cb, C, cc, rfl, rfl, rfl, hl1, hl2, hl3, h'⟩ := h.shape
  have heql : ∀ (m : Option Nat) (W : World), (binOp .eql 77 (.map m) (.map none)).run Tryz.prog W = .ok (.bool m.isNone) W := fun m W => run_eql_map W 77 _ _ m Tryz.underlying77
  have HOO := Lib.hid (fun W (hW : Below w.heap.size w W) => (h'.below (Nat.le_refl _) hW).o)
  have HSH := Lib.hid (names_short h'.o)
  rw [sigOk_C] at hr
  obtain ⟨n, hn⟩ : ∃ n, n = O.length := ⟨_, rfl⟩
  have HN := Lib.hid hn
  rw [← hn] at hl3 HOO ⊢
  clear h h' hn
  cases hok : okS P Q with
  | false =>
    have HR : Hid (r = false) := Lib.hid (by rw [← hr, hok]; rfl)
    have HOK := Lib.hid hok
    clear hok hr
    go_enter Tryz.func103, Tryz.ntmps103
    go_wp2_with fail
    refine (HSK.out _ ((Below.refl _ _).alloc (Nat.le_refl _) _)).mono ?_
    rintro e w1 ⟨mv, rfl, hM, hy, hno, hb1⟩
    obtain rfl := hno HOK.out
    clear hM hy hno
    go_wp2
    refine bodyPost_ret (v := .tuple #[.map none, .slice none 0 0]) (by simp [results, Tryz.results103, go_sem]) rfl ?_
    exact ⟨_, _, rfl, fun _ => ⟨rfl, rfl⟩, (fun h => by rw [HR.out] at h; cases h), ((Below.refl _ _).alloc (Nat.le_refl _) _).trans (hb1.mono (by simp))⟩
  | true =>
    have hr2 : opsOk P.length (κC P.length Q) O = r := by rw [← hr, hok]; rfl
    have hU : kindsU P Q = clo P.length (both (prs Q)) := by rw [kindsU, if_pos hok]
    have hκ : κU (kindsU P Q) = κC P.length Q := by funext x; rw [hU]; rfl
    have hUl : (kindsU P Q).length = P.length := by rw [kindsU_len, if_pos hok]
    obtain ⟨p1, p2, p3, p4, p5⟩ := okS_parts hok
    have HKU : Hid (kindsU P Q = kindsU P Q) := Lib.hid rfl
    have hlim : Lim (kindsU P Q) := ⟨by omega, fun i => by rw [hUl, hU]; exact clo_lt (both_in p3.inR) i⟩
    have HLIM := Lib.hid hlim
    have HOK := Lib.hid hok
    rw [← hκ, ← hUl] at hr2
    clear hr hU hκ hUl hlim hok p1 p2 p3 p4 p5
    obtain ⟨U, hUU⟩ : ∃ U, U = kindsU P Q := ⟨_, rfl⟩
    rw [← hUU] at HSK HLIM hr2
    have HUU := Lib.hid hUU
    clear hUU HKU
    by_cases hbig : 14 < n
    · have HR : Hid (r = false) := Lib.hid (by rw [← hr2, opsOk]; have := HN.out; simp; omega)
      clear hr2
      go_enter Tryz.func103, Tryz.ntmps103
      go_wp2_with fail
      refine (HSK.out _ ((Below.refl _ _).alloc (Nat.le_refl _) _)).mono ?_
      rintro e w1 ⟨mv, rfl, hM, hy, hno, hb1⟩
      obtain ⟨b, rfl⟩ := hy HOK.out
      have c2 : w1.cell? ⟨w.heap.size, 2, none⟩ = some (.slice C n cc) := by rw [hb1.cell (p := ⟨w.heap.size, 2, none⟩) (by simp)]; simp
      clear hM hy hno
      go_wp2
      refine bodyPost_ret (v := .tuple #[.map none, .slice none 0 0]) (by simp [results, Tryz.results103, go_sem]) rfl ?_
      exact ⟨_, _, rfl, fun _ => ⟨rfl, rfl⟩, (fun h => by rw [HR.out] at h; cases h), ((Below.refl _ _).alloc (Nat.le_refl _) _).trans (hb1.mono (by simp))⟩
    have HN14 : Hid (O.length ≤ 14) := Lib.hid (by have := HN.out; omega)
    have HNM : Hid (∀ r v W, namesTo (nms O) O.length = r → Has W v (ssv (nms O)) → Calls Tryz.prog 144 #[v] W fun e w' => e = .returned (.bool r) ∧ W = w') :=
      Lib.hid (fun r v W hr hH => diff_any (nms O) HSH.out v r (by rw [nms_len]; exact hr) W hH)
    go_enter Tryz.func103, Tryz.ntmps103
    go_wp2_with fail
    refine (HSK.out _ ((Below.refl _ _).alloc (Nat.le_refl _) _)).mono ?_
    rintro e w1 ⟨mv, rfl, hM, hy, hno, hb1⟩
    obtain ⟨b, rfl⟩ := hy HOK.out
    have c2 : w1.cell? ⟨w.heap.size, 2, none⟩ = some (.slice C n cc) := by rw [hb1.cell (p := ⟨w.heap.size, 2, none⟩) (by simp)]; simp
    have hbw1 : Below w.heap.size w w1 := ((Below.refl _ _).alloc (Nat.le_refl _) _).trans (hb1.mono (by simp))
    have hs1 : w.heap.size < w1.heap.size := by have := hb1.size; simp at this; omega
    have HM := Lib.hid hM
    clear hM hy hno hb1
    go_wp2_with fail
    refine (opNames_any O HN14.out _ _ (HOO.out _ hbw1)).mono ?_
    rintro e w2 ⟨v2, rfl, hv2, hb2⟩
    have HV2 := Lib.hid hv2
    have d2 : w2.cell? ⟨w.heap.size, 2, none⟩ = some (.slice C n cc) := (hb2.cell (by exact hs1)).trans c2
    have hbw2 := hbw1.trans (hb2.mono hbw1.size)
    have hs2 : w.heap.size < w2.heap.size := Nat.lt_of_lt_of_le hs1 hb2.size
    have HM2 := Lib.hid (HM.out.below hb2)
    clear hv2 hb2 c2
    go_wp2_with fail
    cases hnm : namesTo (nms O) O.length with
    | false =>
      have HR : Hid (r = false) := Lib.hid (by rw [← hr2, opsOk, hnm]; simp)
      refine (HNM.out _ _ _ hnm HV2.out).mono ?_
      rintro e w3 ⟨rfl, rfl⟩
      clear hnm hr2
      go_wp2
      refine bodyPost_ret (v := .tuple #[.map none, .slice none 0 0]) (by simp [results, Tryz.results103, go_sem]) rfl ?_
      exact ⟨_, _, rfl, fun _ => ⟨rfl, rfl⟩, (fun h => by rw [HR.out] at h; cases h), hbw2⟩
    | true =>
      refine (HNM.out _ _ _ hnm HV2.out).mono ?_
      rintro e w3 ⟨rfl, rfl⟩
      go_wp2_with fail
      cases hds : (O.all fun o => declsOk U.length (κU U) o.decls) with
      | false =>
        have HR : Hid (r = false) := Lib.hid (by rw [← hr2, opsOk, hds]; simp)
        refine (opShapes_any U HLIM.out O HN14.out false hds _ _ _ (HOO.out _ hbw2) HM2.out).mono ?_
        rintro e w3 ⟨v3, rfl, _, hv3, hb3⟩
        obtain rfl := hv3 rfl
        have e2 : w3.cell? ⟨w.heap.size, 2, none⟩ = some (.slice C n cc) := (hb3.cell (by exact hs2)).trans d2
        clear hnm hr2 hds d2 hv3
        go_wp2
        refine bodyPost_ret (v := .tuple #[.map none, .slice none 0 0]) (by simp [results, Tryz.results103, go_sem]) rfl ?_
        exact ⟨_, _, rfl, fun _ => ⟨rfl, rfl⟩, (fun h => by rw [HR.out] at h; cases h), hbw2.trans (hb3.mono hbw2.size)⟩
      | true =>
        refine (opShapes_any U HLIM.out O HN14.out true hds _ _ _ (HOO.out _ hbw2) HM2.out).mono ?_
        rintro e w3 ⟨v3, rfl, hv3, _, hb3⟩
        have hT := hv3 rfl
        obtain ⟨A5, c5, rfl, hT5⟩ := HasR.shape hT rfl
        have HT := Lib.hid hT5
        have e2 : w3.cell? ⟨w.heap.size, 2, none⟩ = some (.slice C n cc) := (hb3.cell (by exact hs2)).trans d2
        have hbw3 := hbw2.trans (hb3.mono hbw2.size)
        have HFR : Hid (fitB O (shps (κU U) O) = r) := Lib.hid (by
          rw [fitB_eq (firsts_of hds), ← hr2, opsOk, hnm, hds]
          have := HN14.out
          simp [this])
        have HM3 := Lib.hid (HM2.out.below hb3)
        clear hnm hr2 hds d2 hv3 hT hT5 hb3
        cases r with
        | false =>
          go_wp2_with fail
          refine (fitAxioms_any O (shps (κU U) O) (shps_len _ _) false HFR.out _ _ _ (HOO.out _ hbw3) HT.out).mono ?_
          rintro e w4 ⟨rfl, hb4⟩
          go_wp2
          refine bodyPost_ret (v := .tuple #[.map none, .slice none 0 0]) (by simp [results, Tryz.results103, go_sem]) rfl ?_
          exact ⟨_, _, rfl, fun _ => ⟨rfl, rfl⟩, (fun h => by cases h), hbw3.trans (hb4.mono hbw3.size)⟩
        | true =>
          go_wp2_with fail
          refine (fitAxioms_any O (shps (κU U) O) (shps_len _ _) true HFR.out _ _ _ (HOO.out _ hbw3) HT.out).mono ?_
          rintro e w4 ⟨rfl, hb4⟩
          have HP : Hid (ShapesP P Q O true w (.returned (.tuple #[.map (some b), .slice A5 (shps (κU U) O).length c5])) w4) := Lib.hid ⟨_, _, rfl, (fun h => by cases h), fun _ => ⟨⟨_, rfl⟩, ⟨A5, c5, by rw [shps_len]⟩, by rw [← HUU.out]; exact HM3.out.below hb4, by rw [← HUU.out]; exact HasR.below RS_steady HT.out (Nat.le_refl _) hb4⟩, hbw3.trans (hb4.mono hbw3.size)⟩
          go_wp2
          refine bodyPost_ret (v := .tuple #[.map (some b), .slice A5 (shps (κU U) O).length c5]) (by simp [results, Tryz.results103, go_sem]) rfl ?_
          exact HP.out
set_option maxRecDepth 20000 in
set_option maxHeartbeats 2000000 in
/-- impl.IsSignature -/
theorem iIsSig_any (P : List (List UInt8)) (Q : List (Int × Int)) (O : List OpM) (va vb vc : Value) (r : Bool) (hr : sigOk P Q O = r) (w : World) (h : HasG w va vb vc P Q O) :
    Calls Tryz.prog 52 #[.agg #[va, vb, vc]] w fun e w' => e = .returned (.bool r) ∧ Below w.heap.size w w' := by
  have HSS := Lib.hid (fun W (hW : Below w.heap.size w W) => sigShapes_any P Q O va vb vc r hr W (h.below (Nat.le_refl _) hW))
  obtain ⟨A, ca, B, cb, C, cc, rfl, rfl, rfl, hl1, hl2, hl3, h'⟩ := h.shape
  have heql : ∀ (m : Option Nat) (W : World), (binOp .neq 77 (.map m) (.map none)).run Tryz.prog W = .ok (.bool m.isSome) W := fun m W => run_neq_map W 77 _ _ m Tryz.underlying77
  clear h h' hr
  go_enter Tryz.func52, Tryz.ntmps52
  go_wp2_with fail
  refine (HSS.out _ ((Below.refl _ _).alloc (Nat.le_refl _) _)).mono ?_
  rintro e w1 ⟨mv, sv, rfl, hF, hT, hb1⟩
  have hbw1 : Below w.heap.size w w1 := ((Below.refl _ _).alloc (Nat.le_refl _) _).trans (hb1.mono (by simp))
  cases r with
  | false =>
    obtain ⟨rfl, rfl⟩ := hF rfl
    clear hF hT hb1
    go_wp2
    go_ret
    exact ⟨rfl, hbw1⟩
  | true =>
    obtain ⟨⟨b, rfl⟩, ⟨A5, c5, rfl⟩, _, _⟩ := hT rfl
    clear hF hT hb1
    go_wp2
    go_ret
    exact ⟨rfl, hbw1⟩
end Go.Proofs.YtjejdcehlckfhaaGreat.sigv
