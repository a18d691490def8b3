/-
  THE PROGRAM's SEVEN FUNCTIONS OF SORTS: IsSorts, AboveSort, BelowSort, KindOfSort, LeastSorts, GreatestSorts, CommonSorts.
-/
import Derived.Test.YtjejdcehlckfhaaGreatSorti
import Derived.Laws.Cover3
namespace Go.Proofs.YtjejdcehlckfhaaGreat.sortf
open Go.ChangeShapes Go.WideShapes Go.ChangeAt Go.RowKit
open mem split strl subs sortn setm sets sortm sortp sorti

def aboveI (P : List (List UInt8)) (Q : List (Int × Int)) (x : Int) : Nat := atU (ordU P Q) x
def belowI (P : List (List UInt8)) (Q : List (Int × Int)) (x : Int) : Nat := belowX (ordU P Q) x
def kindI (P : List (List UInt8)) (Q : List (Int × Int)) (x : Int) : Int := if 0 ≤ x ∧ x < (ordU P Q).length then (((kin P.length (prs Q)).getD x.toNat 0 : Nat) : Int) else -1
def leastI (P : List (List UInt8)) (Q : List (Int × Int)) (x : Int) : Nat := leastU (ordU P Q) (inU (ordU P Q).length x)
def mostI (P : List (List UInt8)) (Q : List (Int × Int)) (x : Int) : Nat := mostU (ordU P Q) (inU (ordU P Q).length x)
def commonI (P : List (List UInt8)) (Q : List (Int × Int)) (a b : Int) : Nat := mostU (ordU P Q) (belowX (ordU P Q) a &&& belowX (ordU P Q) b)
theorem atU_lt {U : List Nat} (h : Lim U) (x : Int) : atU U x < 2 ^ U.length := by
  unfold atU
  split
  · exact h.2 _
  · exact Nat.two_pow_pos _
theorem lim16 {U : List Nat} (h : Lim U) {x : Nat} (hx : x < 2 ^ U.length) : x < 65536 := Nat.lt_of_lt_of_le hx (Nat.le_trans (pow8 h.1) (by decide))
theorem ordU_refl (P : List (List UInt8)) (Q : List (Int × Int)) (i : Nat) (hi : i < (ordU P Q).length) : ((ordU P Q).getD i 0).testBit i = true := by
  cases h : okS P Q with
  | false => rw [ordU_no h] at hi; simp at hi
  | true =>
    obtain ⟨h1, h2, h3, h4, h5⟩ := okS_parts h
    rw [ordU_yes h] at hi ⊢
    rw [clo_len] at hi
    exact (clo_bit h3.inR hi i).2 ⟨hi, rea_refl _ _ _⟩
theorem ordU_len (P : List (List UInt8)) (Q : List (Int × Int)) : (ordU P Q).length = if okS P Q then P.length else 0 := by
  unfold ordU; split
  · rw [clo_len]
  · rfl
theorem conv_u16 (n : Nat) (h : n < 65536) : IntKind.i64.wrap (n : Int) = (n : Int) := wraps_i64 _ (by omega) (by omega)
/-- impl.IsSorts -/
theorem iIsSorts_any (P : List (List UInt8)) (Q : List (Int × Int)) (va vb : Value) (r : Bool) (hr : okS P Q = r) (w : World) (h : HasS w va vb P Q) :
    Calls Tryz.prog 178 #[.agg #[va, vb]] w fun e w' => e = .returned (.bool r) ∧ Below w.heap.size w w' := by
  have HO := Lib.hid (fun W hW => sortOrder_any P Q va vb W (h.below (Nat.le_refl _) hW))
  obtain ⟨A, ca, B, cb, rfl, rfl, hla, hlb, h'⟩ := h.shape
  have hne : ∀ (m : Option Nat) (W : World), (binOp .neq 77 (.map m) (.map none)).run Tryz.prog W = .ok (.bool (!m.isNone)) W := fun m W => run_neq_map_nil W 77 _ _ m Tryz.underlying77
  clear h h'
  subst hr
  cases hok : okS P Q with
  | false =>
    have HOK := Lib.hid hok
    clear hok
    go_enter Tryz.func178, Tryz.ntmps178
    go_wp2_with (go_at_call 85; refine (HO.out _ ((Below.refl _ _).alloc (Nat.le_refl _) _)).mono ?_; rintro e w1 ⟨mv, rfl, hM, hy, hno, hb1⟩; obtain rfl := hno HOK.out; clear hM hy hno)
    go_ret
    exact ⟨rfl, ((Below.refl _ _).alloc (Nat.le_refl _) _).trans (hb1.mono (by simp))⟩
  | true =>
    have HOK := Lib.hid hok
    clear hok
    go_enter Tryz.func178, Tryz.ntmps178
    go_wp2_with (go_at_call 85; refine (HO.out _ ((Below.refl _ _).alloc (Nat.le_refl _) _)).mono ?_; rintro e w1 ⟨mv, rfl, hM, hy, hno, hb1⟩; obtain ⟨b, rfl⟩ := hy HOK.out; clear hM hno)
    go_ret
    exact ⟨rfl, ((Below.refl _ _).alloc (Nat.le_refl _) _).trans (hb1.mono (by simp))⟩
/-- two cells stay, whatever a call adds -/
theorem held2 {wr w0 w1 : World} {p q : Addr} {a b : Value} (h : (w0.cell? p = some a ∧ w0.cell? q = some b) ∧ Below wr.heap.size wr w0) (hp : p.block < wr.heap.size ∧ q.block < wr.heap.size) (hb : Below w0.heap.size w0 w1) :
    (w1.cell? p = some a ∧ w1.cell? q = some b) ∧ Below wr.heap.size wr w1 := by
  have hs := h.2.size
  exact ⟨⟨(hb.cell (by omega)).trans h.1.1, (hb.cell (by omega)).trans h.1.2⟩, h.2.trans (hb.mono hs)⟩
/-- the kinds as a list of sets; none if the sorts are not valid -/
def kindsU (P : List (List UInt8)) (Q : List (Int × Int)) : List Nat := if okS P Q then clo P.length (both (prs Q)) else []
theorem kindsU_len (P : List (List UInt8)) (Q : List (Int × Int)) : (kindsU P Q).length = if okS P Q then P.length else 0 := by
  unfold kindsU; split
  · rw [clo_len]
  · rfl
/-- impl.sortKinds -/
theorem sortKinds_any (P : List (List UInt8)) (Q : List (Int × Int)) (va vb : Value) (w : World) (h : HasS w va vb P Q) :
    Calls Tryz.prog 143 #[.agg #[va, vb]] w fun e w' => ∃ mv, e = .returned mv ∧ MapU w' mv (kindsU P Q) ∧ (okS P Q = true → ∃ b, mv = .map (some b)) ∧ (okS P Q = false → mv = .map none) ∧ Below w.heap.size w w' := by
  have HIS := Lib.hid (fun r hr W hW => iIsSorts_any P Q va vb r hr W (h.below (Nat.le_refl _) hW))
  obtain ⟨A, ca, B, cb, rfl, rfl, hla, hlb, h'⟩ := h.shape
  have HH := Lib.hid h'
  clear h h'
  cases hok : okS P Q with
  | false =>
    have HQ : Hid (kindsU P Q = []) := Lib.hid (by rw [kindsU, hok]; rfl)
    have HOK := Lib.hid hok
    have HI := Lib.hid (HIS.out false hok)
    clear hok
    go_enter Tryz.func143, Tryz.ntmps143
    go_wp2_with (go_at_call 178; refine (HI.out _ ((Below.refl _ _).alloc (Nat.le_refl _) _)).mono ?_; rintro e w1 ⟨rfl, hb1⟩)
    go_ret
    exact ⟨_, rfl, .inl ⟨rfl, HQ.out⟩, fun e => (by cases e), fun _ => rfl, ((Below.refl _ _).alloc (Nat.le_refl _) _).trans (hb1.mono (by simp))⟩
  | true =>
    obtain ⟨p1, p2, p3, p4, p5⟩ := okS_parts hok
    have HQ : Hid (kindsU P Q = clo P.length (both (prs Q))) := Lib.hid (by rw [kindsU, if_pos hok])
    have HOK := Lib.hid hok
    have HI := Lib.hid (HIS.out true hok)
    have HB := Lib.hid (fun W hW => bothDirections_any Q p4 _ W (HH.out.below (Nat.le_refl _) hW).b)
    have HCL := Lib.hid (fun v W hW => closePairs_any P.length (by omega) (bothQ Q) (by rw [bothQ_len]; omega) (bothQ_pin p3) v W hW)
    rw [bothQ_prs] at HCL
    clear hok p1 p2 p3 p4 p5
    go_enter Tryz.func143, Tryz.ntmps143
    go_wp2_with fail
    refine (HI.out _ ((Below.refl _ _).alloc (Nat.le_refl _) _)).mono ?_
    rintro e w1 ⟨rfl, hb1⟩
    have hbw : Below w.heap.size w w1 := ((Below.refl _ _).alloc (Nat.le_refl _) _).trans (hb1.mono (by simp))
    have c0 : w1.cell? ⟨w.heap.size, 0, none⟩ = some (.slice A P.length ca) := by rw [hb1.cell (p := ⟨w.heap.size, 0, none⟩) (by simp)]; simp
    have c1 : w1.cell? ⟨w.heap.size, 1, none⟩ = some (.slice B Q.length cb) := by rw [hb1.cell (p := ⟨w.heap.size, 1, none⟩) (by simp)]; simp
    have hs1 : w.heap.size < w1.heap.size := by have := hb1.size; simp at this; omega
    clear hb1
    go_wp2_with fail
    go_region_held3 (fun w' => (w'.cell? ⟨w.heap.size, 0, none⟩ = some (.slice A P.length ca) ∧ w'.cell? ⟨w.heap.size, 1, none⟩ = some (.slice B Q.length cb)) ∧ Below w1.heap.size w1 w')
      (first | (refine ⟨⟨?_, ?_⟩, (Below.refl _ _).drew⟩ <;> assumption) | (go_split_ands; exact held2 (p := ⟨w.heap.size, 0, none⟩) (q := ⟨w.heap.size, 1, none⟩) ⟨⟨by assumption, by assumption⟩, by assumption⟩ ⟨hs1, hs1⟩ (by assumption)))
      (first
        | (go_at_call 179; go_split_ands; refine (HB.out _ (hbw.trans (Below.mono (by assumption) hbw.size))).mono ?_; rintro e w2 ⟨bv, rfl, hbv, hb2⟩; have HBV := Lib.hid hbv; clear hbv)
        | (go_at_call 136; go_split_ands; refine (HCL.out _ _ HBV.out).mono ?_; rintro e w3 ⟨b, rfl, hM, hb3⟩; have HM := Lib.hid hM; clear hM))
    go_wp2
    have hh : (w3.cell? ⟨w.heap.size, 0, none⟩ = some (.slice A P.length ca) ∧ w3.cell? ⟨w.heap.size, 1, none⟩ = some (.slice B Q.length cb)) ∧ Below w1.heap.size w1 w3 := by assumption
    go_ret
    exact ⟨_, rfl, by rw [HQ.out]; exact HM.out, fun _ => ⟨_, rfl⟩, fun e => (by cases e), hbw.trans (hh.2.mono hbw.size)⟩
end Go.Proofs.YtjejdcehlckfhaaGreat.sortf
