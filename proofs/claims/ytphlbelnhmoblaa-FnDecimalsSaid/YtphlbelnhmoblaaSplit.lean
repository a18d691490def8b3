/-
  PLAIN MATHEMATICS OF SPLITTING, and the contracts of the two SplitByte.
-/
import Derived.Test.YtphlbelnhmoblaaMem
import Derived.OwnWalk
namespace Go.Proofs.Ytphlbelnhmoblaa.split
open Go.ChangeShapes Go.WideShapes Go.ChangeAt Go.RowKit
open mem

/-- x is laid ahead of the first part -/
def pre (x : List UInt8) : List (List UInt8) → List (List UInt8)
  | [] => [x]
  | h :: r => (x ++ h) :: r
def split (c : UInt8) : List UInt8 → List (List UInt8)
  | [] => [[]]
  | b :: t => if b = c then [] :: split c t else pre [b] (split c t)

theorem pre_nil (ls : List (List UInt8)) (h : ls ≠ []) : pre [] ls = ls := by cases ls with | nil => exact absurd rfl h | cons a r => rfl
theorem pre_ne (x : List UInt8) (ls : List (List UInt8)) : pre x ls ≠ [] := by cases ls <;> simp [pre]
theorem pre_pre (x y : List UInt8) (ls : List (List UInt8)) : pre x (pre y ls) = pre (x ++ y) ls := by cases ls <;> simp [pre]
theorem split_ne (c : UInt8) (l : List UInt8) : split c l ≠ [] := by
  cases l with
  | nil => simp [split]
  | cons b t => unfold split; split
                · simp
                · exact pre_ne _ _

theorem pre_len (x : List UInt8) (ls : List (List UInt8)) : (pre x ls).length ≤ ls.length + (if ls = [] then 1 else 0) := by cases ls <;> simp [pre]
theorem split_le (c : UInt8) (l : List UInt8) : (split c l).length ≤ l.length + 1 := by
  induction l with
  | nil => simp [split]
  | cons b t ih =>
    unfold split
    split
    · simp; exact ih
    · have := pre_len [b] (split c t)
      rw [if_neg (split_ne c t)] at this
      simp; omega

/-- P: the parts so far; s: where the next one begins; i: what has been looked at -/
def Inv (c : UInt8) (l : List UInt8) (P : List (List UInt8)) (s i : Nat) : Prop := s ≤ i ∧ P.length ≤ i ∧ split c l = P ++ pre ((l.take i).drop s) (split c (l.drop i))
theorem inv_start (c : UInt8) (l : List UInt8) : Inv c l [] 0 0 := ⟨Nat.le_refl _, Nat.le_refl _, by simp [pre_nil _ (split_ne c l)]⟩
theorem inv_hit {c : UInt8} {l : List UInt8} {P : List (List UInt8)} {s i : Nat} (h : Inv c l P s i) (hi : i < l.length) (hb : l.getD i 0 = c) : Inv c l (P ++ [(l.take i).drop s]) (i + 1) (i + 1) := by
  obtain ⟨h1, h2, h3⟩ := h
  refine ⟨Nat.le_refl _, by simp; omega, ?_⟩
  rw [h3]
  have hd : l.drop i = c :: l.drop (i + 1) := by
    rw [List.drop_eq_getElem_cons hi, ← hb]; simp [List.getD, List.getElem?_eq_getElem hi]
  rw [hd]
  rw [show split c (c :: l.drop (i + 1)) = [] :: split c (l.drop (i + 1)) by simp [split]]
  rw [List.drop_take_self, pre_nil _ (split_ne _ _)]
  simp [pre]
theorem inv_miss {c : UInt8} {l : List UInt8} {P : List (List UInt8)} {s i : Nat} (h : Inv c l P s i) (hi : i < l.length) (hb : l.getD i 0 ≠ c) : Inv c l P s (i + 1) := by
  obtain ⟨h1, h2, h3⟩ := h
  refine ⟨by omega, by omega, ?_⟩
  rw [h3]
  have hg : l.getD i 0 = l[i] := by simp [List.getD, List.getElem?_eq_getElem hi]
  rw [hg] at hb
  rw [List.drop_eq_getElem_cons hi]
  simp only [split, if_neg hb]
  rw [pre_pre, List.take_succ_eq_append_getElem hi, List.drop_append_of_le_length (by rw [List.length_take]; omega)]
theorem inv_last {c : UInt8} {l : List UInt8} {P : List (List UInt8)} {s : Nat} (h : Inv c l P s l.length) : split c l = P ++ [l.drop s] := by
  have h3 := h.2.2
  simpa [split, pre] using h3

def ssv (P : List (List UInt8)) : List Value := P.map fun x => .string (bstr x)
theorem ssv_append (P Q : List (List UInt8)) : ssv (P ++ Q) = ssv P ++ ssv Q := by simp [ssv]
theorem ssv_len (P : List (List UInt8)) : (ssv P).length = P.length := by simp [ssv]

theorem info_str : (Try.prog.info? 9).map (fun i => (i.zero, i.size, i.bytes)) = some (some (.string .empty), 1, 16) := by kernel_rfl

/-- impl.SplitByte -/
theorem impl_any (l : List UInt8) (hl : l.length ≤ 1048576) (c : UInt8) (w : World) :
    Calls Try.prog 11 #[.string (bstr l), .int .u8 (c.toNat : Int)] w fun e w' => ∃ v, e = .returned v ∧ w'.ownsRow w.heap.size 9 1 v (split c l).length (ssv (split c l)) ∧ Below w.heap.size w w' := by
  have hsz : (bstr l).size = l.length := bstr_size l
  obtain ⟨i0, hi, hz0, hz1, hz2⟩ := info_parts info_str
  go_enter Try.func11, Try.ntmps11
  go_wp2
  go_loopw [5, 6, 11] (fun v s i wr => ∃ (P : List (List UInt8)) (a k : Nat), k ≤ l.length ∧ s = .int .i64 a ∧ i = .int .i64 k ∧ Inv c l P a k ∧ wr.ownsRow w.heap.size 9 1 v P.length (ssv P) ∧ Below w.heap.size w wr)
    (fun _ _ i _ => l.length - (intOf i).toNat)
  case atStart => exact ⟨[], 0, 0, Nat.zero_le _, rfl, rfl, inv_start c l, World.ownsRow_lit w #[] 0 (Nat.le_refl _) (by unfold maxLen; omega) rfl, (Below.refl _ _).alloc (Nat.le_refl _) _⟩
  case round =>
    obtain ⟨P, a, k, hk, rfl, rfl, hinv, hown, hbel⟩ := hrel
    have hak := hinv.1
    have hPk := hinv.2.1
    have HO := Lib.hid (own_block hown)
    by_cases hlt : k < l.length
    · have hidx : ∀ w : World, (Instr.index 9 (.string (bstr l)) (.int .i64 (k : Int))).run Try.prog w = .ok (.int .u8 ((l.getD k 0).toNat : Int)) w := fun w => run_index_bstr w Try.underlying9 hlt
      by_cases hb : l.getD k 0 = c
      · have HI := Lib.hid (inv_hit hinv hlt hb)
        have hx := bstr_extract l a k
        obtain ⟨X, hX⟩ : ∃ X, X = (l.take k).drop a := ⟨_, rfl⟩
        rw [← hX] at hx HI
        rw [hb] at hidx
        clear hb hinv hX
        go_wp2_with (first | (at_builtin; refine wpList_append_own _ rfl _ _ 30 rfl w.heap.size 9 i0 (.string .empty) 1 16 Try.underlying30 hi hz0 hz1 hz2 rfl (by decide) _ _ _ rfl (hown.alloc _) ⟨wr.heap.size, 0, none⟩ 1 1 [.string (bstr X)] rfl rfl (one_cell _ _ _) (one_one _ rfl) (by unfold maxLen; omega) (by omega) (by have := hbel.size; simp; omega) ?_))
        intro v1 w1 hown1 hgrow1 _
        have HB := (hbel.alloc hbel.size (.cells #[.string (bstr X)] 9)).grown hgrow1 (by have := hbel.size; simp; omega) HO.out
        have HOWN : w1.ownsRow w.heap.size 9 1 v1 (P ++ [X]).length (ssv (P ++ [X])) := by simpa [ssv] using hown1
        clear hown1 hgrow1 hown hbel
        go_wp2
        go_roundw
        case rel => exact ⟨P ++ [X], k + 1, k + 1, by omega, by go_num, by go_num, HI.out, HOWN, HB⟩
        case measure => simp [intOf]; omega
      · have HI := Lib.hid (inv_miss hinv hlt hb)
        have hne : (((l.getD k 0).toNat : Int) == (c.toNat : Int)) = false := by
          have : (l.getD k 0).toNat ≠ c.toNat := fun h => hb (UInt8.toNat_inj.1 h)
          simp only [beq_eq_false_iff_ne, ne_eq, Int.natCast_inj]; exact this
        obtain ⟨b, hbb⟩ : ∃ b, b = l.getD k 0 := ⟨_, rfl⟩
        rw [← hbb] at hidx hne
        clear hb hinv hbb
        go_wp2
        go_roundw
        case rel => exact ⟨P, a, k + 1, by omega, rfl, by go_num, HI.out, hown, hbel⟩
        case measure => simp [intOf]; omega
    · obtain rfl : k = l.length := by omega
      have HI := Lib.hid (inv_last hinv)
      have hx := bstr_extract l a l.length
      rw [List.take_length] at hx
      obtain ⟨X, hX⟩ : ∃ X, X = l.drop a := ⟨_, rfl⟩
      rw [← hX] at hx HI
      clear hinv hX
      go_wp2_with (first | (at_builtin; refine wpList_append_own _ rfl _ _ 30 rfl w.heap.size 9 i0 (.string .empty) 1 16 Try.underlying30 hi hz0 hz1 hz2 rfl (by decide) _ _ _ rfl (hown.alloc _) ⟨wr.heap.size, 0, none⟩ 1 1 [.string (bstr X)] rfl rfl (one_cell _ _ _) (one_one _ rfl) (by unfold maxLen; omega) (by omega) (by have := hbel.size; simp; omega) ?_))
      intro v1 w1 hown1 hgrow1 _
      have HB := (hbel.alloc hbel.size (.cells #[.string (bstr X)] 9)).grown hgrow1 (by have := hbel.size; simp; omega) HO.out
      have HOWN : w1.ownsRow w.heap.size 9 1 v1 (split c l).length (ssv (split c l)) := by rw [HI.out]; simpa [ssv] using hown1
      clear hown1 hgrow1 hown hbel
      go_wp2
      go_ret
      exact ⟨v1, rfl, HOWN, HB⟩

end Go.Proofs.Ytphlbelnhmoblaa.split
