/-
  DECLARATIONS, OPERATORS AND SIGNATURES IN MEMORY; CONTRACTS OF THE LAWS' OWN FUNCTIONS ON THEM (sz.., to.., eq..).
-/
import Derived.Test.YtjejdcehlckfhaaGreatRowl
import Derived.Test.YtjejdcehlckfhaaGreatIntl
import Derived.Test.YtjejdcehlckfhaaGreatSigm
import Derived.Test.YtjejdcehlckfhaaGreatSubs
import Derived.Test.YtjejdcehlckfhaaGreatSorti
namespace Go.Proofs.YtjejdcehlckfhaaGreat.sigs
open Go.ChangeShapes Go.WideShapes Go.ChangeAt Go.RowKit
open mem split strl join subs setm sortp sorti rowl sigm

/-- a declaration in two cells -/
def RD : Reads (List Int × Int) := fun lo w cs d => ∃ va, cs = [va, .int .i64 d.2] ∧ HasL lo w va (ivs d.1) ∧ I64 d.2 ∧ ∀ x ∈ d.1, I64 x
theorem RD_steady : Steady RD := ⟨fun ⟨va, e, h, r⟩ hk => ⟨va, e, h.kept hk, r⟩, fun ⟨va, e, h, r⟩ hl => ⟨va, e, h.mono hl, r⟩⟩
/-- declarations -/
abbrev HasD (lo : Nat) (w : World) (v : Value) (D : List (List Int × Int)) : Prop := HasR RD 2 lo w v D
theorem HasL.shape {lo : Nat} {w : World} {v : Value} {xs : List Value} (h : HasL lo w v xs) {n : Nat} (hn : xs.length = n) : ∃ A c, v = .slice A n c ∧ HasL lo w (.slice A n c) xs := by
  subst hn
  obtain ⟨A, c, rfl, h'⟩ := h
  exact ⟨A, c, rfl, A, c, rfl, h'⟩
theorem decl_at {lo : Nat} {w : World} {A : Option Addr} {n c : Nat} {D : List (List Int × Int)} (h : HasD lo w (.slice A n c) D) {j : Nat} (hj : j < n) :
    ∃ g o A2 c2, A = some ⟨g, o, none⟩ ∧ lo ≤ g ∧ g < w.heap.size ∧ w.cell? ⟨g, o + j * 2, none⟩ = some (.slice A2 (D.getD j default).1.length c2) ∧ w.cell? ⟨g, o + j * 2 + 1, none⟩ = some (.int .i64 (D.getD j default).2) ∧
      HasL lo w (.slice A2 (D.getD j default).1.length c2) (ivs (D.getD j default).1) ∧ I64 (D.getD j default).2 ∧ ∀ x ∈ (D.getD j default).1, I64 x := by
  obtain ⟨g, o, cs, e, hl, hg, hc, va, rfl, hh, h1, h2⟩ := h.get hj
  obtain ⟨A2, c2, rfl, hh'⟩ := HasL.shape hh (ivs_len _)
  exact ⟨g, o, A2, c2, e, hl, hg, hc 0 (by omega), hc 1 (by omega), hh', h1, h2⟩
/-- an operator in five cells -/
def RO : Reads OpM := fun lo w cs o => ∃ va, cs = [.string (bstr o.name), va, .bool o.ass, .bool o.com, .int .i64 o.unt] ∧ HasD lo w va o.decls ∧ o.name.length ≤ maxLen ∧ I64 o.unt
theorem RO_steady : Steady RO := ⟨fun ⟨va, e, h, r⟩ hk => ⟨va, e, h.kept RD_steady hk, r⟩, fun ⟨va, e, h, r⟩ hl => ⟨va, e, h.mono RD_steady hl, r⟩⟩
abbrev HasO (lo : Nat) (w : World) (v : Value) (O : List OpM) : Prop := HasR RO 5 lo w v O
theorem op_at {lo : Nat} {w : World} {A : Option Addr} {n c : Nat} {O : List OpM} (h : HasO lo w (.slice A n c) O) {j : Nat} (hj : j < n) :
    ∃ g o A2 c2, A = some ⟨g, o, none⟩ ∧ lo ≤ g ∧ g < w.heap.size ∧ w.cell? ⟨g, o + j * 5, none⟩ = some (.string (bstr (O.getD j default).name)) ∧ w.cell? ⟨g, o + j * 5 + 1, none⟩ = some (.slice A2 (O.getD j default).decls.length c2) ∧
      w.cell? ⟨g, o + j * 5 + 2, none⟩ = some (.bool (O.getD j default).ass) ∧ w.cell? ⟨g, o + j * 5 + 3, none⟩ = some (.bool (O.getD j default).com) ∧ w.cell? ⟨g, o + j * 5 + 4, none⟩ = some (.int .i64 (O.getD j default).unt) ∧
      HasD lo w (.slice A2 (O.getD j default).decls.length c2) (O.getD j default).decls ∧ (O.getD j default).name.length ≤ maxLen ∧ I64 (O.getD j default).unt := by
  obtain ⟨g, o, cs, e, hl, hg, hc, va, rfl, hh, h1, h2⟩ := h.get hj
  obtain ⟨A2, c2, rfl, hh'⟩ := HasR.shape hh rfl
  exact ⟨g, o, A2, c2, e, hl, hg, hc 0 (by omega), hc 1 (by omega), hc 2 (by omega), hc 3 (by omega), hc 4 (by omega), hh', h1, h2⟩
/-- a signature -/
structure HasG (w : World) (va vb vc : Value) (P : List (List UInt8)) (Q : List (Int × Int)) (O : List OpM) : Prop where
  s : HasS w va vb P Q
  o : HasO 0 w vc O
theorem HasG.below {w w' : World} {va vb vc : Value} {P : List (List UInt8)} {Q : List (Int × Int)} {O : List OpM} (h : HasG w va vb vc P Q O) {B : Nat} (hB : w.heap.size ≤ B) (hb : Below B w w') : HasG w' va vb vc P Q O := ⟨h.s.below hB hb, h.o.below RO_steady hB hb⟩
theorem HasG.shape {w : World} {va vb vc : Value} {P : List (List UInt8)} {Q : List (Int × Int)} {O : List OpM} (h : HasG w va vb vc P Q O) :
    ∃ A ca B cb C cc, va = .slice A P.length ca ∧ vb = .slice B Q.length cb ∧ vc = .slice C O.length cc ∧ P.length ≤ 9223372036854775807 ∧ Q.length ≤ 9223372036854775807 ∧ O.length ≤ 9223372036854775807 ∧
      HasG w (.slice A P.length ca) (.slice B Q.length cb) (.slice C O.length cc) P Q O := by
  obtain ⟨A, ca, B, cb, rfl, rfl, h1, h2, hs⟩ := h.s.shape
  obtain ⟨C, cc, rfl, ho⟩ := HasR.shape h.o rfl
  exact ⟨A, ca, B, cb, C, cc, rfl, rfl, rfl, h1, h2, ho.len.2.1, hs, ho⟩

/-- small enough -/
def SmD (D : List (List Int × Int)) : Prop := D.length ≤ 1048576 ∧ ∀ j, j < D.length → (D.getD j default).1.length ≤ 1048576
def SmO (O : List OpM) : Prop := O.length ≤ 1048576 ∧ ∀ j, j < O.length → SmD (O.getD j default).decls
/-- laws.szIntS -/
theorem szIntS_any (A : Option Addr) (n c : Nat) (hl : n ≤ 9223372036854775807) (w : World) (m : Int) (hm : 0 ≤ m) (hm2 : m ≤ 1048576) :
    Calls Tryz.prog 207 #[.slice A n c, .int .i64 m] w fun e w' => ∃ r : Int, e = .returned (.int .i64 r) ∧ (0 ≤ r → n ≤ 1048576) ∧ -1 ≤ r ∧ r ≤ 1048576 ∧ w = w' := by
  by_cases hneg : m - (n : Int) < 0
  · go_enter Tryz.func207, Tryz.ntmps207
    go_wp2
    go_ret
    exact ⟨-1, rfl, fun h => by omega, by omega, by omega, rfl⟩
  · go_enter Tryz.func207, Tryz.ntmps207
    go_wp2
    go_ret
    exact ⟨_, rfl, fun h => by omega, by omega, by omega, rfl⟩
/-- laws.szDecl -/
theorem szDecl_any (A : Option Addr) (n c : Nat) (x : Int) (hl : n ≤ 9223372036854775807) (w : World) (m : Int) (hm : 0 ≤ m) (hm2 : m ≤ 1048576) :
    Calls Tryz.prog 171 #[.agg #[.slice A n c, .int .i64 x], .int .i64 m] w fun e w' => ∃ r : Int, e = .returned (.int .i64 r) ∧ (0 ≤ r → n ≤ 1048576) ∧ -1 ≤ r ∧ r ≤ 1048576 ∧ Below w.heap.size w w' := by
  go_enter Tryz.func171, Tryz.ntmps171
  go_wp2_with fail
  refine (szIntS_any A n c hl _ m hm hm2).mono ?_
  rintro e w1 ⟨r, rfl, hr, hr1, hr2, rfl⟩
  by_cases hneg : r < 0
  · go_wp2
    go_ret
    exact ⟨-1, rfl, fun h => by omega, by omega, by omega, (Below.refl _ _).alloc (Nat.le_refl _) _⟩
  · go_wp2
    go_ret
    exact ⟨r, rfl, hr, hr1, hr2, (Below.refl _ _).alloc (Nat.le_refl _) _⟩
/-- laws.szDeclS -/
theorem szDeclS_any (D : List (List Int × Int)) (v : Value) (w : World) {lo : Nat} (h : HasD lo w v D) (m : Int) (hm : 0 ≤ m) (hm2 : m ≤ 1048576) :
    Calls Tryz.prog 126 #[v, .int .i64 m] w fun e w' => ∃ r : Int, e = .returned (.int .i64 r) ∧ (0 ≤ r → SmD D) ∧ -1 ≤ r ∧ r ≤ 1048576 ∧ Below w.heap.size w w' := by
  obtain ⟨n, hn⟩ : ∃ n, n = D.length := ⟨_, rfl⟩
  obtain ⟨A, c, rfl, h⟩ := HasR.shape h hn.symm
  have hl := h.len.2.1
  have HH := Lib.hid h
  have HN := Lib.hid hn
  clear h hn
  by_cases hneg : m - (n : Int) < 0
  · go_enter Tryz.func126, Tryz.ntmps126
    go_wp2
    go_ret
    exact ⟨-1, rfl, fun h => by omega, by omega, by omega, Below.refl _ _⟩
  · have hnm : (n : Int) ≤ m := by omega
    go_enter Tryz.func126, Tryz.ntmps126
    go_wp2
    go_loopw [1, 5] (fun v i wr => ∃ (k : Nat) (r : Int), k ≤ n ∧ i = .int .i64 k ∧ v = .int .i64 r ∧ 0 ≤ r ∧ r ≤ 1048576 ∧ Hid (∀ j, j < k → (D.getD j default).1.length ≤ 1048576) ∧ Below w.heap.size w wr) (fun _ i _ => n - (intOf i).toNat)
    case atStart => exact ⟨0, _, Nat.zero_le _, rfl, rfl, by omega, by omega, Lib.hid (fun j hj => by omega), Below.refl _ _⟩
    case round =>
      obtain ⟨k, r, hk, rfl, rfl, hr0, hr1, HS, hbel⟩ := hrel
      by_cases hlt : k < n
      · obtain ⟨g, o, A2, c2, rfl, _, hg, hc0, hc1, hh, _, _⟩ := decl_at HH.out hlt
        have hl2 := hh.has.len
        rw [ivs_len] at hl2
        rw [← hbel.cell (p := ⟨g, o + k * 2, none⟩) hg] at hc0
        rw [← hbel.cell (p := ⟨g, o + k * 2 + 1, none⟩) hg] at hc1
        have HSN : Hid ((D.getD k default).1.length ≤ 1048576 → ∀ j, j < k + 1 → (D.getD j default).1.length ≤ 1048576) := Lib.hid (fun h1 j hj => by
          by_cases e : j = k
          · subst e; exact h1
          · exact HS.out j (by omega))
        obtain ⟨n2, hn2⟩ : ∃ n2, n2 = (D.getD k default).1.length := ⟨_, rfl⟩
        obtain ⟨x, hx⟩ : ∃ x, x = (D.getD k default).2 := ⟨_, rfl⟩
        rw [← hn2] at hc0 hl2 HSN
        rw [← hx] at hc1
        have hl3 := hl2.2
        clear hh hl2 hn2 hx
        go_wp2_with fail
        refine (szDecl_any A2 n2 c2 x hl3 _ r hr0 hr1).mono ?_
        rintro e w2 ⟨r2, rfl, hs, hs1, hs2, hb2⟩
        by_cases hneg2 : r2 < 0
        · go_wp2
          go_ret
          exact ⟨-1, rfl, fun h => by omega, by omega, by omega, hbel.trans (hb2.mono hbel.size)⟩
        · have HSN2 := Lib.hid (HSN.out (hs (by omega)))
          clear hs
          go_wp2
          go_roundw
          case rel => exact ⟨k + 1, r2, by omega, by go_num, rfl, by omega, hs2, HSN2, hbel.trans (hb2.mono hbel.size)⟩
          case measure => simp [intOf]; omega
      · obtain rfl : k = n := by omega
        go_wp2
        go_ret
        exact ⟨r, rfl, fun _ => ⟨by have := HN.out; omega, fun j hj => HS.out j (by have := HN.out; omega)⟩, by omega, hr1, hbel⟩
/-- laws.szOp -/
theorem szOp_any (l : List UInt8) (hl : l.length ≤ maxLen) (D : List (List Int × Int)) (v : Value) (a b : Bool) (u : Int) (w : World) {lo : Nat} (h : HasD lo w v D) (m : Int) (hm : 0 ≤ m) (hm2 : m ≤ 1048576) :
    Calls Tryz.prog 74 #[.agg #[.string (bstr l), v, .bool a, .bool b, .int .i64 u], .int .i64 m] w fun e w' => ∃ r : Int, e = .returned (.int .i64 r) ∧ (0 ≤ r → SmD D) ∧ -1 ≤ r ∧ r ≤ 1048576 ∧ Below w.heap.size w w' := by
  have hsz := bstr_size l
  have HSZ := Lib.hid (fun W (hW : Below w.heap.size w W) m h1 h2 => szDeclS_any D v W (h.below RD_steady (Nat.le_refl _) hW) m h1 h2)
  obtain ⟨A, c, rfl, h⟩ := HasR.shape h rfl
  obtain ⟨n, hn⟩ : ∃ n, n = D.length := ⟨_, rfl⟩
  rw [← hn] at HSZ ⊢
  unfold maxLen at hl
  clear h hn
  by_cases hneg : m - (l.length : Int) < 0
  · go_enter Tryz.func74, Tryz.ntmps74
    go_wp2
    go_ret
    exact ⟨-1, rfl, fun h => by omega, by omega, by omega, (Below.refl _ _).alloc (Nat.le_refl _) _⟩
  · go_enter Tryz.func74, Tryz.ntmps74
    go_wp2_with fail
    refine (HSZ.out _ ((Below.refl _ _).alloc (Nat.le_refl _) _) _ (by omega) (by omega)).mono ?_
    rintro e w1 ⟨r, rfl, hr, hr1, hr2, hb1⟩
    have hbw : Below w.heap.size w w1 := ((Below.refl _ _).alloc (Nat.le_refl _) _).trans (hb1.mono (by simp))
    clear hb1
    by_cases hneg2 : r < 0
    · go_wp2
      go_ret
      exact ⟨-1, rfl, fun h => by omega, by omega, by omega, hbw⟩
    · go_wp2
      go_ret
      exact ⟨r, rfl, hr, hr1, hr2, hbw⟩
/-- laws.szOpS -/
theorem szOpS_any (O : List OpM) (v : Value) (w : World) {lo : Nat} (h : HasO lo w v O) (m : Int) (hm : 0 ≤ m) (hm2 : m ≤ 1048576) :
    Calls Tryz.prog 33 #[v, .int .i64 m] w fun e w' => ∃ r : Int, e = .returned (.int .i64 r) ∧ (0 ≤ r → SmO O) ∧ -1 ≤ r ∧ r ≤ 1048576 ∧ Below w.heap.size w w' := by
  obtain ⟨n, hn⟩ : ∃ n, n = O.length := ⟨_, rfl⟩
  obtain ⟨A, c, rfl, h⟩ := HasR.shape h hn.symm
  have hl := h.len.2.1
  have HH := Lib.hid h
  have HN := Lib.hid hn
  clear h hn
  by_cases hneg : m - (n : Int) < 0
  · go_enter Tryz.func33, Tryz.ntmps33
    go_wp2
    go_ret
    exact ⟨-1, rfl, fun h => by omega, by omega, by omega, Below.refl _ _⟩
  · have hnm : (n : Int) ≤ m := by omega
    go_enter Tryz.func33, Tryz.ntmps33
    go_wp2
    go_loopw [1, 5] (fun v i wr => ∃ (k : Nat) (r : Int), k ≤ n ∧ i = .int .i64 k ∧ v = .int .i64 r ∧ 0 ≤ r ∧ r ≤ 1048576 ∧ Hid (∀ j, j < k → SmD (O.getD j default).decls) ∧ Below w.heap.size w wr) (fun _ i _ => n - (intOf i).toNat)
    case atStart => exact ⟨0, _, Nat.zero_le _, rfl, rfl, by omega, by omega, Lib.hid (fun j hj => by omega), Below.refl _ _⟩
    case round =>
      obtain ⟨k, r, hk, rfl, rfl, hr0, hr1, HS, hbel⟩ := hrel
      by_cases hlt : k < n
      · obtain ⟨g, o, A2, c2, rfl, _, hg, hc0, hc1, hc2, hc3, hc4, hh, hnl, _⟩ := op_at HH.out hlt
        rw [← hbel.cell (p := ⟨g, o + k * 5, none⟩) hg] at hc0
        rw [← hbel.cell (p := ⟨g, o + k * 5 + 1, none⟩) hg] at hc1
        rw [← hbel.cell (p := ⟨g, o + k * 5 + 2, none⟩) hg] at hc2
        rw [← hbel.cell (p := ⟨g, o + k * 5 + 3, none⟩) hg] at hc3
        rw [← hbel.cell (p := ⟨g, o + k * 5 + 4, none⟩) hg] at hc4
        have HSN : Hid (SmD (O.getD k default).decls → ∀ j, j < k + 1 → SmD (O.getD j default).decls) := Lib.hid (fun h1 j hj => by
          by_cases e : j = k
          · subst e; exact h1
          · exact HS.out j (by omega))
        have hh2 := hh.below RD_steady (Nat.le_refl _) hbel
        obtain ⟨⟨nm, D, a, b, u⟩, hop⟩ : ∃ x, x = O.getD k default := ⟨_, rfl⟩
        rw [← hop] at hc0 hc1 hc2 hc3 hc4 HSN hh2 hnl
        have HD := Lib.hid hh2
        clear hh hh2 hop
        go_wp2_with fail
        refine (szOp_any nm hnl D _ a b u _ HD.out r hr0 hr1).mono ?_
        rintro e w2 ⟨r2, rfl, hs, hs1, hs2, hb2⟩
        by_cases hneg2 : r2 < 0
        · go_wp2
          go_ret
          exact ⟨-1, rfl, fun h => by omega, by omega, by omega, hbel.trans (hb2.mono hbel.size)⟩
        · have HSN2 := Lib.hid (HSN.out (hs (by omega)))
          clear hs
          go_wp2
          go_roundw
          case rel => exact ⟨k + 1, r2, by omega, by go_num, rfl, by omega, hs2, HSN2, hbel.trans (hb2.mono hbel.size)⟩
          case measure => simp [intOf]; omega
      · obtain rfl : k = n := by omega
        go_wp2
        go_ret
        exact ⟨r, rfl, fun _ => ⟨by have := HN.out; omega, fun j hj => HS.out j (by have := HN.out; omega)⟩, by omega, hr1, hbel⟩
/-- laws.szSignature -/
theorem szSignature_any (P : List (List UInt8)) (Q : List (Int × Int)) (O : List OpM) (va vb vc : Value) (w : World) (h : HasG w va vb vc P Q O) :
    Calls Tryz.prog 8 #[.agg #[va, vb, vc], .int .i64 1048576] w fun e w' => ∃ r : Int, e = .returned (.int .i64 r) ∧ (0 ≤ r → (Small P ∧ Q.length ≤ 1048576) ∧ SmO O) ∧ -1 ≤ r ∧ r ≤ 1048576 ∧ Below w.heap.size w w' := by
  have HSS := Lib.hid (fun W (hW : Below w.heap.size w W) => szSorts_any P h.s.short Q _ _ W (h.below (Nat.le_refl _) hW).s.a (h.below (Nat.le_refl _) hW).s.b)
  have HSO := Lib.hid (fun W (hW : Below w.heap.size w W) m h1 h2 => szOpS_any O vc W (h.below (Nat.le_refl _) hW).o m h1 h2)
  obtain ⟨A, ca, B, cb, C, cc, rfl, rfl, rfl, hl1, hl2, hl3, _⟩ := h.shape
  obtain ⟨n, hn⟩ : ∃ n, n = O.length := ⟨_, rfl⟩
  rw [← hn] at HSO hl3 ⊢
  clear h hn
  go_enter Tryz.func8, Tryz.ntmps8
  go_wp2_with fail
  refine (HSS.out _ ((Below.refl _ _).alloc (Nat.le_refl _) _)).mono ?_
  rintro e w1 ⟨r, rfl, hr, hr1, hr2, hb1⟩
  have hbw1 : Below w.heap.size w w1 := ((Below.refl _ _).alloc (Nat.le_refl _) _).trans (hb1.mono (by simp))
  have c2 : w1.cell? ⟨w.heap.size, 2, none⟩ = some (.slice C n cc) := by rw [hb1.cell (p := ⟨w.heap.size, 2, none⟩) (by simp)]; simp
  clear hb1
  by_cases hneg : r < 0
  · go_wp2
    go_ret
    exact ⟨-1, rfl, fun h => by omega, by omega, by omega, hbw1⟩
  · go_wp2_with fail
    refine (HSO.out _ hbw1 r (by omega) (by omega)).mono ?_
    rintro e w2 ⟨r2, rfl, hs, hs1, hs2, hb2⟩
    have hbw2 := hbw1.trans (hb2.mono hbw1.size)
    clear hb2
    by_cases hneg2 : r2 < 0
    · go_wp2
      go_ret
      exact ⟨-1, rfl, fun h => by omega, by omega, by omega, hbw2⟩
    · go_wp2
      go_ret
      exact ⟨r2, rfl, fun h => ⟨hr (by omega), hs h⟩, hs1, hs2, hbw2⟩
end Go.Proofs.YtjejdcehlckfhaaGreat.sigs
