/- what the proofs use often -/
namespace Go.Proofs.YtiilamngcoegiaaGreat
theorem o_ {p : Prop} (h : p := by omega) : p := h
theorem s_ {p : Prop} (h : p := by simp) : p := h
theorem n_ {n : Nat} : n ≤ n := Nat.le_refl n
theorem x_ (p : Prop) : ∃ b : Bool, b = true ↔ p := by
  by_cases h : p
  · exact ⟨true, fun _ => h, fun _ => rfl⟩
  · exact ⟨false, fun e => absurd e (by simp), fun e => absurd e h⟩
theorem q_ {α : Type _} {a : Array α} {i : Nat} {x : α} (h : a[i]? = some x) : i < a.size := (Array.getElem?_eq_some_iff.1 h).1
theorem w_ {a b c : Nat} (h : a < b) (k : b ≤ c) : a < c := Nat.lt_of_lt_of_le h k
theorem y_ {n : Nat} : 0 ≤ n := Nat.zero_le n
theorem d_ {p : Prop} [Decidable p] (h : p := by omega) : decide p = true := decide_eq_true h
theorem f_ {p : Prop} [Decidable p] (h : ¬ p := by omega) : decide p = false := decide_eq_false h
theorem e_ {α : Sort _} (a : α) : ∃ x, x = a := ⟨a, rfl⟩
theorem Aa_{p:Prop}(h:p:=by unfold maxLen;omega):p:=h
theorem Ab_{p:Prop}(h:p:=by first|(simp;done)|(simp;omega)):p:=h
theorem Ac_{p:Prop}(h:p:=by have:=HN.out;omega):p:=h
theorem Ad_{p:Prop}(h:p:=by with_reducible assumption):p:=h
theorem Af_{p:Prop}(h:p:=by have:=HM.out;omega):p:=h
theorem Am_{p:Prop}(h:p:=by show g'<_;omega):p:=h
theorem An_{p:Prop}(h:p:=by have:=aa.size;simp;omega):p:=h
theorem Ao_{p:Prop}(h:p:=by rw [qag];omega):p:=h
theorem Ap_{p:Prop}(h:p:=by first|exact aa.size|(have:=aa.size;simp;omega)):p:=h
theorem Ba_{p:Prop}(h:p:=by rw [HZ.out];omega):p:=h
theorem Bb_{p:Prop}(h:p:=by first|rfl|trivial):p:=h
theorem Bc_{p:Prop}(h:p:=by have:=HP.out;omega):p:=h
theorem Bd_{p:Prop}(h:p:=by intro e;have:=hown.1;rw [e] at this;simp at this;omega):p:=h
theorem Be_{p:Prop}(h:p:=by intro k hk;cases hk):p:=h
theorem Bg_{p:Prop}(h:p:=by simpa using h):p:=h
end Go.Proofs.YtiilamngcoegiaaGreat
