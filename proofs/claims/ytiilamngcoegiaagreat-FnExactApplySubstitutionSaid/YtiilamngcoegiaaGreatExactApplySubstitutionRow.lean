/-
 FnExactApplySubstitution: for every input the call returns true and leaves its arguments as they were. No conditions.
-/
import Derived.Test.YtiilamngcoegiaaGreatLaw
import Derived.Test.YtiilamngcoegiaaGreatApw
namespace Go.Proofs.YtiilamngcoegiaaGreat.fnExactApplySubstitution
open Go.ChangeShapes Go.WideShapes Go.ChangeAt Go.RowKit
set_option linter.unusedVariables false
theorem own:ownKnob Tryz.prog.godebug=none:=by kernel_rfl
set_option maxRecDepth 100000 in
theorem qCo (os:Os)(aa:os.Started)(H:Type)(enc:TypeId×Value→H):
  ReturnsInHanded {} Tryz.checked os 3 .any (Rows.fnExactApplySubstitutionSpec.pre6 enc Tryz.prog Tryz.f3 Rows.fnExactApplySubstitutionRow.domain false) (Rows.fnExactApplySubstitutionSpec.post enc Tryz.prog Tryz.f3 false true false false):=by
 refine returnsInHanded_of_change (C:=Tryz.checked) own aa k_ Tryz.func3
  (ChangeSpec.witness6 (enc:=enc) (C:=Tryz.checked) false ⟨#[],#[.agg #[.slice none 0 0,.slice none 0 0,.slice none 0 0],.slice none 0 0,.agg #[.int .i64 0,.string .empty,.int .i64 0,.slice none 0 0]],[]⟩ 8 k_ k_ k_ k_) ?_
 intro W base args ds gs ad ac hW ah _;have ab:∀ (j:Nat) t v,Tryz.f3.params[j]? =some t→args[j]? =some v→Value.okWide Tryz.prog W .any base t v:=ac;have ae:=hW;obtain ⟨p,q,af,hV,rfl,ai,aj⟩:=hW;have hA:DataW.TrodAll enc Tryz.prog W 0 (fun _=>true) true Tryz.f3.params.toList args.toList ds p:=af;have hlt:∀ x∈p,x.block<W.heap.size:=fun x hx=>ae.lt x (List.mem_append.2 (.inl hx))
 rw [Tryz.params3] at hA ab;obtain ⟨v0,ak,d0,al,p0,q0,ag,rfl,rfl,h0,r0⟩:=trodAll_cons hA;obtain ⟨v1,am,d1,an,p1,q1,rfl,rfl,rfl,h1,r1⟩:=trodAll_cons r0;obtain ⟨v2,ao,d2,ap,p2,q2,rfl,rfl,rfl,h2,r2⟩:=trodAll_cons r1;obtain ⟨rfl,rfl,rfl⟩:=trodAll_nil r2;obtain rfl:args=#[v0,v1,v2]:=by cases args;simp_all
 clear af ac;refine (walk (ab 0 28 v0 rfl rfl) h0 (fun x hx=>hlt x (by simp [hx])) (ab 1 29 v1 rfl rfl) h1 (fun x hx=>hlt x (by simp [hx])) (ab 2 32 v2 rfl rfl) h2 (fun x hx=>hlt x (by simp [hx]))).mono fun e W' ⟨he,hb⟩=>?_
 exact ⟨_,he,law.qA4 k_ k_ ae rfl rfl (tb:=4) k_ k_ Tryz.underlying4 hb⟩
theorem holds:Rows.FnExactApplySubstitutionSaid:=
 OpenClaim.holds_of_wide 3 Tryz.f3 rfl rfl rfl rfl rfl rfl rfl ⟨rfl,rfl,rfl,rfl,rfl⟩ rfl rfl rfl rfl rfl k_ Tryz.func3 k_
  (of_decide_eq_true k_) (by unfold Func.isWrapper;first|(rw [if_pos (by decide +kernel)];kernel_rfl)|(rw [if_neg (by decide +kernel)];exact ⟨rfl,rfl⟩))
  (fun os aa H enc _=>qCo os aa H enc)
#print axioms holds
end Go.Proofs.YtiilamngcoegiaaGreat.fnExactApplySubstitution
