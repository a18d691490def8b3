/-
 FnExactIsMatch: for every input the call returns true and leaves its arguments as they were. No conditions.
-/
import Derived.Test.YtiilamngcoegiaaGreatQLaw
import Derived.Test.YtiilamngcoegiaaGreatQPk20
namespace Go.Proofs.YtiilamngcoegiaaGreat.fnExactIsMatch
open Go.ChangeShapes Go.WideShapes Go.ChangeAt Go.RowKit
set_option linter.unusedVariables false
theorem own:ownKnob Tryz.prog.godebug=none:=by kernel_rfl
set_option maxRecDepth 100000 in
theorem qCt (os:Os)(ab:os.Started)(H:Type)(enc:TypeId×Value→H):
  ReturnsInHanded {} Tryz.checked os 4 .any (Rows.fnExactIsMatchSpec.pre6 enc Tryz.prog Tryz.f4 Rows.fnExactIsMatchRow.domain false) (Rows.fnExactIsMatchSpec.post enc Tryz.prog Tryz.f4 false true false false):=by
 refine returnsInHanded_of_change (C:=Tryz.checked) own ab k_ Tryz.func4
  (ChangeSpec.witness6 (enc:=enc) (C:=Tryz.checked) false ⟨#[],#[.agg #[.slice none 0 0,.slice none 0 0,.slice none 0 0],.agg #[.int .i64 0,.string .empty,.int .i64 0,.slice none 0 0],.agg #[.int .i64 0,.string .empty,.int .i64 0,.slice none 0 0],.slice none 0 0],[]⟩ 8 k_ k_ k_ k_) ?_
 intro W base args ds gs ae ac hW ai _;have aa:∀ (j:Nat) t v,Tryz.f4.params[j]? =some t→args[j]? =some v→Value.okWide Tryz.prog W .any base t v:=ac;have af:=hW;obtain ⟨p,q,ag,hV,rfl,aj,ak⟩:=hW;have hA:DataW.TrodAll enc Tryz.prog W 0 (fun _=>true) true Tryz.f4.params.toList args.toList ds p:=ag;have ad:∀ x∈p,x.block<W.heap.size:=fun x hx=>af.lt x (List.mem_append.2 (.inl hx))
 rw [Tryz.params4] at hA aa;obtain ⟨v0,al,d0,am,p0,q0,ah,rfl,rfl,h0,r0⟩:=trodAll_cons hA;obtain ⟨v1,an,d1,ao,p1,q1,rfl,rfl,rfl,h1,r1⟩:=trodAll_cons r0;obtain ⟨v2,ap,d2,aq,p2,q2,rfl,rfl,rfl,h2,r2⟩:=trodAll_cons r1;obtain ⟨v3,au,d3,av,p3,q3,rfl,rfl,rfl,h3,r3⟩:=trodAll_cons r2;obtain ⟨rfl,rfl,rfl⟩:=trodAll_nil r3;obtain rfl:args=#[v0,v1,v2,v3]:=by cases args;simp_all
 clear ag ac;refine (walk (aa 0 28 v0 rfl rfl) h0 (fun x hx=>ad x (by simp [hx])) (aa 1 32 v1 rfl rfl) h1 (fun x hx=>ad x (by simp [hx])) (aa 2 32 v2 rfl rfl) h2 (fun x hx=>ad x (by simp [hx])) (aa 3 29 v3 rfl rfl) h3 (fun x hx=>ad x (by simp [hx]))).mono fun e W' ⟨he,hb⟩=>?_
 exact ⟨_,he,law.qAd k_ k_ af rfl rfl (tb:=4) k_ k_ Tryz.underlying4 hb⟩
theorem holds:Rows.FnExactIsMatchSaid:=
 OpenClaim.holds_of_wide 4 Tryz.f4 rfl rfl rfl rfl rfl rfl rfl ⟨rfl,rfl,rfl,rfl,rfl⟩ rfl rfl rfl rfl rfl k_ Tryz.func4 k_
  (of_decide_eq_true k_) (by unfold Func.isWrapper;first|(rw [if_pos (by decide +kernel)];kernel_rfl)|(rw [if_neg (by decide +kernel)];exact ⟨rfl,rfl⟩))
  (fun os aa H enc _=>qCt os aa H enc)
#print axioms holds
end Go.Proofs.YtiilamngcoegiaaGreat.fnExactIsMatch
