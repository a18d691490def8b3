
import Derived.Test.YtiilamngcoegiaaGreatQPk01
import Derived.OpenShut
namespace Go.Proofs.YtiilamngcoegiaaGreat.law
open Go.ChangeShapes Go.WideShapes Go.ChangeAt Go.RowKit
variable {W W':World}
section
variable {H:Type} {enc:TypeId×Value→H} {P:Program}
theorem qts (hl:laidOutB P=true)(hb:Below W.heap.size W W'):
  ∀ (ts:List TypeId) (vs:List Value) (ds:List (DataW H)) (ps:List MemPlace),(ts.all fun t=>P.readableRec t&&decide (t<P.types.size))=true→
   DataW.TrodAll enc P W 0 (fun _=>true) true ts vs ds ps→(∀ x∈ps,x.block<W.heap.size)→DataW.TrodAll enc P W' 0 (fun b=>decide (b<W.heap.size)) true ts vs ds ps:=by
 intro ts;induction ts with
 | nil=>
  intro vs ds ps _ h _;obtain ⟨rfl,rfl,rfl⟩:=trodAll_nil h;exact trodAll_mk0
 | cons t ts ih=>
  intro vs ds ps hr h aa;simp only [List.all_cons,Bool.and_eq_true,decide_eq_true_eq] at hr;obtain ⟨v,ab,d,ds',p,q,rfl,rfl,rfl,h1,h2⟩:=trodAll_cons h;exact trodAll_cons_mk (Below.trod hl hr.1.1 hr.1.2 h1 hb fun x hx=>aa x (List.mem_append.2 (.inl hx))) (ih _ _ _ hr.2 h2 fun x hx=>aa x (List.mem_append.2 (.inr hx)))
theorem qAd{f:Func}{s:ChangeSpec}{args:Array Value}{ds gs:List (DataW H)}{aa:List MemPlace}{tb:TypeId}(hl:laidOutB P=true)(hr:(f.params.toList.all fun t=>P.readableRec t&&decide (t<P.types.size))=true)(hW:DataW.Whole enc P f.params.toList s.vars false W args.toList ds gs aa)(hv:s.vars=[])(hs:s.fn H ds={ results:=[.lit (.bool true)],args:=ds })(ht:f.resultTypes.toList=[tb])(hsz:f.resultTypes.size=1)(hb:P.underlying tb=some .bool)(ab:Below W.heap.size W W'):
  s.post enc P f false true false false W args (.bool true) W':=by
 have ac:=hW;obtain ⟨p,q,hA,hV,rfl,_,_⟩:=hW;rw [hv] at hV;obtain ⟨rfl,rfl⟩:=trodVars_none hV;have ad:∀ x∈p,x.block<W.heap.size:=fun x hx=>ac.lt x (by simpa using hx)
 refine ⟨ds,[],p++[],[],p,[],ac,?_,?_,?_,?_,fun h=>by cases h⟩
 ·rw [List.append_nil,hs,ht,hsz]
  exact trodAll_mk1 (shut_bool hb true)
 ·rw [List.append_nil,hs]
  exact qts hl ab _ _ _ _ hr hA ad
 ·rw [List.append_nil,hs,hv]
  exact rfl
 ·exact ab.frame _
end
end Go.Proofs.YtiilamngcoegiaaGreat.law
