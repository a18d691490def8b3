/- parts -/
import Derived.Test.YtiilamngcoegiaaGreatQZk
import Derived.Test.YtiilamngcoegiaaGreatQPk04
import Derived.SliceStrings
import Derived.OpenShut
import Derived.Deep.Slices
import Derived.Lib.SmallJoins
import Derived.ChangeArms
namespace Go.Proofs.YtiilamngcoegiaaGreat
open Go.ChangeShapes Go.WideShapes Go.ChangeAt Go.RowKit
variable {v:Value}{n base:Nat}{H:Type}{W:World}
set_option maxRecDepth 100000
namespace sorto
open Go.Joins Go.ChangeShapes Go.WideShapes Go.ChangeAt Go.RowKit Go.Deep
open mem split subs
theorem qds{x:Int}(h:(Lit.int .i64 x).wf=true):-9223372036854775808≤x∧x≤9223372036854775807:=by
 simp only [Lit.wf,Bool.and_eq_true,decide_eq_true_eq] at h;exact h
theorem qtr{enc:TypeId×Value→H}{y:DataW H×List MemPlace}(hf:DataW.trod enc Tryz.prog W base (fun _=>true) true n 22 [v]=some y):
  ∃ P:List (List UInt8),Has W v (ssv P)∧∀ k,k<P.length→(P.getD k []).length≤maxLen:=by
 rcases open_strings Tryz.underlying22 Tryz.underlying9 k_ hf with ⟨hcs,hx⟩|⟨a,len,cap,ss,hcs,_,hl,hm,hz,hx,hcell,hsz⟩
 ·simp at hcs
  subst hcs;exact ⟨[],⟨none,0,rfl,Nat.le_refl _,by unfold maxLen;omega,fun j u hu=>by simp [ssv] at hu⟩,fun k hk=>by simp at hk⟩
 ·simp at hcs
  subst hcs;simp only [if_true] at hz;have hlen:((ss.take len).map (·.data.toList)).length=len:=by simp;omega
  refine ⟨(ss.take len).map (·.data.toList),⟨some a,cap,by rw [qba,hlen],by rw [qba,hlen];exact hl,hm,fun j u hu=>?_⟩,fun k hk=>?_⟩
  ·have hj:j<len:=by have:=(List.getElem?_eq_some_iff.1 hu).1;rw [qba,hlen] at this;exact this
   have aa:=hcell 0 o_;have ab:=hcell j o_;obtain ⟨b,o,sp⟩:=a;have ac:sp=none:=by simpa [Addr.add] using World.cell?_spot aa
   subst ac;have ad:u=.string (ss.getD j ByteArray.empty):=by
    simp only [ssv,List.map_map,List.getElem?_map,List.getElem?_take,if_pos hj,List.getElem?_eq_getElem (show j<ss.length by omega)] at hu;simp only [Option.map_some,Option.some.injEq,Function.comp] at hu;rw [← hu,qbk];simp [List.getD,List.getElem?_eq_getElem (show j<ss.length by omega)]
   subst ad;refine ⟨b,o,rfl,World.block_lt_of_cell? W _ aa,?_⟩;rw [Addr.add_lit] at ab;exact ab
  ·rw [hlen] at hk
   have h1:k<ss.length:=o_;have:((ss.take len).map (·.data.toList)).getD k []=ss[k].data.toList:=by
    simp [List.getD,hk,List.getElem?_eq_getElem h1]
   rw [this];exact hsz _ (List.getElem_mem h1)
theorem qA4{enc:TypeId×Value→H}{y:DataW H×List MemPlace}(hf:DataW.trod enc Tryz.prog W base (fun _=>true) true n 23 [v]=some y):
  ∃ Q:List (Int×Int),HasP W v Q∧In64 Q:=by
 rcases open_slice Tryz.underlying23 hf with ⟨hcs,hx⟩|⟨a,len,cap,m,k,D,Pl,hcs,hb,hl,hm,hmm,hx,hi⟩
 ·simp at hcs
  subst hcs;exact ⟨[],⟨none,0,rfl,Nat.le_refl _,by unfold maxLen;omega,fun j hj=>by simp at hj⟩,fun p hp=>by simp at hp⟩
 ·simp at hcs
  subst hcs;simp only [if_true] at hmm;subst hmm;have hC:Tryz.prog.cellsOf 203=2:=by kernel_rfl
  have ah:Tryz.prog.cellsOf 3=1:=by kernel_rfl
  have ad:∀ j,j<len→∃ p:Int×Int,W.cell? (a.add (j*2))=some (.int .i64 p.1)∧W.cell? ((a.add (j*2)).add 1)=some (.int .i64 p.2)∧
    (-9223372036854775808≤p.1∧p.1≤9223372036854775807)∧(-9223372036854775808≤p.2∧p.2≤9223372036854775807):=by
   intro j hj;obtain ⟨ae,hc,ai⟩:=hi j o_;rw [hC] at hc;obtain ⟨y0,y1,n',hy,hlen,h0,h1⟩:=trod_struct2 Tryz.underlying203 ai;obtain ⟨_,aj,af⟩:=World.cells?_some hc;have ag:=af 0 o_;have ak:=af 1 o_;obtain ⟨c0,c1,rfl⟩:∃ c0 c1,ae=[c0,c1]:=by
    match ae,aj with
    | [c0,c1],_=>exact ⟨c0,c1,rfl⟩
   rw [ah] at h0 h1;simp only [List.drop_zero,List.take_succ_cons,List.take_zero,List.drop_succ_cons] at h0 h1;obtain ⟨x0,e0,_,w0⟩:=DataW.trod_int Tryz.underlying3 h0;obtain ⟨x1,e1,_,w1⟩:=DataW.trod_int Tryz.underlying3 h1;simp only [List.cons.injEq,and_true] at e0 e1;subst e0 e1;have b0:=qds w0;have b1:=qds w1;refine ⟨(x0,x1),?_,?_,b0,b1⟩
   ·have:(a.add (j*2)).add 0=a.add (j*2):=by simp [Addr.add]
    rw [this] at ag;simpa using ag
   ·simpa using ak
  let f:Nat→Int×Int:=fun j=>if h:j<len then Classical.choose (ad j h) else (0,0)
  have ab:∀ j,j<len→W.cell? (a.add (j*2))=some (.int .i64 (f j).1)∧W.cell? ((a.add (j*2)).add 1)=some (.int .i64 (f j).2)∧
    (-9223372036854775808≤(f j).1∧(f j).1≤9223372036854775807)∧(-9223372036854775808≤(f j).2∧(f j).2≤9223372036854775807):=by
   intro j hj;have:=Classical.choose_spec (ad j hj);simpa only [f,dif_pos hj] using this
  have aa:∀ j,j<len→((List.range len).map f).getD j (0,0)=f j:=by
   intro j hj;simp [List.getD,hj]
  refine ⟨(List.range len).map f,⟨some a,m,by simp,by simpa using hl,hm,fun j hj=>?_⟩,fun p hp=>?_⟩
  ·have ac:j<len:=by simpa using hj
   obtain ⟨k0,k1,_⟩:=ab j ac;obtain ⟨b,o,sp⟩:=a;have al:sp=none:=by
    have:=World.cell?_spot (ab 0 o_).1;simpa [Addr.add] using this
   subst al;rw [Addr.add_lit] at k0 k1;rw [Addr.add_lit] at k1;refine ⟨b,o,rfl,World.block_lt_of_cell? W _ k0,?_,?_⟩
   ·rw [aa j ac];exact k0
   ·rw [aa j ac];exact k1
  ·obtain ⟨j,hj,rfl⟩:=List.mem_map.1 hp
   exact (ab j (by simpa using hj)).2.2
end sorto

set_option maxRecDepth 100000
namespace sigo
open Go.Joins Go.ChangeShapes Go.WideShapes Go.ChangeAt Go.RowKit Go.Deep
open mem subs setm sorti sorto rowl sigm sigs
section
variable {H:Type} {enc:TypeId×Value→H} {W:World} {base:Nat}
theorem qD1{t:TypeId}{f0 f1 f2 f3 f4:Field}{ab:Nat}{cs:List Value}{x:DataW H×List MemPlace}{sp:Nat→Bool}{aa:Bool}(ht:Tryz.prog.underlying t=some (.struct #[f0,f1,f2,f3,f4]))(h:DataW.trod enc Tryz.prog W base sp aa ab t cs=some x):
  ∃ (y0 y1 y2 y3 y4:DataW H×List MemPlace) (n:Nat),cs.length=Tryz.prog.cellsOf t∧DataW.trod enc Tryz.prog W base sp aa n f0.type ((cs.drop f0.offset).take (Tryz.prog.cellsOf f0.type))=some y0∧
   DataW.trod enc Tryz.prog W base sp aa n f1.type ((cs.drop f1.offset).take (Tryz.prog.cellsOf f1.type))=some y1∧DataW.trod enc Tryz.prog W base sp aa n f2.type ((cs.drop f2.offset).take (Tryz.prog.cellsOf f2.type))=some y2∧
   DataW.trod enc Tryz.prog W base sp aa n f3.type ((cs.drop f3.offset).take (Tryz.prog.cellsOf f3.type))=some y3∧DataW.trod enc Tryz.prog W base sp aa n f4.type ((cs.drop f4.offset).take (Tryz.prog.cellsOf f4.type))=some y4:=by
 obtain ⟨xs,n,_,rfl,hl,hlen,hf⟩:=DataW.trod_struct ht h;match xs,hlen with
 | [y0,y1,y2,y3,y4],_=>exact ⟨y0,y1,y2,y3,y4,n,hl,by simpa using hf 0 f0 rfl,by simpa using hf 1 f1 rfl,by simpa using hf 2 f2 rfl,by simpa using hf 3 f3 rfl,by simpa using hf 4 f4 rfl⟩
theorem qhn{α:Type}[Inhabited α]{R:qhq α}{k:Nat}(hk:0<k){a:Addr}{len m:Nat}(hl:len≤m)(hm:m≤maxLen)(h:∀ j,j<len→∃ (x:α) (cs:List Value),(∀ i,i<k→W.cell? ((a.add (j*k)).add i)=some (cs.getD i undef))∧R 0 W cs x):
  ∃ L:List α,HasR R k 0 W (.slice (some a) len m) L:=by
 let f:Nat→α:=fun j=>if h':j<len then Classical.choose (h j h') else default
 have hf:∀ j,j<len→∃ cs:List Value,(∀ i,i<k→W.cell? ((a.add (j*k)).add i)=some (cs.getD i undef))∧R 0 W cs (f j):=by
  intro j hj;have:=Classical.choose_spec (h j hj);simpa only [f,dif_pos hj] using this
 refine ⟨(List.range len).map f,some a,m,by simp,by simpa using hl,hm,fun j hj=>?_⟩;have ab:j<len:=by simpa using hj
 obtain ⟨cs,h1,h2⟩:=hf j ab;have aa:((List.range len).map f).getD j default=f j:=by simp [List.getD,ab]
 obtain ⟨ag,ad,_⟩:=hf 0 o_;have ae:=ad 0 hk;obtain ⟨b,o,sp⟩:=a;have af:sp=none:=by simpa [Addr.add] using World.cell?_spot ae
 subst af;have ac:∀ i,i<k→W.cell? ⟨b,o+j*k+i,none⟩=some (cs.getD i undef):=by
  intro i hi;have:=h1 i hi;rw [Addr.add_lit,Addr.add_lit] at this;exact this
 exact ⟨b,o,cs,rfl,y_,World.block_lt_of_cell? W _ (ac 0 hk),ac,by rw [aa];exact h2⟩
theorem qC2{y:DataW H×List MemPlace}(hf:DataW.trod enc Tryz.prog W base (fun _=>true) true n 60 [v]=some y):
  ∃ L:List Int,HasL 0 W v (ivs L)∧∀ x∈L,I64 x:=by
 rcases open_ints Tryz.underlying60 Tryz.underlying3 k_ hf with ⟨hcs,hx⟩|⟨a,len,cap,zs,hcs,_,hl,hm,hz,hx,hcell,hwz⟩
 ·simp at hcs
  subst hcs;exact ⟨[],⟨none,0,rfl,Nat.le_refl _,by unfold maxLen;omega,fun j u hu=>by simp [ivs] at hu⟩,fun x hx=>by simp at hx⟩
 ·simp at hcs
  subst hcs;simp only [if_true] at hz;have hlen:(zs.take len).length=len:=by simp;omega
  refine ⟨zs.take len,⟨some a,cap,by rw [qau,hlen],by rw [qau,hlen];exact hl,hm,fun j u hu=>?_⟩,fun x hx=>qds (hwz x (List.mem_of_mem_take hx))⟩;have hj:j<len:=by have:=(List.getElem?_eq_some_iff.1 hu).1;rw [qau,hlen] at this;exact this
  have aa:=hcell 0 o_;have ab:=hcell j o_;obtain ⟨b,o,sp⟩:=a;have ac:sp=none:=by simpa [Addr.add] using World.cell?_spot aa
  subst ac;have ad:u=.int .i64 (zs.getD j 0):=by
   simp only [ivs,List.getElem?_map,List.getElem?_take,if_pos hj,List.getElem?_eq_getElem (show j<zs.length by omega)] at hu;simp only [Option.map_some,Option.some.injEq] at hu;rw [← hu];simp [List.getD,List.getElem?_eq_getElem (show j<zs.length by omega)]
  subst ad;refine ⟨b,o,rfl,y_,World.block_lt_of_cell? W _ aa,?_⟩;rw [Addr.add_lit] at ab;exact ab
theorem c114_{p:Prop}(h:p:=by
 simp at hcs;subst hcs;exact ⟨[],HasR.nil _ _ _ Aa_ _⟩
):p:=h
theorem qA5{y:DataW H×List MemPlace}(hf:DataW.trod enc Tryz.prog W base (fun _=>true) true n 131 [v]=some y):
  ∃ D:List (List Int×Int),HasD 0 W v D:=by
 rcases open_slice Tryz.underlying131 hf with ⟨hcs,hx⟩|⟨a,len,cap,m,k,E,Pl,hcs,hb,hl,hm,hmm,hx,hi⟩
 ·exact c114_
 ·simp at hcs
  subst hcs;simp only [if_true] at hmm;subst hmm;have hC:Tryz.prog.cellsOf 233=2:=by kernel_rfl
  have ad:Tryz.prog.cellsOf 3=1:=by kernel_rfl
  have ae:Tryz.prog.cellsOf 60=1:=by kernel_rfl
  refine qhn o_ hl hm (fun j hj=>?_);obtain ⟨ab,hc,af⟩:=hi j o_;rw [hC] at hc;obtain ⟨y0,y1,n',hy,hlen,h0,h1⟩:=trod_struct2 Tryz.underlying233 af;obtain ⟨_,ag,ac⟩:=World.cells?_some hc;have ah:=ac 0 o_;have ai:=ac 1 o_;obtain ⟨c0,c1,rfl⟩:∃ c0 c1,ab=[c0,c1]:=by
   match ab,ag with
   | [c0,c1],_=>exact ⟨c0,c1,rfl⟩
  rw [ae] at h0;rw [ad] at h1;simp only [List.drop_zero,List.take_succ_cons,List.take_zero,List.drop_succ_cons] at h0 h1;obtain ⟨L,hL,aa⟩:=qC2 h0;obtain ⟨x1,e1,_,w1⟩:=DataW.trod_int Tryz.underlying3 h1;simp only [List.cons.injEq,and_true] at e1;subst e1;refine ⟨(L,x1),[c0,.int .i64 x1],fun i hi=>?_,c0,rfl,hL,qds w1,aa⟩;match i,hi with
  | 0,_=>rw [ah];rfl
  | 1,_=>rw [ai];rfl
theorem qCs{y:DataW H×List MemPlace}(hf:DataW.trod enc Tryz.prog W base (fun _=>true) true n 26 [v]=some y):
  ∃ O:List OpM,HasO 0 W v O:=by
 rcases open_slice Tryz.underlying26 hf with ⟨hcs,hx⟩|⟨a,len,cap,m,k,E,Pl,hcs,hb,hl,hm,hmm,hx,hi⟩
 ·exact c114_
 ·simp at hcs
  subst hcs;simp only [if_true] at hmm;subst hmm;have hC:Tryz.prog.cellsOf 133=5:=by kernel_rfl
  have ac:Tryz.prog.cellsOf 3=1:=by kernel_rfl
  have ad:Tryz.prog.cellsOf 9=1:=by kernel_rfl
  have ae:Tryz.prog.cellsOf 4=1:=by kernel_rfl
  have af:Tryz.prog.cellsOf 131=1:=by kernel_rfl
  refine qhn o_ hl hm (fun j hj=>?_);obtain ⟨ab,hc,ag⟩:=hi j o_;rw [hC] at hc;obtain ⟨y0,y1,y2,y3,y4,n',hlen,h0,h1,h2,h3,h4⟩:=qD1 Tryz.underlying133 ag;obtain ⟨_,ah,aa⟩:=World.cells?_some hc;have ai:=aa 0 o_;have aj:=aa 1 o_;have ak:=aa 2 o_;have al:=aa 3 o_;have am:=aa 4 o_;obtain ⟨c0,c1,c2,c3,c4,rfl⟩:∃ c0 c1 c2 c3 c4,ab=[c0,c1,c2,c3,c4]:=by
   match ab,ah with
   | [c0,c1,c2,c3,c4],_=>exact ⟨c0,c1,c2,c3,c4,rfl⟩
  rw [ad] at h0;rw [af] at h1;rw [ae] at h2 h3;rw [ac] at h4;simp only [List.drop_zero,List.take_succ_cons,List.take_zero,List.drop_succ_cons] at h0 h1 h2 h3 h4;obtain ⟨s,e0,_,hs⟩:=DataW.trod_string Tryz.underlying9 h0;obtain ⟨D,hD⟩:=qA5 h1;obtain ⟨p,e2,_⟩:=DataW.trod_bool Tryz.underlying4 h2;obtain ⟨q,e3,_⟩:=DataW.trod_bool Tryz.underlying4 h3;obtain ⟨x4,e4,_,w4⟩:=DataW.trod_int Tryz.underlying3 h4;simp only [List.cons.injEq,and_true] at e0 e2 e3 e4;subst e0 e2 e3 e4;refine ⟨⟨s.data.toList,D,p,q,x4⟩,[.string s,c1,.bool p,.bool q,.int .i64 x4],fun i hi=>?_,c1,by rw [qbk],hD,by rw [← qbj,qbk];exact hs,qds w4⟩;match i,hi with
  | 0,_=>rw [ai];rfl
  | 1,_=>rw [aj];rfl
  | 2,_=>rw [ak];rfl
  | 3,_=>rw [al];rfl
  | 4,_=>rw [am];rfl
end
theorem qC3{enc:TypeId×Value→H}{d:DataW H}{p:List MemPlace}(aa:Value.okWide Tryz.prog W .any base 28 v)(hd:DataW.Trod enc Tryz.prog W 0 (fun _=>true) true 28 v d p):
  ∃ va vb vc P Q O,v=.agg #[va,vb,vc]∧HasG W va vb vc P Q O:=by
 have hC:Tryz.prog.cellsOf 28=3:=by kernel_rfl
 have ac:Tryz.prog.cellsOf 25=2:=by kernel_rfl
 have ad:Tryz.prog.cellsOf 26=1:=by kernel_rfl
 have ae:Tryz.prog.cellsOf 22=1:=by kernel_rfl
 have af:Tryz.prog.cellsOf 23=1:=by kernel_rfl
 obtain ⟨cs,rfl,hsz⟩:=okWide_struct Tryz.underlying28 aa;obtain ⟨c0,c1,c2,rfl⟩:=array3 (hsz.trans hC);obtain ⟨ag,hf⟩:=hd;obtain ⟨y0,y1,n,hx,_,h0,h1⟩:=trod_struct2 Tryz.underlying28 hf;rw [ac] at h0;rw [ad] at h1;simp only [Value.cells,List.drop_zero,List.take_succ_cons,List.take_zero,List.drop_succ_cons] at h0 h1;obtain ⟨z0,z1,n',ai,_,g0,g1⟩:=trod_struct2 Tryz.underlying25 h0;rw [ae] at g0;rw [af] at g1;simp only [List.drop_zero,List.take_succ_cons,List.take_zero,List.drop_succ_cons] at g0 g1;obtain ⟨P,hP,ah⟩:=qtr g0;obtain ⟨Q,hQ,ab⟩:=qA4 g1;obtain ⟨O,hO⟩:=qCs h1;exact ⟨c0,c1,c2,P,Q,O,rfl,⟨hP,hQ,ah,ab⟩,hO⟩
end sigo
end Go.Proofs.YtiilamngcoegiaaGreat
