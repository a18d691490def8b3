/- parts -/
import Derived.Test.YtiilamngcoegiaaGreatQSapp
import Derived.Test.YtiilamngcoegiaaGreatQPk21
import Derived.Test.YtiilamngcoegiaaGreatQTermic
import Derived.BigQuiet
import Derived.Deep.LoopGhost
import Derived.Test.YtiilamngcoegiaaGreatQBndt
import Derived.Deep.DeepCutAuto
import Derived.Test.YtiilamngcoegiaaGreatQPk22
namespace Go.Proofs.YtiilamngcoegiaaGreat
open Go.ChangeShapes Go.WideShapes Go.ChangeAt Go.RowKit
variable {n lo N N':Nat}{σ:List bndl.BindM}{b:bndl.BindM}{w:World}{P:List (List UInt8)}{Q:List (Int×Int)}{O:List sigm.OpM}{v:Value}
namespace insm
open dec sorti sigm rowl trm terml termb frm gram gramk gramc gramt formnd formf formm tmm tmg tmc bndl insn sapp
theorem qtm{F F':TermM→List TermM→Option TermM}(D G:TermM→Prop)(hD:∀ t,D t→∀ a∈t.args,D a)(hF:∀ t zs u,D t→F t zs=some u→(∀ a∈zs,G a)→G u)(he:∀ t zs,D t→(∀ a∈zs,G a)→F t zs=F' t zs):∀ t,D t→rebM F t=rebM F' t∧(∀ u,rebM F t=some u→G u):=by
 refine TermM.ind (fun o n s l ih hd=>?_);have aa:∀ l:List TermM,(∀ t∈l,rebM F t=rebM F' t∧(∀ u,rebM F t=some u→G u))→rebL F l=rebL F' l∧∀ zs,rebL F l=some zs→∀ a∈zs,G a:=by
  intro l;induction l with
  | nil=>intro _;exact ⟨rfl,fun zs h a ha=>by simp [rebL] at h;subst h;simp at ha⟩
  | cons b l ab=>
   intro hl;obtain ⟨q1,q2⟩:=ab (fun t ht=>hl t (by simp [ht]));obtain ⟨p1,p2⟩:=hl b (by simp);rw [rebL,rebL,← p1,← q1];refine ⟨rfl,fun zs h a ha=>?_⟩;cases h1:rebM F b with
   | none=>rw [h1] at h;cases h
   | some x=>
    cases h2:rebL F l with
    | none=>rw [h1,h2] at h;cases h
    | some q=>
     rw [h1,h2] at h;simp at h;subst h;rcases List.mem_cons.1 ha with rfl|ha
     ·exact p2 _ h1
     ·exact q2 _ h2 _ ha
 obtain ⟨k1,k2⟩:=aa l (fun t ht=>ih t ht (hD _ hd t ht));rw [qpg,qpg,← k1];cases h:rebL F l with
 | none=>exact ⟨rfl,fun u h=>by cases h⟩
 | some zs=>exact ⟨he _ _ hd (k2 zs h),fun u hu=>hF _ _ _ hd hu (k2 zs h)⟩
section
variable {P:List (List UInt8)} {Q:List (Int×Int)} {O:List OpM}
theorem qx1{t a:TermM}(h:qca (grM P Q O) t)(ha:a∈t.args):qca (grM P Q O) a:=⟨qvp h.1 ha,((qbq _ t).1 h.2).2 a ha⟩
theorem qf4{t:TermM}(h:qca (grM P Q O) t):qay P Q O t:=((qbi t).1 h).2.2
theorem qx2 (ab:qah P Q O=true)(σ:List BindM)(t:TermM)(zs:List TermM)(ht:qca (grM P Q O) t)(hA:∀ a∈zs,qay P Q O a):instF (grM P Q O) σ t zs=appF P Q O σ t zs:=by
 unfold appF;by_cases hv:t.op=-1
 ·rw [qji hv,if_pos hv]
 ·have hn:=((qar P Q O t).1 (qf4 ht)).1
  have hr:0≤t.op∧t.op<O.length:=by
   unfold qby at hn;rw [if_neg hv] at hn;exact hn.1
  have h:=qvr ab (.mk t.op [] 0 []) zs hA;unfold qm2 qt3 at h;have aa:(TermM.mk t.op [] 0 []).op≠-1:=hv;rw [if_neg aa,if_neg aa] at h;classical
  have h1:instF (grM P Q O) σ t zs=if qdm (TermM.mk t.op [] 0 [])=true∧CanP (grM P Q O) t.op zs∧LimT (qdd (grM P Q O) t.op zs) then some (qdd (grM P Q O) t.op zs) else none:=by
   by_cases hc:CanP (grM P Q O) t.op zs∧LimT (qdd (grM P Q O) t.op zs)
   ·rw [qjj hv hc,if_pos ⟨by simp [qdm,TermM.name,TermM.sort],hc⟩]
   ·rw [qmd hv hc,if_neg (fun h=>hc h.2)]
  rw [h1,if_neg hv];refine Eq.trans h ?_;by_cases hc:CanS P Q O t.op.toNat zs∧LimT (qbs O t.op.toNat zs)
  ·rw [if_pos ⟨⟨hr,rfl,rfl⟩,hc⟩,if_pos hc]
   rfl
  ·rw [if_neg (fun h=>hc h.2),if_neg hc]
theorem qzj (aa:qah P Q O=true)(σ:List BindM)(hσ:∀ b∈σ,qca (grM P Q O) b.t)(t:TermM)(ht:qca (grM P Q O) t):rebM (instF (grM P Q O) σ) t=rebM (appF P Q O σ) t:=
 (qtm (qca (grM P Q O)) (qca (grM P Q O)) (fun _ h _ ha=>qx1 h ha) (fun _ _ _ hd h hA=>(qkr P Q O σ hσ).good hd.2 hA h) (fun t zs hd hA=>qx2 aa σ t zs hd (fun a ha=>qf4 (hA a ha))) t ht).1
end
end insm

namespace sapl
open mem dec sortp sorti sigm sigs rowl trm terml termb termt termx termro termv termin gram gramk gramn gramt grami formt formm termlc tmr tsk tmf tmg tmc tml tmn rebp bndl sapp insm isub ssub
noncomputable def AppX (P:List (List UInt8))(Q:List (Int×Int))(O:List OpM)(σ:List BindM)(t:TermM):Option TermM:=by
 classical
 exact if (qah P Q O=true∧SubP P Q O σ)∧qd3 P Q O t then rebM (appF P Q O σ) t else none
theorem qs9{t:TermM}(h:(qah P Q O=true∧SubP P Q O σ)∧qd3 P Q O t):AppX P Q O σ t=rebM (appF P Q O σ) t:=by unfold AppX;rw [if_pos h]
theorem qxa{t:TermM}(h:¬ ((qah P Q O=true∧SubP P Q O σ)∧qd3 P Q O t)):AppX P Q O σ t=none:=by unfold AppX;rw [if_neg h]
def AppA (P:List (List UInt8))(Q:List (Int×Int))(O:List OpM)(σ:List BindM)(t:TermM)(w:World)(e:Ending)(w':World):Prop:=
 ∃ u vu r,e=.returned (.tuple #[aggT u vu,.bool r])∧(r=true→AppX P Q O σ t=some u)∧(r=false→AppX P Q O σ t=none∧u=zT)∧HasTs 22 w.heap.size w' vu u.args∧Bnd u∧Below w.heap.size w w'
theorem qCr:Bnd zT:=by refine ⟨?_,⟨?_,?_⟩,?_,?_⟩<;>simp [zT,TermM.name,TermM.op,TermM.sort]
section
variable {P:List (List UInt8)} {Q:List (Int×Int)} {O:List OpM}
theorem qoh (h:SubP P Q O σ)(hb:b∈σ):qe8 P Q O b:=by
 obtain ⟨i,hi,e⟩:=List.getElem_of_mem hb;have:=(h.2 i hi).1;rw [List.getD_eq_getElem?_getD,List.getElem?_eq_getElem hi] at this;simp only [Option.getD_some] at this;rwa [e] at this
theorem qoi (h:qe8 P Q O b):b.v.args=[]:=by
 have h2:=h.2.1;simp only [varB,Bool.and_eq_true,decide_eq_true_eq] at h2;exact List.eq_nil_of_length_eq_zero h2.2
theorem qen (h:qe8 P Q O b):qca (grM P Q O) b.t:=(qbi b.t).2 h.2.2.1
theorem qzp (h:SubP P Q O σ):qBo P Q O σ:=fun _ hb=>⟨qf4 (qen (qoh h hb)),(qen (qoh h hb)).1,qoi (qoh h hb)⟩
theorem qkz (h:HasBs n lo w v σ)(hs:SubP P Q O σ):HasBs 22 lo w v σ:=by
 obtain ⟨A,c,e',h1,h2,h3⟩:=h;refine ⟨A,c,e',h1,h2,fun j hj=>?_⟩;obtain ⟨g,o,aa,e1,hl,hg,hc,va,vb,ab,k1,k2,k3,k4⟩:=h3 j hj;have hb:=(hs.2 j hj).1;have d1:=(qen hb).1.2.1;have d2:=termro.qas (σ.getD j default).t;have d3:depths (σ.getD j default).v.args≤22:=by rw [qoi hb];simp [depths]
 exact ⟨g,o,aa,e1,hl,hg,hc,va,vb,ab,(qi5 k1).up d3,(qi5 k2).up o_,k3,k4⟩
end
theorem j29_{p:Prop}(h:p:=by
 go_wp2;refine bodyPost_ret (v:=.tuple #[.agg #[.int .i64 0,.string { data:=#[] },.int .i64 0,.slice none 0 0],.bool false]) (by simp [results,Tryz.results10,go_sem,z0,z1,z2,z3]) rfl ?_;exact HZ.out _ _ _ _
):p:=h
theorem c111_{p:Prop}(h:p:=by
 clear aa y0 y1 y2 y3 y4 y5 y6;exact j29_
):p:=h
set_option maxRecDepth 50000 in
set_option maxHeartbeats 8000000 in
theorem qzq (P:List (List UInt8))(Q:List (Int×Int))(O:List OpM)(va vb vc:Value)(σ:List BindM)(lv:Value)(t:TermM)(vt:Value)(w:World)(h:HasG w va vb vc P Q O)(hl:HasBs n lo w lv σ)(aE:bsz σ≤1048576)(ht:HasTs N lo w vt t.args)(hB:Bnd t)(hsz:qa2 t.args≤1048576):
  Calls Tryz.prog 10 #[.agg #[va,vb,vc],lv,aggT t vt] w (AppA P Q O σ t w):=by
 obtain ⟨sb,ag⟩:=x_ (qah P Q O=true∧SubP P Q O σ);obtain ⟨tb,ah⟩:=x_ (qd3 P Q O t);have aw:=z_ (fun W (hW:Below w.heap.size w W)=>qCq P Q O va vb vc σ lv W (h.below n_ hW) (hl.below n_ hW) aE sb ag);have ai:=z_ (fun W (hW:Below w.heap.size w W)=>qe2 P Q O va vb vc t vt W (h.below n_ hW) (ht.below n_ hW) hB hsz tb ah)
 have aj:Hid (sb=true→tb=true→∀ W,Below w.heap.size w W→Calls Tryz.prog 38 #[.agg #[va,vb,vc],lv,aggT t vt] W (AppR P Q O σ t W W)):=z_ (fun hs ax W hW=>by
  have h1:=ag.1 hs;have h2:=ah.1 ax;have h3:=(qbi t).2 h2
  exact qx0 P Q O h1.1 σ (qzp h1.2) (by have:=h1.2.1;omega) N va vb vc lv t vt W W lo 22 n_ (qkz (HasR.mono (qcv n) (hl.below n_ hW) y_) h1.2) b_ (h.below n_ hW) (ht.below n_ hW) hB (qf4 h3) h3.1)
 have aF:Hid (sb=true→tb=true→AppX P Q O σ t=rebM (appF P Q O σ) t):=z_ (fun hs ax=>qs9 ⟨ag.1 hs,ah.1 ax⟩)
 have ay:Hid ((sb=false∨tb=false)→AppX P Q O σ t=none):=z_ (fun hh=>qxa (fun h=>by
  have h1:=ag.2 h.1;have h2:=ah.2 h.2;rcases hh with e|e
  ·rw [e] at h1;cases h1
  ·rw [e] at h2;cases h2))
 obtain ⟨ml,aG⟩:=e_ (σ.length);obtain ⟨AL,cL,rfl,_⟩:=HasR.shape hl aG.symm;obtain ⟨A1,c1,A2,c2,A3,c3,rfl,rfl,rfl,_⟩:=h.shape;obtain ⟨B,cb,rfl,_⟩:=HasR.shape ht rfl;obtain ⟨m1,aH⟩:=e_ (P.length);obtain ⟨m2,aI⟩:=e_ (Q.length);obtain ⟨m3,aJ⟩:=e_ (O.length);rw [← aH,← aI,← aJ] at aw ai aj ⊢;unfold aggT at ai aj ⊢;obtain ⟨o1,aK⟩:=e_ (t.op);obtain ⟨n1,aL⟩:=e_ (t.name);obtain ⟨s1,aM⟩:=e_ (t.sort);obtain ⟨l1,aN⟩:=e_ (t.args.length);rw [← aK,← aL,← aM,← aN] at ai aj ⊢;clear h ht hB hsz aH aI aJ aK aL aM aN ag ah hl aE aG;obtain ⟨W0,ad⟩:=e_ ((w.alloc (.cells #[.slice A1 m1 c1,.slice A2 m2 c2,.slice A3 m3 c3] 46)).alloc (.cells #[.int .i64 o1,.string (bstr n1),.int .i64 s1,.slice B l1 cb] 38));obtain ⟨W,hW⟩:=e_ (W0.alloc (.cells #[.int .i64 0,.string { data:=#[] },.int .i64 0,.slice none 0 0] 38));have aO:W0.heap.size=w.heap.size+2:=by rw [ad];simp
 have a8:W.heap.size=w.heap.size+3:=by rw [hW];simp [aO]
 have ab:=fr1_ hW;have aq:Below w.heap.size w W:=by
  rw [hW,ad];exact v_
 have aP:W.heap[w.heap.size]? =some (.cells #[.slice A1 m1 c1,.slice A2 m2 c2,.slice A3 m3 c3] 46 (0,0)):=(ab.block _ o_).trans (by rw [ad];exact tsl.qbd _ _ _);have aQ:W.heap[w.heap.size+1]? =some (.cells #[.int .i64 o1,.string (bstr n1),.int .i64 s1,.slice B l1 cb] 38 (0,0)):=(ab.block _ o_).trans (by rw [ad];exact termt.qa5 _ _ _ (by simp));have aR:W.heap[w.heap.size+2]? =some (.cells #[.int .i64 0,.string { data:=#[] },.int .i64 0,.slice none 0 0] 38 (0,0)):=by rw [hW];exact termt.qa5 _ _ _ o_
 have aS:=z_ aq
 have ae:Hid (∀ w3,Below W.heap.size W w3→w.heap.size+3≤w3.heap.size∧Below w.heap.size w w3∧(w3.cell? ⟨w.heap.size,0,none⟩=some (.slice A1 m1 c1)∧w3.cell? ⟨w.heap.size,1,none⟩=some (.slice A2 m2 c2)∧w3.cell? ⟨w.heap.size,2,none⟩=some (.slice A3 m3 c3))∧(w3.cell? ⟨w.heap.size+1,0,none⟩=some (.int .i64 o1)∧w3.cell? ⟨w.heap.size+1,1,none⟩=some (.string (bstr n1))∧w3.cell? ⟨w.heap.size+1,2,none⟩=some (.int .i64 s1)∧w3.cell? ⟨w.heap.size+1,3,none⟩=some (.slice B l1 cb))∧
   (w3.cell? ⟨w.heap.size+2,0,none⟩=some (.int .i64 0)∧w3.cell? ⟨w.heap.size+2,1,none⟩=some (.string { data:=#[] })∧w3.cell? ⟨w.heap.size+2,2,none⟩=some (.int .i64 0)∧w3.cell? ⟨w.heap.size+2,3,none⟩=some (.slice none 0 0))∧(w3.frozen? ⟨w.heap.size+2,0,none⟩=false∧w3.frozen? ⟨w.heap.size+2,1,none⟩=false∧w3.frozen? ⟨w.heap.size+2,2,none⟩=false∧w3.frozen? ⟨w.heap.size+2,3,none⟩=false)):=z_ (fun w3 h3=>by
  have h4:=(h3.block _ o_).trans aP;have h5:=(h3.block _ o_).trans aQ;have h6:=(h3.block _ o_).trans aR
  exact ⟨by have:=h3.size;omega,aq.trans (h3.mono aq.size),tsl.box3 h4,grami.box4 h5,grami.box4 h6,⟨g_ w3 _ 0 _ _ h6,g_ w3 _ 1 _ _ h6,g_ w3 _ 2 _ _ h6,g_ w3 _ 3 _ _ h6⟩⟩)
 have az:Hid (AppX P Q O σ t=none→∀ w3,Below w.heap.size w w3→∀ u0 u1 u2 u3,AppA P Q O σ t w (.returned (.tuple #[.agg #[.int .i64 0,.string { data:=#[] },.int .i64 0,.slice none 0 0],.bool false])) (set4 w3 (w.heap.size+2) u0 u1 u2 u3)):=z_ (fun hr w3 h3 u0 u1 u2 u3=>
  ⟨zT,.slice none 0 0,false,rfl,fun h=>(by cases h),fun _=>⟨hr,rfl⟩,HasR.nil _ _ _ Aa_ _,qCr,qa9 h3 o_ _ _ _ _⟩)
 obtain ⟨_,_,⟨x0,x1,x2⟩,_,_,_⟩:=ae.out W b_;clear aq ab aP aQ aR a8 aO;go_enter Tryz.func10,Tryz.ntmps10
 go_upto_region 1 with fail
 rw [ad] at hW;rw [← hW];clear hW ad;go_wp2_with fail
 refine (aw.out W aS.out).mono ?_;rintro e w1 ⟨rfl,ab⟩;have af:=z_ ab;obtain ⟨aA,aa,⟨y0,y1,y2⟩,⟨y3,y4,y5,y6⟩,⟨z0,z1,z2,z3⟩,⟨q0,q1,q2,q3⟩⟩:=ae.out w1 ab;clear x0 x1 x2 ab;cases sb with
 | false=>
  have HZ:=z_ (az.out (ay.out (Or.inl rfl)) w1 aa);exact c111_
 | true=>
 have ak:=z_ (aj.out rfl);have al:=z_ (aF.out rfl);have am:=z_ (fun e=>ay.out (Or.inr e));have an:=z_ (ai.out w1 aa);clear aj aF ay;clear z0 z1 z2 z3 q0 q1 q2 q3 ai;go_wp2_with fail
 refine an.out.mono ?_;rintro e w1 ⟨rfl,ab⟩;have af:=z_ (af.out.trans (ab.mono af.out.size));obtain ⟨aA,aa,⟨y0,y1,y2⟩,⟨y3,y4,y5,y6⟩,⟨z0,z1,z2,z3⟩,⟨q0,q1,q2,q3⟩⟩:=ae.out w1 af.out;clear an ab;cases tb with
 | false=>
  have HZ:=z_ (az.out (am.out rfl) w1 aa);exact c111_
 | true=>
  have HC:=z_ (ak.out rfl w1 aa);have aT:=z_ (al.out rfl);clear aa z0 z1 z2 z3 q0 q1 q2 q3 ak al am aw;go_wp2_with fail
  refine HC.out.mono ?_;rintro e w2 ⟨u,vu,r,rfl,aU,aV,aW,aX⟩;have au:=qbh _ (qdq [] _) (aW [] (fun k h=>by cases h));clear aW;obtain ⟨Au,cu,rfl,_⟩:=HasR.shape au rfl;have HR:=z_ (And.intro aU (And.intro aV au));have aY:=z_ (af.out.trans (aX.mono af.out.size));obtain ⟨W3,av⟩:=e_ (w2.alloc (.cells #[.int .i64 u.op,.string (bstr u.name),.int .i64 u.sort,.slice Au u.args.length cu] 38));have aB:=fr1_ av;have aZ:=fr2_ av;have ao:=z_ (aY.out.trans (aB.mono aY.out.size));obtain ⟨_,ac,_,_,⟨z0,z1,z2,z3⟩,⟨q0,q1,q2,q3⟩⟩:=ae.out W3 ao.out;obtain ⟨b0,b1,b2,b3⟩:=grami.box4 aZ;have ba:=z_ (au.below n_ aB);clear aU aV au aX aZ aB y0 y1 y2 y3 y4 y5 y6 HC;unfold aggT;go_upto_region 4 with fail
  rw [← av];clear av;cases r with
  | false=>
   have HZ:=z_ (az.out (by rw [aT.out];exact HR.out.2.1 rfl) W3 ac);clear ac b0 b1 b2 b3;exact j29_
  | true=>
   obtain ⟨hu,hf,hl,aC⟩:=HR.out.1 rfl;have HU:=z_ (And.intro hu (And.intro hl aC));have a6:=z_ (qgm 22 u (.slice Au u.args.length cu) W3 _ ba.out aC (by have h1:=hl.1;have h2:=termro.qao u;omega));have bb:=z_ ac;clear hu hf hl aC ac z0 z1 z2 z3 q0 q1 q2 q3;go_wp2_with fail
   refine a6.out.mono ?_;rintro e w5 ⟨vc,rfl,aD,a7⟩;obtain ⟨Ac,cc,rfl,_⟩:=HasR.shape aD rfl;obtain ⟨_,ap,_,_,⟨z0,z1,z2,z3⟩,⟨q0,q1,q2,q3⟩⟩:=ae.out w5 (ao.out.trans (a7.mono ao.out.size))
   have HF:Hid (∀ u0 u1 u2 u3,AppA P Q O σ t w (.returned (.tuple #[.agg #[.int .i64 u.op,.string (bstr u.name),.int .i64 u.sort,.slice Ac u.args.length cc],.bool true])) (set4 w5 (w.heap.size+2) u0 u1 u2 u3)):=z_ (fun u0 u1 u2 u3=>
    ⟨u,_,true,rfl,fun _=>by rw [aT.out];exact HU.out.1,fun h=>(by cases h),(HasR.kept (qa7 22) aD (qd2 (by have:=bb.out.size;have:=ao.out.size;have:=(ae.out W b_).1;omega) _ _ _ _)).mono (qa7 22) (by have:=ao.out.size;have:=aS.out.size;omega),HU.out.2.2,qa9 ap o_ _ _ _ _⟩)
   clear aD a7 ap b0 b1 b2 b3 a6;go_wp2;refine bodyPost_ret (v:=.tuple #[.agg #[.int .i64 u.op,.string (bstr u.name),.int .i64 u.sort,.slice Ac u.args.length cc],.bool true]) (by simp [results,Tryz.results10,go_sem,z0,z1,z2,z3]) rfl ?_;exact HF.out _ _ _ _
end sapl

namespace imi
set_option maxRecDepth 50000
set_option maxHeartbeats 8000000
open mem dec sortp sorti sigm sigs rowl trm trmv terml termb termt termx termro termvr gram gramn gramt grami formt formm tmr tsk tmc bndl rebp rebn insn insm tso isub sapl eqm imb termvx termic
theorem qxc{g m cap:Nat}{L:List TermM}(hm:m=L.length)(ho:w.ownsRow lo 38 4 (.slice (some ⟨g,0,none⟩) m cap) m (flatV L))(hF:∀ x∈L,Flat x):OT 38 2 lo w (.slice (some ⟨g,0,none⟩) m cap) L [g]:=by
 subst hm;refine ⟨flatV L,fun _=>.slice none 0 0,fun _=>[],ho,by simp [Value.ownBlock],by simp,fun j hj=>⟨qd8 hj,?_,?_⟩⟩
 ·have h:=hF (L.getD j default) (by rw [qai hj];exact List.getElem_mem _)
  exact h.2
 ·have h:=hF (L.getD j default) (by rw [qai hj];exact List.getElem_mem _)
  rw [h.1];exact OT.nil _ 0 lo w
def qol (P:List (List UInt8))(Q:List (Int×Int))(O:List OpM)(p t:TermM)(σ:List BindM):Prop:=AppX P Q O σ p=some t∧qd3 P Q O t∧σ.map (fun b=>b.v)=varsT p
theorem qtq{lo':Nat}(P:List (List UInt8))(Q:List (Int×Int))(O:List OpM)(mm:Option Nat)(A:Option Addr)(c:Nat)(σ:List BindM)(lv:Value)(h1:SubP P Q O σ)(p t:TermM)(vp vt:Value)(w:World)(hM:HasM w (.map mm) (.slice A (grM P Q O).E.length c) (grM P Q O))(hl:HasBs n lo w lv σ)(hp:HasTs N 0 w vp p.args)(am:Bnd p)(an:qca (grM P Q O) p)(ao:∀ m,PlA m w vp p.args)(ht:HasTs N' lo' w vt t.args)(z:Bool)(hz:z=true↔rebM (instF (grM P Q O) σ) p=some t):
  Calls Tryz.prog 61 #[.agg #[.map mm,.slice A (grM P Q O).E.length c],lv,aggT p vp,aggT t vt] w fun e w'=>e=.returned (.bool z)∧Below w.heap.size w w':=by
 obtain ⟨G,hG⟩:=e_ (grM P Q O);have ab:=z_ (fun W (hW:Below w.heap.size w W)=>qo5 P Q O mm A _ c rfl σ lv (by have:=h1.1;omega) (fun b hb=>qen (qoh h1 hb)) p vp W (hM.below hW) n_ (qkz (HasR.mono (qcv n) (hl.below n_ hW) y_) h1) (hp.below n_ hW) am an (fun m=>qgl m hW hp (ao m)));have HT:=z_ ht;obtain ⟨RI,ap⟩:=e_ (rebM (instF (grM P Q O) σ) p);rw [← ap] at hz ab;rw [← hG] at ab ⊢;have HZ:=z_ hz;obtain ⟨B1,d1,rfl,_⟩:=HasR.shape hp rfl;obtain ⟨B2,d2,rfl,_⟩:=HasR.shape ht rfl;obtain ⟨ml,aq⟩:=e_ (σ.length);obtain ⟨AL,cL,rfl,_⟩:=HasR.shape hl aq.symm;unfold aggT at ab ⊢;obtain ⟨gl,au⟩:=e_ (G.E.length);rw [← au] at ab ⊢;obtain ⟨l1,av⟩:=e_ (p.args.length);obtain ⟨o1,aw⟩:=e_ (p.op);obtain ⟨n1,ax⟩:=e_ (p.name);obtain ⟨s1,ay⟩:=e_ (p.sort);rw [← aw,← ax,← ay,← av] at ab ⊢;obtain ⟨l2,ag⟩:=e_ (t.args.length);obtain ⟨o2,ah⟩:=e_ (t.op);obtain ⟨n2,ai⟩:=e_ (t.name);obtain ⟨s2,aj⟩:=e_ (t.sort)
 have az:Hid (∀ (u:TermM) (vu:Value) (W:World) (k lk:Nat),Below w.heap.size w W→HasTs k lk W vu u.args→qa2 u.args≤2097152→∀ r:Bool,(r=true↔u=t)→Calls Tryz.prog 110 #[.agg #[.int .i64 u.op,.string (bstr u.name),.int .i64 u.sort,vu],.agg #[.int .i64 o2,.string (bstr n2),.int .i64 s2,.slice B2 l2 d2]] W fun e w'=>e=.returned (.bool r)∧Below W.heap.size W w'):=z_ (fun u vu W k lk hW hu hs r hr=>by
  have h3:=qec u t vu _ W (hu.up (Nat.le_max_left k N')) ((HT.out.below n_ hW).up (Nat.le_max_right k N')) hs r (by rw [Bool.eq_iff_iff,decide_eq_true_iff,qb0,hr]);unfold aggT at h3;rw [← ah,← ai,← aj] at h3;rw [ag]
  exact h3.mono (fun e w' h=>⟨h.1,h.2.below⟩))
 rw [← ah,← ai,← aj,← ag];clear h1 hM hl hp am an ao ht hz ap hG aq au av aw ax ay ag ah ai aj HT;obtain ⟨W0,ac⟩:=e_ ((w.alloc (.cells #[.map mm,.slice A gl c] 92)).alloc (.cells #[.int .i64 o1,.string (bstr n1),.int .i64 s1,.slice B1 l1 d1] 38));obtain ⟨W,hW⟩:=e_ (W0.alloc (.cells #[.int .i64 o2,.string (bstr n2),.int .i64 s2,.slice B2 l2 d2] 38));have aA:W0.heap.size=w.heap.size+2:=by rw [ac];simp
 have aB:W.heap.size=w.heap.size+3:=by rw [hW];simp [aA]
 have aa:=fr1_ hW;have aC:Below w.heap.size w W:=by
  rw [hW,ac];exact v_
 have ak:W.heap[w.heap.size]? =some (.cells #[.map mm,.slice A gl c] 92 (0,0)):=(aa.block _ o_).trans (by rw [ac];exact tsl.qbd _ _ _);have aD:W.heap[w.heap.size+1]? =some (.cells #[.int .i64 o1,.string (bstr n1),.int .i64 s1,.slice B1 l1 d1] 38 (0,0)):=(aa.block _ o_).trans (by rw [ac];exact termt.qa5 _ _ _ (by simp));have aE:W.heap[w.heap.size+2]? =some (.cells #[.int .i64 o2,.string (bstr n2),.int .i64 s2,.slice B2 l2 d2] 38 (0,0)):=by rw [hW];exact termt.qa5 _ _ _ o_
 have x0:W.cell? ⟨w.heap.size,0,none⟩=some (.map mm):=h_ W _ 0 _ _ _ ak;have x1:W.cell? ⟨w.heap.size,1,none⟩=some (.slice A gl c):=h_ W _ 1 _ _ _ ak;obtain ⟨t0,t1,t2,t3⟩:=grami.box4 aD;have al:=z_ aC;have aO:=z_ aE;have aP:=z_ aB;clear aC aa ak aD aE aB aA;go_enter Tryz.func61,Tryz.ntmps61
 go_upto_region 1 with fail
 rw [ac] at hW;rw [← hW];clear hW ac;go_wp2_with fail
 refine (ab.out W al.out).mono ?_;rintro e w1 ⟨u,vu,r,S,rfl,aF,aG,ho,aa⟩;obtain ⟨Au,cu,rfl,_⟩:=HasR.shape ho.has rfl;obtain ⟨W2,ad⟩:=e_ (w1.alloc (.cells #[.int .i64 u.op,.string (bstr u.name),.int .i64 u.sort,.slice Au u.args.length cu] 38));have ae:=fr1_ ad;have aH:=fr2_ ad;have af:=z_ (al.out.trans ((aa.trans (ae.mono aa.size)).mono al.out.size));have aI:W2.heap[w.heap.size+2]? =some (.cells #[.int .i64 o2,.string (bstr n2),.int .i64 s2,.slice B2 l2 d2] 38 (0,0)):=((aa.trans (ae.mono aa.size)).block _ (by have:=aP.out;omega)).trans aO.out;have aJ:=z_ (ho.below ae).has;have aK:=z_ aF;have aQ:=z_ aG;clear x0 x1 t0 t1 t2 t3 aa ae ho aF aG ab;obtain ⟨b0,b1,b2,b3⟩:=grami.box4 aH;obtain ⟨y0,y1,y2,y3⟩:=grami.box4 aI;clear aH aI;go_upto_region 2 with fail
 rw [← ad];clear ad;cases r with
 | false=>
  have HQ:Hid (z=false):=z_ (by
   cases aR:z with
   | false=>rfl
   | true=>have h3:=HZ.out.1 aR;rw [(aQ.out rfl).1] at h3;cases h3)
  clear b0 b1 b2 b3 y0 y1 y2 y3;go_wp2;go_ret;exact ⟨qa0 HQ.out.symm,af.out⟩
 | true=>
  have aS:=(aK.out rfl).2.1.1;have aL:qa2 u.args≤2097152:=by have h2:=termro.qao u;omega
  have aM:=z_ (az.out u _ W2 _ _ af.out aJ.out aL z (by rw [HZ.out,(aK.out rfl).1];simp));clear aS aL az aJ;go_wp2_with fail
  refine aM.out.mono ?_;rintro e w3 ⟨rfl,aN⟩;have aT:=z_ (af.out.trans (aN.mono af.out.size));clear aN aM b0 b1 b2 b3 y0 y1 y2 y3;go_wp2;go_ret;exact ⟨rfl,aT.out⟩
theorem c113_{p:Prop}(h:p:=by
 go_wp2;go_ret;exact ⟨qa0 HQ.out.symm,ac.out⟩
):p:=h
theorem qzv (P:List (List UInt8))(Q:List (Int×Int))(O:List OpM)(va vb vc:Value)(p t:TermM)(vp vt:Value)(σ:List BindM)(lv:Value)(w:World)(h:HasG w va vb vc P Q O)(hp:HasTs N 0 w vp p.args)(al:Bnd p)(aE:qa2 p.args≤1048576)(aM:∀ m,PlA m w vp p.args)(ht:HasTs N' 0 w vt t.args)(aN:Bnd t)(aO:qa2 t.args≤1048576)(hl:HasBs n lo w lv σ)(aF:bsz σ≤1048576)(z:Bool)(hz:z=true↔qol P Q O p t σ):
  Calls Tryz.prog 23 #[.agg #[va,vb,vc],aggT p vp,aggT t vt,lv] w fun e w'=>e=.returned (.bool z)∧Below w.heap.size w w':=by
 obtain ⟨ss,am⟩:=x_ (SubP P Q O σ);obtain ⟨tp,an⟩:=x_ (qd3 P Q O p);obtain ⟨tt,ax⟩:=x_ (qd3 P Q O t);obtain ⟨bb,ay⟩:=x_ (σ.map (fun b=>b.v)=varsT p)
 have az:Hid (tp=false∨tt=false∨ss=false∨bb=false→z=false):=z_ (fun hh=>by
  cases bu:z with
  | false=>rfl
  | true=>
   obtain ⟨h1,h2,h3⟩:=hz.1 bu;have h4:(qah P Q O=true∧SubP P Q O σ)∧qd3 P Q O p:=by
    by_cases hq:(qah P Q O=true∧SubP P Q O σ)∧qd3 P Q O p
    ·exact hq
    ·rw [qxa hq] at h1;cases h1
   rcases hh with e|e|e|e
   ·rw [an.2 h4.2] at e;cases e
   ·rw [ax.2 h2] at e;cases e
   ·rw [am.2 h4.1.2] at e;cases e
   ·rw [ay.2 h3] at e;cases e)
 have aG:Hid (tp=true→tt=true→ss=true→bb=true→(z=true↔rebM (instF (grM P Q O) σ) p=some t)):=z_ (fun h1 h2 h3 h4=>by
  have g1:=an.1 h1;have g3:=am.1 h3;have g5:AppX P Q O σ p=rebM (instF (grM P Q O) σ) p:=by
   rw [qs9 ⟨⟨g1.1,g3⟩,g1⟩];exact (qzj g1.1 σ (fun b hb=>qen (qoh g3 hb)) p ((qbi p).2 g1)).symm
  rw [hz];unfold qol;rw [g5]
  exact ⟨fun h=>h.1,fun h=>⟨h,ax.1 h2,ay.1 h4⟩⟩)
 have ao:=z_ (fun W (hW:Below w.heap.size w W)=>qx6 P Q O va vb vc W (h.below n_ hW));have aH:=z_ (fun mm um A no c W (hM:HasM W (.map mm) (.slice A no c) (grM P Q O)) (hU:MapU W (.map um) (ordU P Q)) (hW:Below w.heap.size w W)=>qBt P Q O mm um A no c σ lv W hM hU (hl.below n_ hW) aF ss am);have ai:=z_ (fun (h1:ss=true) (h2:tp=true) mm A c W (hM:HasM W (.map mm) (.slice A (grM P Q O).E.length c) (grM P Q O)) (hW:Below w.heap.size w W) (aI:z=true↔rebM (instF (grM P Q O) σ) p=some t)=>qtq P Q O mm A c σ lv (am.1 h1) p t vp vt W hM (hl.below n_ hW) (hp.below n_ hW) al ((qbi p).2 (an.1 h2)) (fun m=>qgl m hW hp (aM m)) (ht.below n_ hW) z aI);have aJ:=z_ (fun W (hW:Below w.heap.size w W)=>qt8 p vp W (hp.below n_ hW) al aE);have bv:Hid (∀ x∈varsT p,Flat x):=z_ (fun x hx=>qmg p N 0 w _ hp al x (qie.1 hx));have bw:=z_ (fun W (hW:Below w.heap.size w W) v2 n2 bx (hv:HasTs n2 bx W v2 (varsT p))=>(qtp (n:=max n n2) σ (varsT p) lv v2 W ((hl.below n_ hW).up (Nat.le_max_left n n2)) (hv.up (Nat.le_max_right n n2)) aF bb ay).mono (fun e w' h=>(show e=.returned (.bool bb)∧Below W.heap.size W w' from ⟨h.1,h.2.below⟩)));obtain ⟨G,hG⟩:=e_ (grM P Q O)
 have af:Hid (∀ mm A c W,HasM W (.map mm) (.slice A G.E.length c) G→Below w.heap.size w W→Calls Tryz.prog 46 #[.agg #[.map mm,.slice A G.E.length c],aggT p vp] W fun e w'=>e=.returned (.bool tp)∧Below W.heap.size W w'):=z_ (fun mm A c W hM hW=>by
  refine (qh1 G (by rw [hG];exact qlu P Q O) (.map mm) A G.E.length c p vp W hM rfl (hp.below n_ hW) al aE).mono ?_;rintro e w' ⟨r,rfl,h2,h3⟩;have:r=tp:=by rw [Bool.eq_iff_iff,h2,an,hG];exact qbi p
  exact ⟨by rw [this],h3⟩)
 have ag:Hid (∀ mm A c W,HasM W (.map mm) (.slice A G.E.length c) G→Below w.heap.size w W→Calls Tryz.prog 46 #[.agg #[.map mm,.slice A G.E.length c],aggT t vt] W fun e w'=>e=.returned (.bool tt)∧Below W.heap.size W w'):=z_ (fun mm A c W hM hW=>by
  refine (qh1 G (by rw [hG];exact qlu P Q O) (.map mm) A G.E.length c t vt W hM rfl (ht.below n_ hW) aN aO).mono ?_;rintro e w' ⟨r,rfl,h2,h3⟩;have:r=tt:=by rw [Bool.eq_iff_iff,h2,ax,hG];exact qbi t
  exact ⟨by rw [this],h3⟩)
 obtain ⟨A1,c1,A2,c2,A3,c3,rfl,rfl,rfl,_⟩:=h.shape;obtain ⟨B1,d1,rfl,_⟩:=HasR.shape hp rfl;obtain ⟨B2,d2,rfl,_⟩:=HasR.shape ht rfl;obtain ⟨ml,aP⟩:=e_ (σ.length);obtain ⟨AL,cL,rfl,_⟩:=HasR.shape hl aP.symm;obtain ⟨m1,aQ⟩:=e_ (P.length);obtain ⟨m2,aR⟩:=e_ (Q.length);obtain ⟨m3,aS⟩:=e_ (O.length);rw [← hG] at ao aH ai aG;obtain ⟨U,hU⟩:=e_ (ordU P Q);rw [← hU] at ao aH;rw [← aQ,← aR,← aS] at ao ⊢;obtain ⟨RI,aT⟩:=e_ (rebM (instF G σ) p);rw [← aT] at aG ai;unfold aggT at af ag aJ ai ⊢;obtain ⟨o1,aU⟩:=e_ (p.op);obtain ⟨n1,aV⟩:=e_ (p.name);obtain ⟨s1,aW⟩:=e_ (p.sort);obtain ⟨l1,aX⟩:=e_ (p.args.length);obtain ⟨o2,aY⟩:=e_ (t.op);obtain ⟨n2,aZ⟩:=e_ (t.name);obtain ⟨s2,a6⟩:=e_ (t.sort);obtain ⟨l2,a7⟩:=e_ (t.args.length);rw [← aU,← aV,← aW,← aX] at af aJ ai ⊢;rw [← aY,← aZ,← a6,← a7] at ag ai ⊢;clear h hp al aE aM ht aN aO hl aF hz am an ax ay hG aP aQ aR aS hU aT aU aV aW aX aY aZ a6 a7;obtain ⟨W0,aj⟩:=e_ ((w.alloc (.cells #[.slice A1 m1 c1,.slice A2 m2 c2,.slice A3 m3 c3] 46)).alloc (.cells #[.int .i64 o1,.string (bstr n1),.int .i64 s1,.slice B1 l1 d1] 38));obtain ⟨W,hW⟩:=e_ (W0.alloc (.cells #[.int .i64 o2,.string (bstr n2),.int .i64 s2,.slice B2 l2 d2] 38));have a8:W0.heap.size=w.heap.size+2:=by rw [aj];simp
 have bz:W.heap.size=w.heap.size+3:=by rw [hW];simp [a8]
 have ah:=fr1_ hW;have aA:Below w.heap.size w W:=by
  rw [hW,aj];exact v_
 have ba:W.heap[w.heap.size]? =some (.cells #[.slice A1 m1 c1,.slice A2 m2 c2,.slice A3 m3 c3] 46 (0,0)):=(ah.block _ o_).trans (by rw [aj];exact tsl.qbd _ _ _);have bc:W.heap[w.heap.size+1]? =some (.cells #[.int .i64 o1,.string (bstr n1),.int .i64 s1,.slice B1 l1 d1] 38 (0,0)):=(ah.block _ o_).trans (by rw [aj];exact termt.qa5 _ _ _ (by simp));have bd:W.heap[w.heap.size+2]? =some (.cells #[.int .i64 o2,.string (bstr n2),.int .i64 s2,.slice B2 l2 d2] 38 (0,0)):=by rw [hW];exact termt.qa5 _ _ _ o_
 have be:=z_ aA
 have bf:Hid (∀ w3,Below W.heap.size W w3→Below w.heap.size w w3∧(w3.cell? ⟨w.heap.size+1,0,none⟩=some (.int .i64 o1)∧w3.cell? ⟨w.heap.size+1,1,none⟩=some (.string (bstr n1))∧w3.cell? ⟨w.heap.size+1,2,none⟩=some (.int .i64 s1)∧w3.cell? ⟨w.heap.size+1,3,none⟩=some (.slice B1 l1 d1))∧
   (w3.cell? ⟨w.heap.size+2,0,none⟩=some (.int .i64 o2)∧w3.cell? ⟨w.heap.size+2,1,none⟩=some (.string (bstr n2))∧w3.cell? ⟨w.heap.size+2,2,none⟩=some (.int .i64 s2)∧w3.cell? ⟨w.heap.size+2,3,none⟩=some (.slice B2 l2 d2))):=z_ (fun w3 h3=>
  ⟨aA.trans (h3.mono aA.size),grami.box4 ((h3.block _ o_).trans bc),grami.box4 ((h3.block _ o_).trans bd)⟩)
 obtain ⟨x0,x1,x2⟩:=tsl.box3 ba;clear aA ah ba bc bd bz a8;go_enter Tryz.func23,Tryz.ntmps23
 go_upto_region 1 with fail
 rw [aj] at hW;rw [← hW];clear hW aj;go_wp2_with fail
 refine (ao.out W be.out).mono ?_;rintro e w1 ⟨mm,A4,c4,um,rfl,bg,bh,ah⟩;obtain ⟨W2,ap⟩:=e_ (w1.alloc (.cells #[.map mm,.slice A4 G.E.length c4,.map um] 94));have aB:=fr1_ ap;have bi:=fr2_ ap;have aI:=fr3_ ap;have bj:=z_ (ah.trans (aB.mono ah.size));have aC:=z_ (bg.below aB);have bA:=z_ (bh.below aB)
 have ak:Hid (∀ w3,Below W2.heap.size W2 w3→(Below w.heap.size w w3∧(w3.cell? ⟨w1.heap.size,0,none⟩=some (.map mm)∧w3.cell? ⟨w1.heap.size,1,none⟩=some (.slice A4 G.E.length c4)∧w3.cell? ⟨w1.heap.size,2,none⟩=some (.map um))∧(w3.cell? ⟨w.heap.size+1,0,none⟩=some (.int .i64 o1)∧w3.cell? ⟨w.heap.size+1,1,none⟩=some (.string (bstr n1))∧w3.cell? ⟨w.heap.size+1,2,none⟩=some (.int .i64 s1)∧w3.cell? ⟨w.heap.size+1,3,none⟩=some (.slice B1 l1 d1))∧
   (w3.cell? ⟨w.heap.size+2,0,none⟩=some (.int .i64 o2)∧w3.cell? ⟨w.heap.size+2,1,none⟩=some (.string (bstr n2))∧w3.cell? ⟨w.heap.size+2,2,none⟩=some (.int .i64 s2)∧w3.cell? ⟨w.heap.size+2,3,none⟩=some (.slice B2 l2 d2)))):=z_ (fun w3 h3=>by
  have h4:=bf.out w3 (bj.out.trans (h3.mono bj.out.size))
  exact ⟨h4.1,tsl.box3 ((h3.block _ o_).trans bi),h4.2⟩)
 have FW:=z_ (Below.refl W2.heap.size W2);clear bg bh ah aB bi aI x0 x1 x2 ao bf be;obtain ⟨aq,⟨r0,r1,r2⟩,⟨t0,t1,t2,t3⟩,⟨y0,y1,y2,y3⟩⟩:=ak.out W2 FW.out;go_upto_region 2 with fail
 rw [← ap];clear ap;go_wp2_with fail
 refine (af.out mm A4 c4 W2 aC.out aq).mono ?_;rintro e w3 ⟨rfl,bk⟩;have aD:=z_ bk;clear bk aq r0 r1 r2 t0 t1 t2 t3 y0 y1 y2 y3;obtain ⟨ab,⟨r0,r1,r2⟩,⟨t0,t1,t2,t3⟩,⟨y0,y1,y2,y3⟩⟩:=ak.out w3 aD.out;cases tp with
 | false=>
  have HQ:=z_ (az.out (.inl rfl));have ac:=z_ ab;clear ab r0 r1 r2 t0 t1 t2 t3 y0 y1 y2 y3;exact c113_
 | true=>
 go_wp2_with fail
 refine (ag.out mm A4 c4 w3 (aC.out.below aD.out) ab).mono ?_;rintro e w4 ⟨rfl,bl⟩;have au:=z_ (aD.out.trans (bl.mono aD.out.size));clear bl ab r0 r1 r2 t0 t1 t2 t3 y0 y1 y2 y3;obtain ⟨ad,⟨r0,r1,r2⟩,⟨t0,t1,t2,t3⟩,⟨y0,y1,y2,y3⟩⟩:=ak.out w4 au.out;cases tt with
 | false=>
  have HQ:=z_ (az.out (.inr (.inl rfl)));have ac:=z_ ad;clear ad r0 r1 r2 t0 t1 t2 t3 y0 y1 y2 y3;exact c113_
 | true=>
 go_wp2_with fail
 refine (aH.out mm um A4 _ c4 w4 (aC.out.below au.out) (bA.out.below au.out) ad).mono ?_;rintro e w5 ⟨rfl,bm⟩;have aK:=z_ (au.out.trans (bm.mono au.out.size));clear bm ad r0 r1 r2 t0 t1 t2 t3 y0 y1 y2 y3;obtain ⟨ae,⟨r0,r1,r2⟩,⟨t0,t1,t2,t3⟩,⟨y0,y1,y2,y3⟩⟩:=ak.out w5 aK.out;cases ss with
 | false=>
  have HQ:=z_ (az.out (.inr (.inr (.inl rfl))));have ac:=z_ ae;clear ae r0 r1 r2 t0 t1 t2 t3 y0 y1 y2 y3;exact c113_
 | true=>
 go_wp2_with fail
 refine (aJ.out w5 ae).mono ?_;rintro e w6 ⟨g6,bB,m6,bn,rfl,bo,bp⟩;have aL:=z_ (aK.out.trans (bp.mono aK.out.size));have bq:=z_ (qxc bn bo bv.out).has;clear bp ae bn bo r0 r1 r2 t0 t1 t2 t3 y0 y1 y2 y3;obtain ⟨av,⟨r0,r1,r2⟩,⟨t0,t1,t2,t3⟩,⟨y0,y1,y2,y3⟩⟩:=ak.out w6 aL.out;go_wp2_with fail
 refine (bw.out w6 av _ _ _ bq.out).mono ?_;rintro e w7 ⟨rfl,br⟩;have bs:=z_ (aL.out.trans (br.mono aL.out.size));clear br av bq r0 r1 r2 t0 t1 t2 t3 y0 y1 y2 y3;obtain ⟨aa,⟨r0,r1,r2⟩,⟨t0,t1,t2,t3⟩,⟨y0,y1,y2,y3⟩⟩:=ak.out w7 bs.out;cases bb with
 | false=>
  have HQ:=z_ (az.out (.inr (.inr (.inr rfl))));have ac:=z_ aa;clear aa r0 r1 r2 t0 t1 t2 t3 y0 y1 y2 y3;exact c113_
 | true=>
 have bC:=z_ (ai.out (by trivial) (by trivial) mm A4 c4 w7 (aC.out.below bs.out) aa (aG.out (by trivial) (by trivial) (by trivial) (by trivial)));have aw:=z_ aa;clear aa r2;go_wp2_with fail
 refine bC.out.mono ?_;rintro e w8 ⟨rfl,bt⟩;have ac:=z_ (aw.out.trans (bt.mono aw.out.size));clear bt r0 r1 t0 t1 t2 t3 y0 y1 y2 y3;go_wp2;go_ret;exact ⟨rfl,ac.out⟩
end imi

namespace ims
open mem dec sortp sorti sigm sigs rowl trm trmv terml termb termt termx termro termvo termin termic gram gramn grami formt tmg bndl sapl imb termvx imi
set_option maxRecDepth 50000 in
set_option maxHeartbeats 8000000 in
theorem qzw (P:List (List UInt8))(Q:List (Int×Int))(O:List OpM)(va vb vc:Value)(p t:TermM)(vp vt:Value)(σ:List BindM)(lv:Value)(w:World)(h:HasG w va vb vc P Q O)(hp:HasTs N 0 w vp p.args)(am:Bnd p)(ax:qa2 p.args≤1048576)(ht:HasTs N' 0 w vt t.args)(aQ:Bnd t)(aR:qa2 t.args≤1048576)(hl:HasBs n 0 w lv σ)(aS:bsz σ≤1048576)(z:Bool)(hz:z=true↔qol P Q O p t σ):
  Calls Tryz.prog 22 #[.agg #[va,vb,vc],aggT p vp,aggT t vt,lv] w fun e w'=>e=.returned (.bool z)∧Below w.heap.size w w':=by
 obtain ⟨tt,ay⟩:=x_ (qd3 P Q O t);obtain ⟨X,hX⟩:=e_ (AppX P Q O σ p);obtain ⟨m,hm⟩:=e_ (σ.length);obtain ⟨vl,ah⟩:=e_ ((varsT p).length);have az:z=true↔X=some t∧tt=true∧vl=m∧∀ i,i<m→(σ.getD i default).v=(varsT p).getD i default:=by
  rw [hz,ay,hX];unfold qol;rw [qoj,← hm,← ah];exact ⟨fun h=>⟨h.1,h.2.1,h.2.2.1.symm,h.2.2.2⟩,fun h=>⟨h.1,h.2.1,h.2.2.1.symm,h.2.2.2⟩⟩
 have HZ:Hid (z=true↔X=some t∧tt=true∧vl=m∧∀ i,i<m→(σ.getD i default).v=(varsT p).getD i default):=z_ az
 have ai:Hid ((X≠some t∨tt=false∨vl≠m∨∃ i,i<m∧(σ.getD i default).v≠(varsT p).getD i default)→z=false):=z_ (fun hh=>by
  cases bC:z with
  | false=>rfl
  | true=>
   obtain ⟨h1,h2,h3,h4⟩:=az.1 bC;rcases hh with e|e|e|⟨i,hi,e⟩
   ·exact absurd h1 e
   ·rw [h2] at e;cases e
   ·exact absurd h3 e
   ·exact absurd (h4 i hi) e)
 have aj:=z_ (fun W (hW:Below w.heap.size w W)=>qzq P Q O va vb vc σ lv p vp W (h.below n_ hW) (hl.below n_ hW) aS (hp.below n_ hW) am ax);have an:=z_ (fun W (hW:Below w.heap.size w W)=>qq5 p vp W (hp.below n_ hW) am ax);have bD:Hid (∀ x∈varsT p,Flat x):=z_ (fun x hx=>qmg p N 0 w _ hp am x (qie.1 hx));have ao:=z_ (fun W (hW:Below w.heap.size w W)=>qe2 P Q O va vb vc t vt W (h.below n_ hW) (ht.below n_ hW) aQ aR tt ay);have HL:=z_ hl;have HT:=z_ ht;obtain ⟨A1,c1,A2,c2,A3,c3,rfl,rfl,rfl,_⟩:=h.shape;obtain ⟨B1,d1,rfl,_⟩:=HasR.shape hp rfl;obtain ⟨B2,d2,rfl,_⟩:=HasR.shape ht rfl;obtain ⟨AL,cL,rfl,aT⟩:=HasR.shape hl hm.symm;have bS:=aT.len.2.1;obtain ⟨m1,aU⟩:=e_ (P.length);obtain ⟨m2,aV⟩:=e_ (Q.length);obtain ⟨m3,aW⟩:=e_ (O.length);rw [← aU,← aV,← aW] at aj ao ⊢;have aA:Hid (∀ e W w',AppA P Q O σ p W e w'→∃ u vu r,e=.returned (.tuple #[aggT u vu,.bool r])∧(r=true→X=some u)∧(r=false→X=none∧u=zT)∧HasTs 22 0 w' vu u.args∧Below W.heap.size W w'):=z_ (fun e W w' ⟨u,vu,r,h1,h2,h3,h4,_,h6⟩=>⟨u,vu,r,h1,by rw [hX];exact h2,by rw [hX];exact h3,h4.mono (qa7 22) y_,h6⟩);unfold aggT at aj an ao aA ⊢;obtain ⟨o1,aX⟩:=e_ (p.op);obtain ⟨n1,aY⟩:=e_ (p.name);obtain ⟨s1,aZ⟩:=e_ (p.sort);obtain ⟨l1,a6⟩:=e_ (p.args.length);obtain ⟨o2,aB⟩:=e_ (t.op);obtain ⟨n2,aC⟩:=e_ (t.name);obtain ⟨s2,aD⟩:=e_ (t.sort);obtain ⟨l2,aE⟩:=e_ (t.args.length)
 have bE:Hid (∀ (u:TermM) (vu:Value) (W:World) (k lk:Nat),Below w.heap.size w W→HasTs k lk W vu u.args→∀ r:Bool,(r=true↔u=t)→Calls Tryz.prog 58 #[.agg #[.int .i64 u.op,.string (bstr u.name),.int .i64 u.sort,vu],.agg #[.int .i64 o2,.string (bstr n2),.int .i64 s2,.slice B2 l2 d2]] W fun e w'=>e=.returned (.bool r)∧Below W.heap.size W w'):=z_ (fun u vu W k lk hW hu r hr=>by
  have h3:=qew u t vu _ W hu (HT.out.below n_ hW) r (by rw [Bool.eq_iff_iff,decide_eq_true_iff,qb0,hr]);unfold aggT at h3;rw [← aB,← aC,← aD] at h3;rw [aE]
  exact h3)
 rw [← aX,← aY,← aZ,← a6] at aj an ⊢;rw [← aB,← aC,← aD,← aE] at ao ⊢;have bF:=z_ (And.intro hm ah);clear h hp am ax ht aQ aR hl aS hz az ay aT hX hm ah aU aV aW aX aY aZ a6 aB aC aD aE HT;obtain ⟨W0,af⟩:=e_ ((w.alloc (.cells #[.slice A1 m1 c1,.slice A2 m2 c2,.slice A3 m3 c3] 46)).alloc (.cells #[.int .i64 o1,.string (bstr n1),.int .i64 s1,.slice B1 l1 d1] 38));obtain ⟨W,hW⟩:=e_ (W0.alloc (.cells #[.int .i64 o2,.string (bstr n2),.int .i64 s2,.slice B2 l2 d2] 38));have a7:W0.heap.size=w.heap.size+2:=by rw [af];simp
 have bG:W.heap.size=w.heap.size+3:=by rw [hW];simp [a7]
 have ac:=fr1_ hW;have aF:Below w.heap.size w W:=by
  rw [hW,af];exact v_
 have a8:W.heap[w.heap.size]? =some (.cells #[.slice A1 m1 c1,.slice A2 m2 c2,.slice A3 m3 c3] 46 (0,0)):=(ac.block _ o_).trans (by rw [af];exact tsl.qbd _ _ _);have ba:W.heap[w.heap.size+1]? =some (.cells #[.int .i64 o1,.string (bstr n1),.int .i64 s1,.slice B1 l1 d1] 38 (0,0)):=(ac.block _ o_).trans (by rw [af];exact termt.qa5 _ _ _ (by simp));have bb:W.heap[w.heap.size+2]? =some (.cells #[.int .i64 o2,.string (bstr n2),.int .i64 s2,.slice B2 l2 d2] 38 (0,0)):=by rw [hW];exact termt.qa5 _ _ _ o_
 have aG:Hid (∀ w3,Below W.heap.size W w3→Below w.heap.size w w3∧(w3.cell? ⟨w.heap.size,0,none⟩=some (.slice A1 m1 c1)∧w3.cell? ⟨w.heap.size,1,none⟩=some (.slice A2 m2 c2)∧w3.cell? ⟨w.heap.size,2,none⟩=some (.slice A3 m3 c3))∧(w3.cell? ⟨w.heap.size+1,0,none⟩=some (.int .i64 o1)∧w3.cell? ⟨w.heap.size+1,1,none⟩=some (.string (bstr n1))∧w3.cell? ⟨w.heap.size+1,2,none⟩=some (.int .i64 s1)∧w3.cell? ⟨w.heap.size+1,3,none⟩=some (.slice B1 l1 d1))∧(w3.cell? ⟨w.heap.size+2,0,none⟩=some (.int .i64 o2)∧w3.cell? ⟨w.heap.size+2,1,none⟩=some (.string (bstr n2))∧w3.cell? ⟨w.heap.size+2,2,none⟩=some (.int .i64 s2)∧w3.cell? ⟨w.heap.size+2,3,none⟩=some (.slice B2 l2 d2))):=z_ (fun w3 h3=>
  ⟨aF.trans (h3.mono aF.size),tsl.box3 ((h3.block _ o_).trans a8),grami.box4 ((h3.block _ o_).trans ba),grami.box4 ((h3.block _ o_).trans bb)⟩)
 have FW:=z_ (Below.refl W.heap.size W);clear aF ac a8 ba bb bG a7;obtain ⟨bc,⟨x0,x1,x2⟩,⟨t0,t1,t2,t3⟩,_⟩:=aG.out W FW.out;go_enter Tryz.func22,Tryz.ntmps22
 go_upto_region 1 with fail
 rw [af] at hW;rw [← hW];clear hW af;go_wp2_with fail
 refine (aj.out W bc).mono ?_;intro e w1 bd;obtain ⟨u,vu,r,rfl,be,bf,hu,ac⟩:=aA.out _ _ _ bd;obtain ⟨Au,cu,rfl,_⟩:=HasR.shape hu rfl;obtain ⟨W2,ak⟩:=e_ (w1.alloc (.cells #[.int .i64 u.op,.string (bstr u.name),.int .i64 u.sort,.slice Au u.args.length cu] 38));have ag:=fr1_ ak;have bg:=fr2_ ak;have bH:=fr3_ ak;have bh:=z_ (ac.trans (ag.mono ac.size));have bI:=z_ (hu.below n_ ag);have bi:=z_ be;have bj:=z_ bf
 have ap:Hid (∀ w3,Below W2.heap.size W2 w3→Below w.heap.size w w3∧(w3.cell? ⟨w.heap.size,0,none⟩=some (.slice A1 m1 c1)∧w3.cell? ⟨w.heap.size,1,none⟩=some (.slice A2 m2 c2)∧w3.cell? ⟨w.heap.size,2,none⟩=some (.slice A3 m3 c3))∧(w3.cell? ⟨w.heap.size+1,0,none⟩=some (.int .i64 o1)∧w3.cell? ⟨w.heap.size+1,1,none⟩=some (.string (bstr n1))∧w3.cell? ⟨w.heap.size+1,2,none⟩=some (.int .i64 s1)∧w3.cell? ⟨w.heap.size+1,3,none⟩=some (.slice B1 l1 d1))∧(w3.cell? ⟨w.heap.size+2,0,none⟩=some (.int .i64 o2)∧w3.cell? ⟨w.heap.size+2,1,none⟩=some (.string (bstr n2))∧w3.cell? ⟨w.heap.size+2,2,none⟩=some (.int .i64 s2)∧w3.cell? ⟨w.heap.size+2,3,none⟩=some (.slice B2 l2 d2))∧(w3.cell? ⟨w1.heap.size,0,none⟩=some (.int .i64 u.op)∧w3.cell? ⟨w1.heap.size,1,none⟩=some (.string (bstr u.name))∧w3.cell? ⟨w1.heap.size,2,none⟩=some (.int .i64 u.sort)∧w3.cell? ⟨w1.heap.size,3,none⟩=some (.slice Au u.args.length cu))):=z_ (fun w3 h3=>by
  have h4:=aG.out w3 (bh.out.trans (h3.mono bh.out.size))
  exact ⟨h4.1,h4.2.1,h4.2.2.1,h4.2.2.2,grami.box4 ((h3.block _ o_).trans bg)⟩)
 have F2:=z_ (Below.refl W2.heap.size W2);clear bd be bf hu ac ag bg bH x0 x1 x2 t0 t1 t2 t3 bc aG aA aj;obtain ⟨ag,⟨x0,x1,x2⟩,⟨t0,t1,t2,t3⟩,⟨y0,y1,y2,y3⟩,⟨q0,q1,q2,q3⟩⟩:=ap.out W2 F2.out;go_upto_region 2 with fail
 rw [← ak];clear ak;go_wp2_with fail
 refine (an.out W2 ag).mono ?_;rintro e w3 ⟨g3,bJ,v3,aH,rfl,bk,ad⟩;have ah:v3=vl:=aH.trans bF.out.2.symm;subst ah;have aI:=z_ ad;have bl:=z_ (qxc aH bk bD.out).has;clear aH bk ad ag x0 x1 x2 t0 t1 t2 t3 y0 y1 y2 y3 q0 q1 q2 q3 an;obtain ⟨ad,⟨x0,x1,x2⟩,⟨t0,t1,t2,t3⟩,⟨y0,y1,y2,y3⟩,⟨q0,q1,q2,q3⟩⟩:=ap.out w3 aI.out;cases r with
 | false=>
  have HQ:=z_ (ai.out (.inl (by rw [(bj.out rfl).1];simp)));have aJ:=z_ ad;clear ad x0 x1 x2 t0 t1 t2 t3 y0 y1 y2 y3 q0 q1 q2 q3;go_wp2;go_ret;exact ⟨qa0 HQ.out.symm,aJ.out⟩
 | true=>
 have aK:Hid (X=some u):=z_ (bi.out rfl);clear bi bj;go_wp2_with fail
 refine (ao.out w3 ad).mono ?_;rintro e w4 ⟨rfl,ab⟩;have aq:=z_ (aI.out.trans (ab.mono aI.out.size));have bm:=z_ (bl.out.below n_ ab);clear ab ad x0 x1 x2 t0 t1 t2 t3 y0 y1 y2 y3 q0 q1 q2 q3 bl;obtain ⟨ab,⟨x0,x1,x2⟩,⟨t0,t1,t2,t3⟩,⟨y0,y1,y2,y3⟩,⟨q0,q1,q2,q3⟩⟩:=ap.out w4 aq.out;cases tt with
 | false=>
  have HQ:=z_ (ai.out (.inr (.inl rfl)));have aJ:=z_ ab;clear ab x0 x1 x2 t0 t1 t2 t3 y0 y1 y2 y3 q0 q1 q2 q3;go_wp2;go_ret;exact ⟨qa0 HQ.out.symm,aJ.out⟩
 | true=>
 obtain ⟨sm,aL⟩:∃ b:Bool,b=true↔u=t:=⟨decide (cmp u t=0),by rw [decide_eq_true_iff,qb0]⟩;have bn:=z_ (bE.out u _ w4 _ _ ab (bI.out.below n_ aq.out) sm aL);have ae:Hid (sm=true↔u=t):=z_ aL;clear aL ab;go_wp2_with fail
 refine bn.out.mono ?_;rintro e w5 ⟨rfl,aM⟩;have bK:=z_ (aq.out.trans (aM.mono aq.out.size));have bL:=z_ (bm.out.below n_ aM);have au:=z_ (ap.out w5 bK.out).1;clear aM x0 x1 x2 t0 t1 t2 t3 y0 y1 y2 y3 q0 q1 q2 q3 bm bn;cases sm with
 | false=>
  have HQ:=z_ (ai.out (.inl (by rw [aK.out];intro e;injection e with e;have:=ae.out.2 e;cases this)));go_wp2;go_ret;exact ⟨qa0 HQ.out.symm,au.out⟩
 | true=>
 have bM:Hid (X=some t):=z_ (by rw [aK.out,ae.out.1 rfl]);by_cases bo:v3=m
 ·subst bo
  have n1:((v3:Int) != (v3:Int))=false:=by simp
  clear ae aK;go_wp2;go_loopw [12] (fun bN wr=>∃ k:Nat,bN=.int .i64 k∧k≤v3∧Hid (∀ i,i<k→(σ.getD i default).v=(varsT p).getD i default)∧Hid (Below w5.heap.size w5 wr)) (fun i _=>v3-(intOf i).toNat)
  case atStart=>exact ⟨0,rfl,y_,z_ (fun i hi=>by omega),z_ b_⟩
  case round=>
   obtain ⟨k,rfl,hk,HQ,HB⟩:=hrel;have al:=au.out.trans (HB.out.mono au.out.size);by_cases av:k<v3
   ·have d1:decide (k<v3)=true:=decide_eq_true av
    have bp:=bL.out.below n_ HB.out;have bq:=HL.out.below n_ al;obtain ⟨kn,gv,ov,E1,f1,bO,ev,_,bP,a0,a1,a2,a3,aN,_⟩:=qal bp av;obtain ⟨gb,ob,C1,e1,C2,e2,eb,bQ,aO,aP,_,_,_⟩:=qdc bq av;subst eb;obtain ⟨rfl,rfl⟩:g3=gv∧0=ov:=by
     injection ev with ev
     injection ev with e1 e2 _
     exact ⟨e1,e2⟩
    simp only [Nat.zero_add] at a0 a1 a2 a3;obtain ⟨x,hx⟩:=e_ ((varsT p).getD k default);obtain ⟨y,hy⟩:=e_ ((σ.getD k default));obtain ⟨q,hq⟩:∃ b:Bool,b=true↔x=y.v:=⟨decide (cmp x y.v=0),by rw [decide_eq_true_iff,qb0]⟩;have br:Hid (q=true↔(σ.getD k default).v=(varsT p).getD k default):=z_ (by rw [hq,hx,hy];exact eq_comm);rw [← hx] at a0 a1 a2 a3 aN;rw [← hy] at aO aP;unfold Cells8 at aO;obtain ⟨⟨z0,z1,z2,z3⟩,_,_,_,_⟩:=aO;have aa:Hid (∀ tb:BoxC (Below wr.heap.size wr),Calls Tryz.prog 58 #[aggT x (.slice E1 x.args.length f1),aggT y.v (.slice C1 y.v.args.length e1)] tb.W fun e w'=>e=.returned (.bool q)∧Below tb.W.heap.size tb.W w'):=z_ (fun tb=>qew x y.v _ _ tb.W (aN.below n_ tb.h) (aP.below n_ tb.h) q (by rw [Bool.eq_iff_iff,decide_eq_true_iff,qb0,hq]));have kk:∀ {g o:Nat} {v:Value},wr.cell? ⟨g,o,none⟩=some v→∀ tb:BoxC (Below wr.heap.size wr),tb.W.cell? ⟨g,o,none⟩=some v:=fun {g o v} h tb=>(tb.h.cell (p:=⟨g,o,none⟩) (World.block_lt_of_cell? wr _ h)).trans h
    have i0:=kk a0;have i1:=kk a1;have i2:=kk a2;have i3:=kk a3;have j0:=kk z0;have j1:=kk z1;have j2:=kk z2;have j3:=kk z3;unfold aggT at aa;obtain ⟨xo,bs⟩:=e_ (x.op);rw [← bs] at aa i0;obtain ⟨xn,bt⟩:=e_ (x.name);rw [← bt] at aa i1;obtain ⟨xs,bu⟩:=e_ (x.sort);rw [← bu] at aa i2;obtain ⟨xl,bv⟩:=e_ (x.args.length);rw [← bv] at aa i3;obtain ⟨yo,bw⟩:=e_ (y.v.op);rw [← bw] at aa j0;obtain ⟨yn,bx⟩:=e_ (y.v.name);rw [← bx] at aa j1;obtain ⟨ys,bz⟩:=e_ (y.v.sort);rw [← bz] at aa j2;obtain ⟨yl,bA⟩:=e_ (y.v.args.length);rw [← bA] at aa j3;have bT:(0:Int)≤(k:Int):=o_;have bU:(k:Int)<(v3:Int):=o_;have aw:=z_ al;have nb:Nonempty (BoxC (Below wr.heap.size wr)):=⟨⟨_,Below.refl _ _⟩⟩;clear bs bt bu bv bw bx bz bA hx hy hq kk a0 a1 a2 a3 z0 z1 z2 z3 aN aP bp bq bP bQ ev al bO;go_wp2_with fail
    refine qa1 (C:=Below wr.heap.size wr) k_ k_ b_.drew ?_;repeat go_big_quiet_step ((go_at_call 58;exact (aa.out _).mono (fun _ _ h=>⟨h.1,BoxC.step _ h.2⟩)))
    refine wpQuiet_nil ?_;rintro w6 ⟨t6,rfl⟩;have bB:=z_ t6.h;clear i0 i1 i2 i3 j0 j1 j2 j3 nb aa;cases q with
    | true=>
     have bR:Hid (∀ i,i<k+1→(σ.getD i default).v=(varsT p).getD i default):=z_ (fun i hi=>by
      by_cases e:i=k
      ·subst e;exact br.out.1 rfl
      ·exact HQ.out i o_)
     go_wp2;go_roundw
     case rel=>exact ⟨k+1,by go_num,by omega,bR,z_ (HB.out.trans (bB.out.mono HB.out.size))⟩
     case measure=>simp [intOf];omega
    | false=>
     have HE:=z_ (ai.out (.inr (.inr (.inr ⟨k,av,fun e=>by have:=br.out.2 e;cases this⟩))));go_wp2;go_ret;exact ⟨qa0 HE.out.symm,aw.out.trans (bB.out.mono aw.out.size)⟩
   ·obtain rfl:k=v3:=o_
    have HE:Hid (z=true):=z_ (HZ.out.2 ⟨bM.out,by trivial,by trivial,HQ.out⟩);have aw:=z_ al;clear al;go_wp2;go_ret;exact ⟨qa0 HE.out.symm,aw.out⟩
 ·have n1:((v3:Int) != (m:Int))=true:=by simp;omega
  have HQ:=z_ (ai.out (.inr (.inr (.inl bo))));go_wp2;go_ret;exact ⟨qa0 HQ.out.symm,au.out⟩
end ims

namespace fnExactIsMatch
set_option maxRecDepth 100000
open mem dec sortp sorti subs join sigm sigs sigu sige rowl trm terml termb termt termu termx gram gramn grami rebp bndl bndt imi ims
abbrev C4 (z:Nat)(t0 t1 t2 t3:Value)(w:World):Prop:=w.cell? ⟨z,0,none⟩=some t0∧w.cell? ⟨z,1,none⟩=some t1∧w.cell? ⟨z,2,none⟩=some t2∧w.cell? ⟨z,3,none⟩=some t3
theorem C4.below{z:Nat}{t0 t1 t2 t3:Value}{w':World}(h:C4 z t0 t1 t2 t3 w)(hb:Below w.heap.size w w'):C4 z t0 t1 t2 t3 w':=by
 obtain ⟨a,b,c,d⟩:=h;exact ⟨(hb.cell (p:=⟨z,0,none⟩) (l_ a)).trans a,(hb.cell (p:=⟨z,1,none⟩) (l_ b)).trans b,(hb.cell (p:=⟨z,2,none⟩) (l_ c)).trans c,(hb.cell (p:=⟨z,3,none⟩) (l_ d)).trans d⟩
abbrev B5 (x y z:Nat)(v0 v1 v2 u0 u1 u2 u3 t0 t1 t2 t3:Value)(w:World):Prop:=Box34 x y v0 v1 v2 u0 u1 u2 u3 w∧C4 z t0 t1 t2 t3 w
theorem B5.below {x y z:Nat}{v0 v1 v2 u0 u1 u2 u3 t0 t1 t2 t3:Value}{w w':World}(h:B5 x y z v0 v1 v2 u0 u1 u2 u3 t0 t1 t2 t3 w)(hb:Below w.heap.size w w'):B5 x y z v0 v1 v2 u0 u1 u2 u3 t0 t1 t2 t3 w':=⟨h.1.below hb,C4.below h.2 hb⟩
theorem c115_{p:Prop}(h:p:=by
 (try dsimp only);first|(with_reducible exact am.out)|(with_reducible exact an.out)|(with_reducible exact ao.out)|(with_reducible exact ab.out)|(with_reducible exact aj.out)
):p:=h
theorem c116_{p:Prop}(h:p:=by
 (try dsimp only);first|(with_reducible exact b4.out)|(with_reducible exact b5.out)
):p:=h
theorem c117_{p:Prop}(h:p:=by
 (try dsimp only);first|(with_reducible exact ca.out)|(with_reducible exact cc.out)
):p:=h
theorem c118_{p:Prop}(h:p:=by
 (try dsimp only);first|(with_reducible exact cg.out)|(with_reducible exact ch.out)
):p:=h
set_option maxHeartbeats 8000000 in
theorem go (P:List (List UInt8))(Q:List (Int×Int))(O:List OpM)(va vb vc:Value)(t s:TermM)(vt vs:Value)(σ:List BindM)(lv:Value)(w:World)(h:HasG w va vb vc P Q O)(hl:HasBs n 0 w lv σ)(ht:HasTs n 0 w vt t.args)(hs:HasTs n 0 w vs s.args)(aZ:Bnd t)(a6:Bnd s):
  Calls Tryz.prog 4 #[.agg #[va,vb,vc],aggT t vt,aggT s vs,lv] w fun e w'=>e=.returned (.bool true)∧Below w.heap.size w w':=by
 have cl:=z_ (fun W (hW:Below w.heap.size w W)=>qiv P Q O va vb vc W (h.below n_ hW));have a7:=z_ (fun W (hW:Below w.heap.size w W) r (h0:0≤r) (h1:r≤1048576)=>qer t.op t.name t.sort t.args vt W aZ.1 (ht.below n_ hW) r h0 h1);have a8:=z_ (fun W (hW:Below w.heap.size w W) r (h0:0≤r) (h1:r≤1048576)=>qer s.op s.name s.sort s.args vs W a6.1 (hs.below n_ hW) r h0 h1);have cm:=z_ (fun W (hW:Below w.heap.size w W) r (h0:0≤r) (h1:r≤1048576)=>qzx σ lv W (hl.below n_ hW) r h0 h1);have bu:=z_ (fun W (hW:Below w.heap.size w W) (hs:bsz σ≤1048576)=>qA0 σ lv W (hl.below n_ hW) hs);have du:=z_ (fun v1 v2 W n1 n2 lo lo' (h1:HasBs n1 lo W v1 σ) (h2:HasBs n2 lo' W v2 σ)=>qA1 σ v1 v2 W h1 h2);have aG:=z_ (fun W (hW:Below w.heap.size w W) (hs:(Small P∧Q.length≤1048576)∧SmO O)=>qjn P Q O hs va vb vc W (h.below n_ hW));have aH:=z_ (fun W (hW:Below w.heap.size w W) (hs:qa2 t.args≤1048576)=>qes t.op t.name t.sort t.args hs vt W (ht.below n_ hW));have aI:=z_ (fun W (hW:Below w.heap.size w W) (dw:qa2 s.args≤1048576)=>qes s.op s.name s.sort s.args dw vs W (hs.below n_ hW));obtain ⟨z,hz⟩:=x_ (qol P Q O t s σ);have ba:Hid (∀ v1 v2 v3 v4 v5 v6 W,HasG W v1 v2 v3 P Q O→HasTs (n+1) 0 W v4 t.args→HasTs (n+1) 0 W v5 s.args→HasBs (n+1) 0 W v6 σ→qa2 t.args≤1048576→qa2 s.args≤1048576→bsz σ≤1048576→Calls Tryz.prog 22 #[.agg #[v1,v2,v3],aggT t v4,aggT s v5,v6] W fun e w'=>e=.returned (.bool z)∧Below W.heap.size W w'):=z_ (fun v1 v2 v3 v4 v5 v6 W hG h1 h2 hb h3 h4 h5=>qzw P Q O v1 v2 v3 t s v4 v5 σ v6 W hG h1 aZ h3 h2 a6 h4 hb h5 z hz);have bb:Hid (∀ v1 v2 v3 v4 v5 v6 W,HasG W v1 v2 v3 P Q O→HasTs (n+1) 0 W v4 t.args→HasTs (n+1) 0 W v5 s.args→HasBs (n+1) 0 W v6 σ→qa2 t.args≤1048576→qa2 s.args≤1048576→bsz σ≤1048576→(∀ m,PlA m W v4 t.args)→Calls Tryz.prog 23 #[.agg #[v1,v2,v3],aggT t v4,aggT s v5,v6] W fun e w'=>e=.returned (.bool z)∧Below W.heap.size W w'):=z_ (fun v1 v2 v3 v4 v5 v6 W hG h1 h2 hb h3 h4 h5 h6=>qzv P Q O v1 v2 v3 t s v4 v5 σ v6 W hG h1 aZ h3 h6 h2 a6 h4 hb h5 z hz);have dx:=z_ (fun v1 v2 v3 u1 u2 u3 W (h1:HasG W v1 v2 v3 P Q O) (h2:HasG W u1 u2 u3 P Q O)=>qhr P Q O v1 v2 v3 u1 u2 u3 W h1 h2)
 have cn:=z_ (fun v1 v2 W lo lo' (hW:HasTs (n+1) lo W v1 t.args) (bv:HasTs (n+1) lo' W v2 t.args)=>qet t.op t.name t.sort t.args v1 v2 W hW bv);have co:=z_ (fun v1 v2 W lo lo' (hW:HasTs (n+1) lo W v1 s.args) (bv:HasTs (n+1) lo' W v2 s.args)=>qet s.op s.name s.sort s.args v1 v2 W hW bv);obtain ⟨B1,d1,rfl,_⟩:=HasR.shape ht rfl;obtain ⟨B2,d2,rfl,_⟩:=HasR.shape hs rfl;obtain ⟨ml,bw⟩:=e_ (σ.length);obtain ⟨AL,cL,rfl,_⟩:=HasR.shape hl bw.symm
 have bx:Hid (∀ {W n1 lo v},HasBs n1 lo W v σ→(∃ A c,v=.slice A ml c)∧HasBs n1 0 W v σ):=z_ (fun h=>by
  obtain ⟨A,c,e,_⟩:=HasR.shape h bw.symm
  exact ⟨⟨A,c,e⟩,HasR.mono (qcv _) h y_⟩)
 obtain ⟨A1,c1,A2,c2,A3,c3,rfl,rfl,rfl,_⟩:=h.shape
 have bc:Hid (∀ {W v1 v2 v3},HasG W v1 v2 v3 P Q O→∃ A1 c1 A2 c2 A3 c3,v1=.slice A1 P.length c1∧v2=.slice A2 Q.length c2∧v3=.slice A3 O.length c3):=z_ (fun h=>by
  obtain ⟨A1,c1,A2,c2,A3,c3,e1,e2,e3,_⟩:=h.shape
  exact ⟨A1,c1,A2,c2,A3,c3,e1,e2,e3⟩)
 have bd:Hid (∀ {W lo v S},OT 38 (n+1) lo W v t.args S→∃ A c,v=.slice A t.args.length c):=z_ (fun h=>OT.shape h);have be:Hid (∀ {W lo v S},OT 38 (n+1) lo W v s.args S→∃ A c,v=.slice A s.args.length c):=z_ (fun h=>OT.shape h);have aq:Hid (∀ {W lo v S} {L:List TermM},OT 38 (n+1) lo W v L S→HasTs (n+1) 0 W v L∧∀ m,PlA m W v L):=z_ (fun h=>⟨h.has.mono (qa7 _) y_,fun m=>qrp _ m h⟩);unfold aggT at ba bb ⊢;obtain ⟨l1,cp⟩:=e_ (t.args.length);obtain ⟨o1,cq⟩:=e_ (t.op);obtain ⟨n1,ct⟩:=e_ (t.name);obtain ⟨s1,cu⟩:=e_ (t.sort);obtain ⟨l2,cv⟩:=e_ (s.args.length);obtain ⟨o2,cw⟩:=e_ (s.op);obtain ⟨n2,cx⟩:=e_ (s.name);obtain ⟨s2,cy⟩:=e_ (s.sort);obtain ⟨m1,bz⟩:=e_ (P.length);obtain ⟨m2,bA⟩:=e_ (Q.length);obtain ⟨m3,bB⟩:=e_ (O.length);rw [← cp] at a7 aH bd ⊢;rw [← cv] at a8 aI be ⊢;rw [← cq,← ct,← cu] at a7 aH ba bb cn ⊢;rw [← cw,← cx,← cy] at a8 aI ba bb co ⊢;obtain ⟨cz,au⟩:∃ p:Prop,p=((Small P∧Q.length≤1048576)∧SmO O):=⟨_,rfl⟩;rw [← au] at aG
 have bC:Hid (∀ W,Below w.heap.size w W→Calls Tryz.prog 7 #[.agg #[.slice A1 m1 c1,.slice A2 m2 c2,.slice A3 m3 c3],.int .i64 1048576] W fun e w'=>∃ r:Int,e=.returned (.int .i64 r)∧(0≤r→cz)∧r≤1048576∧Below W.heap.size W w'):=z_ (fun W hW=>by
  rw [bz,bA,bB];refine (cl.out W hW).mono ?_;rintro e w' ⟨r,rfl,hr,dP,bf,hb⟩
  exact ⟨r,rfl,fun h=>by rw [au];exact hr h,bf,hb⟩)
 rw [← bz,← bA,← bB] at aG bc ⊢;clear h ht hs hl bw aZ a6 hz cp cq ct cu cv cw cx cy bz bA bB cl au;obtain ⟨W0,aC⟩:=e_ ((w.alloc (.cells #[.slice A1 m1 c1,.slice A2 m2 c2,.slice A3 m3 c3] 28)).alloc (.cells #[.int .i64 o1,.string (bstr n1),.int .i64 s1,.slice B1 l1 d1] 32));obtain ⟨W,hW⟩:=e_ (W0.alloc (.cells #[.int .i64 o2,.string (bstr n2),.int .i64 s2,.slice B2 l2 d2] 32));have dy:W0.heap.size=w.heap.size+2:=by rw [aC];simp
 have av:=fr1_ hW;have cA:Below w.heap.size w W:=by
  rw [hW,aC];exact v_
 have cB:B5 w.heap.size (w.heap.size+1) (w.heap.size+2) (.slice A1 m1 c1) (.slice A2 m2 c2) (.slice A3 m3 c3) (.int .i64 o1) (.string (bstr n1)) (.int .i64 s1) (.slice B1 l1 d1) (.int .i64 o2) (.string (bstr n2)) (.int .i64 s2) (.slice B2 l2 d2) W:=
  ⟨⟨box3 ((av.block _ o_).trans (by rw [aC];exact qbd _ _ _)),box4 ((av.block _ o_).trans (by rw [aC];exact termt.qa5 _ _ _ (by simp)))⟩,box4 (by rw [hW];exact termt.qa5 _ _ _ o_)⟩
 have HX:=z_ cB;have bg:=z_ cA;clear cA av cB dy;obtain ⟨⟨⟨x0,x1,x2⟩,_⟩,_⟩:=HX.out;go_enter Tryz.func4,Tryz.ntmps4
 go_upto_region 2 with fail
 rw [aC] at hW;rw [← hW];clear hW aC;go_wp2_with fail
 refine (bC.out _ bg.out).mono ?_;rintro e w1 ⟨r,rfl,hr,bf,av⟩;have aJ:=z_ (bg.out.trans (av.mono bg.out.size));have bD:=z_ (B5.below HX.out av);have HR:=z_ hr;clear av HX bg hr x0 x1 x2;by_cases dz:r<0
 ·go_wp2
  go_ret;exact ⟨rfl,aJ.out⟩
 obtain ⟨⟨_,y0,y1,y2,y3⟩,_⟩:=bD.out;go_wp2_with fail
 refine (a7.out _ aJ.out r o_ bf).mono ?_;rintro e w2 ⟨r',rfl,cC,bE,aK,bF⟩;have aL:=z_ (aJ.out.trans (bF.mono aJ.out.size));have bG:=z_ (B5.below bD.out bF);have cD:=z_ cC;clear bF y0 y1 y2 y3 bD aJ cC;by_cases cE:r'<0
 ·go_wp2
  go_ret;exact ⟨rfl,aL.out⟩
 obtain ⟨_,y0,y1,y2,y3⟩:=bG.out;go_wp2_with fail
 refine (a8.out _ aL.out r' o_ aK).mono ?_;rintro e w3 ⟨r3,rfl,cF,bH,aM,bI⟩;have ah:=z_ (aL.out.trans (bI.mono aL.out.size));have aD:=z_ (B5.below bG.out bI);have cG:=z_ cF;clear bI y0 y1 y2 y3 bG aL cF;by_cases cH:r3<0
 ·go_wp2
  go_ret;exact ⟨rfl,ah.out⟩
 go_wp2_with fail
 refine (cm.out _ ah.out r3 o_ aM).mono ?_;rintro e bJ ⟨r4,rfl,cI,bK,bL,aw⟩;have cJ:=z_ (ah.out.trans (aw.mono ah.out.size));have cK:=z_ (B5.below aD.out aw);have cM:=z_ cI;clear aw aD ah cI;have ah:=z_ cJ.out;have aD:=z_ cK.out;clear cJ cK;by_cases cN:r4<0
 ·go_wp2
  go_ret;exact ⟨rfl,ah.out⟩
 have aa:Hid (cz∧qa2 t.args≤1048576∧qa2 s.args≤1048576∧bsz σ≤1048576):=z_ ⟨HR.out o_,by have:=cD.out o_;omega,by have:=cG.out o_;omega,by have:=cM.out o_;omega⟩;clear HR cD cG cM bE aK bf bH aM bK bL a7 a8 cm;go_wp2_with fail
 refine wp_region_noPanic ?_;refine wp_region_held_drew (S:=(B5 w.heap.size (w.heap.size+1) (w.heap.size+2) (.slice A1 m1 c1) (.slice A2 m2 c2) (.slice A3 m3 c3) (.int .i64 o1) (.string (bstr n1)) (.int .i64 s1) (.slice B1 l1 d1) (.int .i64 o2) (.string (bstr n2)) (.int .i64 s2) (.slice B2 l2 d2))) k_ ?_ (fun ac=>?_)
 ·exact aD.out
 refine t_k 0 ?_;refine t_k 2 ?_;refine t_k 4 ?_;refine t_k 6 ?_;refine r_d [1] ?_;refine c_s (fun K hK=>?_) ?_
 ·(go_simp;refine (aG.out bJ.drew ah.out.drew aa.out.1).mono ?_;rintro e w4 ⟨v1,v2,v3,rfl,hG,aw⟩;obtain ⟨D1,e1,D2,e2,D3,e3,rfl,rfl,rfl⟩:=bc.out hG;have am:=z_ (B5.below (w:=bJ.drew) (show B5 w.heap.size (w.heap.size+1) (w.heap.size+2) (.slice A1 m1 c1) (.slice A2 m2 c2) (.slice A3 m3 c3) (.int .i64 o1) (.string (bstr n1)) (.int .i64 s1) (.slice B1 l1 d1) (.int .i64 o2) (.string (bstr n2)) (.int .i64 s2) (.slice B2 l2 d2) bJ.drew from aD.out) aw);have bh:=z_ ((ah.out.drew).trans (aw.mono (ah.out.drew).size));have cO:=z_ hG;clear hG aw;(try dsimp only))
  refine k_o hK ?_ (fun ad=>?_)
  ·exact c115_
  clear hK K ac;refine r_d [3] ?_;refine c_s (fun K hK=>?_) ?_
  ·(go_simp;refine (aH.out w4 bh.out aa.out.2.1).mono ?_;rintro e w5 ⟨v4,S4,rfl,ho,bi⟩;obtain ⟨E1,k1,rfl⟩:=bd.out ho;have an:=z_ (B5.below (w:=w4) am.out bi);have bj:=z_ ((bh.out).trans (bi.mono (bh.out).size));have cP:=z_ (cO.out.below n_ bi);have cQ:=z_ (aq.out ho).1;clear ho bi;(try dsimp only))
   refine k_o hK ?_ (fun ae=>?_)
   ·exact c115_
   clear hK K ad;refine r_d [5] ?_;refine c_s (fun K hK=>?_) ?_
   ·(go_simp;refine (aI.out w5 bj.out aa.out.2.2.1).mono ?_;rintro e w6 ⟨v5,S5,rfl,ho,aN⟩;obtain ⟨E2,k2,rfl⟩:=be.out ho;have ao:=z_ (B5.below (w:=w5) an.out aN);have bk:=z_ ((bj.out).trans (aN.mono (bj.out).size));have cR:=z_ (cP.out.below n_ aN);have cS:=z_ (cQ.out.below n_ aN);have cT:=z_ (aq.out ho).1;clear ho aN;(try dsimp only))
    refine k_o hK ?_ (fun ak=>?_)
    ·exact c115_
    clear hK K ae;refine r_d [7] ?_;refine c_s (fun K hK=>?_) ?_
    ·(go_simp;refine (bu.out w6 bk.out aa.out.2.2.2).mono ?_;rintro e cU ⟨v6,rfl,ho,ag⟩;obtain ⟨⟨E3,k3,rfl⟩,cV⟩:=bx.out ho;have ab:=z_ (B5.below (w:=w6) ao.out ag);have ax:=z_ ((bk.out).trans (ag.mono (bk.out).size));have aO:=z_ (cR.out.below n_ ag);have aP:=z_ (cS.out.below n_ ag);have aQ:=z_ (cT.out.below n_ ag);have aR:=z_ cV;clear ho cV ag;(try dsimp only))
     refine k_o hK ?_ (fun bM=>?_)
     ·exact c115_
     clear hK K ak;refine r_d [8] ?_;refine c_s (fun K hK=>?_) ?_
     ·(go_simp;refine (ba.out _ _ _ _ _ _ cU aO.out aP.out aQ.out aR.out aa.out.2.1 aa.out.2.2.1 aa.out.2.2.2).mono ?_;rintro e w7 ⟨rfl,bN⟩;have aj:=z_ (B5.below (w:=cU) ab.out bN);have aE:=z_ ((ax.out).trans (bN.mono (ax.out).size));clear bN;(try dsimp only))
      refine k_o hK ?_ (fun bO=>?_)
      ·exact c115_
      clear hK K bM;refine r_d [9] ?_;refine c_s (fun K hK=>?_) ?_
      ·go_simp
       refine k_o hK ?_ (fun dA=>?_)
       ·exact c115_
       clear hK K bO;refine wpAnyH_done k_ ?_ _;refine NoPanic.normal ?_;clear cO cP cR cQ cS cT am an ao bh bj bk aD ah aO aP aQ aR ab ax;obtain ⟨⟨⟨x0,x1,x2⟩,y0,y1,y2,y3⟩,t0,t1,t2,t3⟩:=aj.out;go_wp2_with fail
       refine (aG.out w7 aE.out aa.out.1).mono ?_;rintro e wa ⟨v5,v6,v7,rfl,hG,bl⟩;obtain ⟨F1,f1,F2,f2,F3,f3,rfl,rfl,rfl⟩:=bc.out hG;obtain ⟨Wa,aS⟩:=e_ (wa.alloc (.cells #[.slice F1 m1 f1,.slice F2 m2 f2,.slice F3 m3 f3] 46));have bm:=fr1_ aS;have cW:=fr2_ aS;have dQ:=fr3_ aS;have bn:=z_ ((aE.out.trans (bl.mono aE.out.size)).trans (bm.mono (aE.out.trans (bl.mono aE.out.size)).size));have bP:=z_ (B5.below (B5.below aj.out bl) bm);have cX:=z_ (hG.below n_ bm);have cY:=z_ cW;clear hG bl bm cW x0 x1 x2 y0 y1 y2 y3 t0 t1 t2 t3;obtain ⟨⟨_,y0,y1,y2,y3⟩,_⟩:=bP.out;go_upto_region 16 with fail
       rw [← aS];clear aS;go_wp2_with fail
       refine (aH.out Wa bn.out aa.out.2.1).mono ?_;rintro e wb ⟨v8,S8,rfl,bQ,bo⟩;obtain ⟨G1,g1,rfl⟩:=bd.out bQ;obtain ⟨Wb,aT⟩:=e_ (wb.alloc (.cells #[.int .i64 o1,.string (bstr n1),.int .i64 s1,.slice G1 l1 g1] 38));have bR:=fr1_ aT;have cZ:=fr2_ aT;have dR:=fr3_ aT;have ai:=bo.trans (bR.mono bo.size);have bp:=z_ (bn.out.trans (ai.mono bn.out.size));have bS:=z_ (B5.below bP.out ai);have c0:=z_ (cX.out.below n_ ai);have bT:=z_ (And.intro ((ai.block _ o_).trans cY.out) cZ);have c4:=z_ (bQ.below bR);have dB:wa.heap.size+1≤wb.heap.size:=by have:=bo.size;omega
       clear bQ bo bR cZ ai y0 y1 y2 y3;obtain ⟨_,t0,t1,t2,t3⟩:=bS.out;go_upto_region 17 with fail
       rw [← aT];clear aT;go_wp2_with fail
       refine (aI.out Wb bp.out aa.out.2.2.1).mono ?_;rintro e wc ⟨v9,S9,rfl,bU,bV⟩;obtain ⟨G2,g2,rfl⟩:=be.out bU;obtain ⟨Wc,bq⟩:=e_ (wc.alloc (.cells #[.int .i64 o2,.string (bstr n2),.int .i64 s2,.slice G2 l2 g2] 38));have bW:=fr1_ bq;have c5:=fr2_ bq;have af:=bV.trans (bW.mono bV.size);have br:=z_ (bp.out.trans (af.mono bp.out.size));have c6:=z_ (B5.below bS.out af);have c7:=z_ (c0.out.below n_ af);have c8:=z_ (c4.out.below af);have c9:=z_ (bU.below bW);have da:Hid (B5 wa.heap.size wb.heap.size wc.heap.size (.slice F1 m1 f1) (.slice F2 m2 f2) (.slice F3 m3 f3) (.int .i64 o1) (.string (bstr n1)) (.int .i64 s1) (.slice G1 l1 g1) (.int .i64 o2) (.string (bstr n2)) (.int .i64 s2) (.slice G2 l2 g2) Wc):=z_ ⟨⟨box3 ((af.block _ o_).trans bT.out.1),box4 ((af.block _ o_).trans bT.out.2)⟩,box4 c5⟩;clear bU bV bW c5 af t0 t1 t2 t3;go_upto_region 18 with fail
       rw [← bq];clear bq;go_wp2_with fail
       refine (bu.out Wc br.out aa.out.2.2.2).mono ?_;rintro e wx ⟨vx,rfl,db,ay⟩;obtain ⟨⟨G3,g3,rfl⟩,aU⟩:=bx.out db;have bX:=z_ (br.out.trans (ay.mono br.out.size));have dc:=z_ (B5.below c6.out ay);have bY:=z_ (B5.below da.out ay);have bZ:=z_ (c7.out.below n_ ay);have bs:=z_ (c8.out.below ay);have b0:=z_ (c9.out.below ay);have b1:=z_ aU;clear db aU ay br c6 da c7 c8 c9;obtain ⟨⟨⟨x0,x1,x2⟩,y0,y1,y2,y3⟩,t0,t1,t2,t3⟩:=bY.out;go_wp2_with fail
       refine (bb.out _ _ _ _ _ _ wx bZ.out (aq.out bs.out).1 (aq.out b0.out).1 b1.out aa.out.2.1 aa.out.2.2.1 aa.out.2.2.2 (aq.out bs.out).2).mono ?_;rintro e wd ⟨rfl,ap⟩;have b2:=z_ (bX.out.trans (ap.mono bX.out.size));have dd:=z_ (B5.below dc.out ap);have de:=z_ (B5.below bY.out ap);have dC:=z_ (bZ.out.below n_ ap);have dD:=z_ ((aq.out bs.out).1.below n_ ap);have dE:=z_ ((aq.out b0.out).1.below n_ ap);have dF:=z_ (b1.out.below n_ ap);have nz:(z != z)=false:=by simp
       clear ap x0 x1 x2 y0 y1 y2 y3 t0 t1 t2 t3 bn bP cX cY bp bS c0 bT c4 bX dc bZ bs b0 bY b1 aj aE;go_wp2_with fail
       refine wp_region_noPanic ?_;refine wp_region_held_drew (S:=(fun w'=>B5 wa.heap.size wb.heap.size wc.heap.size (.slice F1 m1 f1) (.slice F2 m2 f2) (.slice F3 m3 f3) (.int .i64 o1) (.string (bstr n1)) (.int .i64 s1) (.slice G1 l1 g1) (.int .i64 o2) (.string (bstr n2)) (.int .i64 s2) (.slice G2 l2 g2) w'∧B5 w.heap.size (w.heap.size+1) (w.heap.size+2) (.slice A1 m1 c1) (.slice A2 m2 c2) (.slice A3 m3 c3) (.int .i64 o1) (.string (bstr n1)) (.int .i64 s1) (.slice B1 l1 d1) (.int .i64 o2) (.string (bstr n2)) (.int .i64 s2) (.slice B2 l2 d2) w')) k_ ?_ (fun ac=>?_)
       ·exact ⟨de.out,dd.out⟩
       refine t_k 0 ?_;refine t_k 1 ?_;refine r_d [2] ?_;refine c_s (fun K hK=>?_) ?_
       ·(go_simp;refine (aG.out wd.drew b2.out.drew aa.out.1).mono ?_;rintro e we ⟨u1,u2,u3,rfl,b3,az⟩;obtain ⟨J1,j1,J2,j2,J3,j3,rfl,rfl,rfl⟩:=bc.out b3;have df:=z_ (B5.below (w:=wd.drew) dd.out az);have dg:=z_ (B5.below (w:=wd.drew) de.out az);have b4:=z_ (And.intro dg.out df.out);have dh:=z_ (b2.out.drew.trans (az.mono b2.out.size));(try dsimp only))
        refine k_o hK ?_ (fun ad=>?_)
        ·exact c116_
        clear hK K ac;refine r_d [3] ?_;refine c_s (fun K hK=>?_) ?_
        ·(go_simp;refine (dx.out _ _ _ _ _ _ we ((dC.out.below n_ b_.drew).below n_ az) b3).mono ?_;rintro e wf ⟨rfl,aV⟩;have b6:=z_ (B5.below df.out aV);have b7:=z_ (B5.below dg.out aV);have b5:=z_ (And.intro b7.out b6.out);have b8:=z_ (dh.out.trans (aV.mono dh.out.size));have al:=(Below.refl wd.heap.size wd).drew.trans (az.trans (aV.mono az.size));(try dsimp only))
         refine k_o hK ?_ (fun ae=>?_)
         ·exact c116_
         clear hK K ad;refine r_d [4] ?_;refine c_s (fun K hK=>?_) ?_
         ·go_simp
          refine k_o hK ?_ (fun ak=>?_)
          ·exact c116_
          clear hK K ae;refine wpAnyH_done k_ ?_ _;refine NoPanic.normal ?_;have dG:=z_ (dD.out.below n_ al);have dH:=z_ (dE.out.below n_ al);have dI:=z_ (dF.out.below n_ al);clear al az aV b3;go_wp2_with fail
          refine wp_region_noPanic ?_;refine wp_region_held_drew (S:=(fun w'=>B5 wa.heap.size wb.heap.size wc.heap.size (.slice F1 m1 f1) (.slice F2 m2 f2) (.slice F3 m3 f3) (.int .i64 o1) (.string (bstr n1)) (.int .i64 s1) (.slice G1 l1 g1) (.int .i64 o2) (.string (bstr n2)) (.int .i64 s2) (.slice G2 l2 g2) w'∧B5 w.heap.size (w.heap.size+1) (w.heap.size+2) (.slice A1 m1 c1) (.slice A2 m2 c2) (.slice A3 m3 c3) (.int .i64 o1) (.string (bstr n1)) (.int .i64 s1) (.slice B1 l1 d1) (.int .i64 o2) (.string (bstr n2)) (.int .i64 s2) (.slice B2 l2 d2) w')) k_ ?_ (fun ac=>?_)
          ·exact ⟨b7.out,b6.out⟩
          refine t_k 0 ?_;refine t_k 1 ?_;refine r_d [2] ?_;refine c_s (fun K hK=>?_) ?_
          ·(go_simp;refine (aH.out wf.drew b8.out.drew aa.out.2.1).mono ?_;rintro e wg ⟨vg,Sg,rfl,b9,aA⟩;obtain ⟨K1,q1,rfl⟩:=bd.out b9;have di:=z_ (B5.below (w:=wf.drew) b6.out aA);have dj:=z_ (B5.below (w:=wf.drew) b7.out aA);have ca:=z_ (And.intro dj.out di.out);have dk:=z_ (b8.out.drew.trans (aA.mono b8.out.size));(try dsimp only))
           refine k_o hK ?_ (fun ad=>?_)
           ·exact c117_
           clear hK K ac;refine r_d [3] ?_;refine c_s (fun K hK=>?_) ?_
           ·(go_simp;refine (cn.out _ _ wg _ _ ((dG.out.below n_ b_.drew).below n_ aA) b9.has).mono ?_;rintro e wh ⟨rfl,aW⟩;have cd:=z_ (B5.below di.out aW);have ce:=z_ (B5.below dj.out aW);have cc:=z_ (And.intro ce.out cd.out);have cf:=z_ (dk.out.trans (aW.mono dk.out.size));have aB:=(Below.refl wf.heap.size wf).drew.trans (aA.trans (aW.mono aA.size));(try dsimp only))
            refine k_o hK ?_ (fun ae=>?_)
            ·exact c117_
            clear hK K ad;refine r_d [4] ?_;refine c_s (fun K hK=>?_) ?_
            ·go_simp
             refine k_o hK ?_ (fun ak=>?_)
             ·exact c117_
             clear hK K ae;refine wpAnyH_done k_ ?_ _;refine NoPanic.normal ?_;have dJ:=z_ (dH.out.below n_ aB);have dK:=z_ (dI.out.below n_ aB);clear aB aA aW b9;go_wp2_with fail
             refine wp_region_noPanic ?_;refine wp_region_held_drew (S:=(fun w'=>B5 wa.heap.size wb.heap.size wc.heap.size (.slice F1 m1 f1) (.slice F2 m2 f2) (.slice F3 m3 f3) (.int .i64 o1) (.string (bstr n1)) (.int .i64 s1) (.slice G1 l1 g1) (.int .i64 o2) (.string (bstr n2)) (.int .i64 s2) (.slice G2 l2 g2) w'∧B5 w.heap.size (w.heap.size+1) (w.heap.size+2) (.slice A1 m1 c1) (.slice A2 m2 c2) (.slice A3 m3 c3) (.int .i64 o1) (.string (bstr n1)) (.int .i64 s1) (.slice B1 l1 d1) (.int .i64 o2) (.string (bstr n2)) (.int .i64 s2) (.slice B2 l2 d2) w')) k_ ?_ (fun ac=>?_)
             ·exact ⟨ce.out,cd.out⟩
             refine t_k 0 ?_;refine t_k 1 ?_;refine r_d [2] ?_;refine c_s (fun K hK=>?_) ?_
             ·(go_simp;refine (aI.out wh.drew cf.out.drew aa.out.2.2.1).mono ?_;rintro e wi ⟨vi,Si,rfl,dl,aF⟩;obtain ⟨K2,q2,rfl⟩:=be.out dl;have dm:=z_ (B5.below (w:=wh.drew) cd.out aF);have dn:=z_ (B5.below (w:=wh.drew) ce.out aF);have cg:=z_ (And.intro dn.out dm.out);have dp:=z_ (cf.out.drew.trans (aF.mono cf.out.size));(try dsimp only))
              refine k_o hK ?_ (fun ad=>?_)
              ·exact c118_
              clear hK K ac;refine r_d [3] ?_;refine c_s (fun K hK=>?_) ?_
              ·(go_simp;refine (co.out _ _ wi _ _ ((dJ.out.below n_ b_.drew).below n_ aF) dl.has).mono ?_;rintro e wj ⟨rfl,bt⟩;have dL:=z_ (B5.below dm.out bt);have dM:=z_ (B5.below dn.out bt);have ch:=z_ (And.intro dM.out dL.out);have ci:=z_ (dp.out.trans (bt.mono dp.out.size));have aX:=(Below.refl wh.heap.size wh).drew.trans (aF.trans (bt.mono aF.size));(try dsimp only))
               refine k_o hK ?_ (fun ae=>?_)
               ·exact c118_
               clear hK K ad;refine r_d [4] ?_;refine c_s (fun K hK=>?_) ?_
               ·go_simp
                refine k_o hK ?_ (fun ak=>?_)
                ·exact c118_
                clear hK K ae;refine wpAnyH_done k_ ?_ _;refine NoPanic.normal ?_;have dN:=z_ (dK.out.below n_ aX);clear aX;go_wp2_with fail
                refine (bu.out wj ci.out aa.out.2.2.2).mono ?_;rintro e wk ⟨vk,rfl,dq,cj⟩;obtain ⟨⟨K4,q4,rfl⟩,aY⟩:=bx.out dq;have dr:=z_ (ci.out.trans (cj.mono ci.out.size));have ck:=z_ (And.intro (dN.out.below n_ cj) aY);clear dq aY cj;go_wp2_with fail
                refine (du.out _ _ wk _ _ _ _ ck.out.1 ck.out.2).mono ?_;rintro e wl ⟨rfl,dt⟩;have dO:=z_ (dr.out.trans (dt.mono dr.out.size));clear dt ck;go_wp2;go_ret;exact ⟨rfl,dO.out⟩
               exact a_l
              exact a_l
             exact a_l
            exact a_l
           exact a_l
          exact a_l
         exact a_l
        exact a_l
       exact a_l
      exact a_l
     exact a_l
    exact a_l
   exact a_l
  exact a_l
 exact a_l
theorem walk{H:Type}{enc:TypeId×Value→H}{W:World}{base base' aa:Nat}{v' af:Value}{d d' aj:DataW H}{p p' ai:List MemPlace}(ag:Value.okWide Tryz.prog W .any base 28 v)(hd:DataW.Trod enc Tryz.prog W 0 (fun _=>true) true 28 v d p)(_hlt:∀ x∈p,x.block<W.heap.size)(ac:Value.okWide Tryz.prog W .any base' 32 v')(ak:DataW.Trod enc Tryz.prog W 0 (fun _=>true) true 32 v' d' p')(_hlt':∀ x∈p',x.block<W.heap.size)(ab:Value.okWide Tryz.prog W .any aa 32 af)(ah:DataW.Trod enc Tryz.prog W 0 (fun _=>true) true 32 af aj ai)(_hlt'':∀ x∈ai,x.block<W.heap.size){ad:Nat}{v3:Value}{d3:DataW H}{p3:List MemPlace}(ae:Value.okWide Tryz.prog W .any ad 29 v3)(al:DataW.Trod enc Tryz.prog W 0 (fun _=>true) true 29 v3 d3 p3)(_hlt3:∀ x∈p3,x.block<W.heap.size):
  Calls Tryz.prog 4 #[v,v',af,v3] W fun e w'=>e=.returned (.bool true)∧Below W.heap.size W w':=by
 obtain ⟨va,vb,vc,P,Q,O,rfl,h⟩:=sigo.qC3 ag hd;obtain ⟨n,t,vt,rfl,ht,hB⟩:=termop.qra ac ak;obtain ⟨m,s,vs,rfl,hs,am⟩:=termop.qra ab ah;obtain ⟨k,L,hl⟩:=bndop.qxe ae al;exact go (n:=max (max n m) k) P Q O va vb vc t s vt vs L v3 W h (hl.up o_) (ht.up o_) (hs.up o_) hB am
end fnExactIsMatch
end Go.Proofs.YtiilamngcoegiaaGreat
