/- parts -/
import Derived.Test.YtiilamngcoegiaaGreatSapp
import Derived.Test.YtiilamngcoegiaaGreatPk23
namespace Go.Proofs.YtiilamngcoegiaaGreat
open Go.ChangeShapes Go.WideShapes Go.ChangeAt Go.RowKit
namespace insm
open sorti sigm rowl trm terml termb frm gram gramk gramc gramt formnd formf formm tmm tmg tmc bndl insn sapp
theorem qkh {F F':TermM→List TermM→Option TermM}(D G:TermM→Prop)(hD:∀ t,D t→∀ a∈t.args,D a)(hF:∀ t zs u,D t→F t zs=some u→(∀ a∈zs,G a)→G u)(he:∀ t zs,D t→(∀ a∈zs,G a)→F t zs=F' t zs):∀ t,D t→rebM F t=rebM F' t∧(∀ u,rebM F t=some u→G u):=by
 refine TermM.ind (fun o n s l ih hd=>?_);have aa:∀ l:List TermM,(∀ t∈l,rebM F t=rebM F' t∧(∀ u,rebM F t=some u→G u))→rebL F l=rebL F' l∧∀ zs,rebL F l=some zs→∀ a∈zs,G a:=by
  intro l;induction l with
  | nil=>intro _;exact ⟨rfl,fun zs h a ha=>by simp [rebL] at h;subst h;simp at ha⟩
  | cons b l ab=>
   intro hl;obtain ⟨q1,q2⟩:=ab (fun t ht=>hl t (by simp [ht]));obtain ⟨p1,p2⟩:=hl b (by simp);rw [rebL,rebL,← p1,← q1];refine ⟨rfl,fun zs h a ha=>?_⟩;cases h1:rebM F b with
   | none=>rw [h1] at h;cases h
   | some x=>
    cases h2:rebL F l with
    | none=>rw [h1,h2] at h;cases h
    | some q=>
     rw [h1,h2] at h;simp at h;subst h;rcases List.mem_cons.1 ha with rfl|ha
     ·exact p2 _ h1
     ·exact q2 _ h2 _ ha
 obtain ⟨k1,k2⟩:=aa l (fun t ht=>ih t ht (hD _ hd t ht));rw [qp9,qp9,← k1];cases h:rebL F l with
 | none=>exact ⟨rfl,fun u h=>by cases h⟩
 | some zs=>exact ⟨he _ _ hd (k2 zs h),fun u hu=>hF _ _ _ hd hu (k2 zs h)⟩
section
variable {P:List (List UInt8)} {Q:List (Int×Int)} {O:List OpM}
theorem qo1 {t a:TermM}(h:qbx (grM P Q O) t)(ha:a∈t.args):qbx (grM P Q O) a:=⟨qvi h.1 ha,((qbn _ t).1 h.2).2 a ha⟩
theorem qev {t:TermM}(h:qbx (grM P Q O) t):qau P Q O t:=((qbl t).1 h).2.2
theorem qws (ab:qad P Q O=true)(σ:List BindM)(t:TermM)(zs:List TermM)(ht:qbx (grM P Q O) t)(hA:∀ a∈zs,qau P Q O a):qcb (grM P Q O) σ t zs=appF P Q O σ t zs:=by
 unfold appF;by_cases hv:t.op=-1
 ·rw [qj2 hv,if_pos hv]
 ·have hn:=((qam P Q O t).1 (qev ht)).1
  have hr:0≤t.op∧t.op<O.length:=by
   unfold qbu at hn;rw [if_neg hv] at hn;exact hn.1
  have h:=qvk ab (.mk t.op [] 0 []) zs hA;unfold qlp qsw at h;have aa:(TermM.mk t.op [] 0 []).op≠-1:=hv;rw [if_neg aa,if_neg aa] at h;classical
  have h1:qcb (grM P Q O) σ t zs=if qd7 (TermM.mk t.op [] 0 [])=true∧CanP (grM P Q O) t.op zs∧LimT (qd1 (grM P Q O) t.op zs) then some (qd1 (grM P Q O) t.op zs) else none:=by
   by_cases hc:CanP (grM P Q O) t.op zs∧LimT (qd1 (grM P Q O) t.op zs)
   ·rw [qj3 hv hc,if_pos ⟨by simp [qd7,TermM.name,TermM.sort],hc⟩]
   ·rw [qm1 hv hc,if_neg (fun h=>hc h.2)]
  rw [h1,if_neg hv];refine Eq.trans h ?_;by_cases hc:CanS P Q O t.op.toNat zs∧LimT (qbp O t.op.toNat zs)
  ·rw [if_pos ⟨⟨hr,rfl,rfl⟩,hc⟩,if_pos hc]
   rfl
  ·rw [if_neg (fun h=>hc h.2),if_neg hc]
theorem qs1 (aa:qad P Q O=true)(σ:List BindM)(hσ:∀ b∈σ,qbx (grM P Q O) b.t)(t:TermM)(ht:qbx (grM P Q O) t):rebM (qcb (grM P Q O) σ) t=rebM (appF P Q O σ) t:=
 (qkh (qbx (grM P Q O)) (qbx (grM P Q O)) (fun _ h _ ha=>qo1 h ha) (fun _ _ _ hd h hA=>(qgv P Q O σ hσ).good hd.2 hA h) (fun t zs hd hA=>qws aa σ t zs hd (fun a ha=>qev (hA a ha))) t ht).1
end
end insm

namespace sapl
open mem sortp sorti sigm sigs rowl trm terml termb termt termx termro termv termin gram gramk gramn gramt grami formt formm termlc tmr tsk tmf tmg tmc tml tmn rebp bndl sapp insm isub ssub
noncomputable def AppX (P:List (List UInt8))(Q:List (Int×Int))(O:List OpM)(σ:List BindM)(t:TermM):Option TermM:=by
 classical
 exact if (qad P Q O=true∧SubP P Q O σ)∧qdp P Q O t then rebM (appF P Q O σ) t else none
theorem qm4 {P:List (List UInt8)}{Q:List (Int×Int)}{O:List OpM}{σ:List BindM}{t:TermM}(h:(qad P Q O=true∧SubP P Q O σ)∧qdp P Q O t):AppX P Q O σ t=rebM (appF P Q O σ) t:=by unfold AppX;rw [if_pos h]
theorem qpv {P:List (List UInt8)}{Q:List (Int×Int)}{O:List OpM}{σ:List BindM}{t:TermM}(h:¬ ((qad P Q O=true∧SubP P Q O σ)∧qdp P Q O t)):AppX P Q O σ t=none:=by unfold AppX;rw [if_neg h]
def AppA (P:List (List UInt8))(Q:List (Int×Int))(O:List OpM)(σ:List BindM)(t:TermM)(w:World)(e:Ending)(w':World):Prop:=
 ∃ u vu r,e=.returned (.tuple #[aggT u vu,.bool r])∧(r=true→AppX P Q O σ t=some u)∧(r=false→AppX P Q O σ t=none∧u=zT)∧HasTs 22 w.heap.size w' vu u.args∧Bnd u∧Below w.heap.size w w'
theorem qCi:Bnd zT:=by refine ⟨?_,⟨?_,?_⟩,?_,?_⟩<;>simp [zT,TermM.name,TermM.op,TermM.sort]
section
variable {P:List (List UInt8)} {Q:List (Int×Int)} {O:List OpM}
theorem qkj {σ:List BindM}(h:SubP P Q O σ){b:BindM}(hb:b∈σ):qdx P Q O b:=by
 obtain ⟨i,hi,e⟩:=List.getElem_of_mem hb;have:=(h.2 i hi).1;rw [List.getD_eq_getElem?_getD,List.getElem?_eq_getElem hi] at this;simp only [Option.getD_some] at this;rwa [e] at this
theorem qo9 {b:BindM}(h:qdx P Q O b):b.v.args=[]:=by
 have h2:=h.2.1;simp only [varB,Bool.and_eq_true,decide_eq_true_eq] at h2;exact List.eq_nil_of_length_eq_zero h2.2
theorem qdd {b:BindM}(h:qdx P Q O b):qbx (grM P Q O) b.t:=(qbl b.t).2 h.2.2.1
theorem qzb {σ:List BindM}(h:SubP P Q O σ):qBc P Q O σ:=fun _ hb=>⟨qev (qdd (qkj h hb)),(qdd (qkj h hb)).1,qo9 (qkj h hb)⟩
theorem qkk {n lo:Nat}{w:World}{v:Value}{σ:List BindM}(h:HasBs n lo w v σ)(hs:SubP P Q O σ):HasBs 22 lo w v σ:=by
 obtain ⟨A,c,e',h1,h2,h3⟩:=h;refine ⟨A,c,e',h1,h2,fun j hj=>?_⟩;obtain ⟨g,o,aa,e1,hl,hg,hc,va,vb,ab,k1,k2,k3,k4⟩:=h3 j hj;have hb:=(hs.2 j hj).1;have d1:=(qdd hb).1.2.1;have d2:=termro.qan (σ.getD j default).t;have d3:depths (σ.getD j default).v.args≤22:=by rw [qo9 hb];simp [depths]
 exact ⟨g,o,aa,e1,hl,hg,hc,va,vb,ab,(qhm k1).up d3,(qhm k2).up o_,k3,k4⟩
end
theorem j29_ {p:Prop}(h:p:=by
 go_wp2;refine bodyPost_ret (v:=.tuple #[.agg #[.int .i64 0,.string { data:=#[] },.int .i64 0,.slice none 0 0],.bool false]) (by simp [results,Tryz.results10,go_sem,z0,z1,z2,z3]) rfl ?_;exact HZ.out _ _ _ _
):p:=h
theorem c104_ {p:Prop}(h:p:=by
 clear aa y0 y1 y2 y3 y4 y5 y6;exact j29_
):p:=h
set_option maxRecDepth 50000 in
set_option maxHeartbeats 8000000 in
theorem qzc {N n lo:Nat}(P:List (List UInt8))(Q:List (Int×Int))(O:List OpM)(va vb vc:Value)(σ:List BindM)(lv:Value)(t:TermM)(vt:Value)(w:World)(h:HasG w va vb vc P Q O)(hl:HasBs n lo w lv σ)(aE:bsz σ≤1048576)(ht:HasTs N lo w vt t.args)(hB:Bnd t)(hsz:sizes t.args≤1048576):
  Calls Tryz.prog 10 #[.agg #[va,vb,vc],lv,aggT t vt] w (AppA P Q O σ t w):=by
 obtain ⟨sb,ag⟩:=x_ (qad P Q O=true∧SubP P Q O σ);obtain ⟨tb,ah⟩:=x_ (qdp P Q O t);have aw:=z_ (fun W (hW:Below w.heap.size w W)=>qCh P Q O va vb vc σ lv W (h.below n_ hW) (hl.below n_ hW) aE sb ag);have ai:=z_ (fun W (hW:Below w.heap.size w W)=>qfe P Q O va vb vc t vt W (h.below n_ hW) (ht.below n_ hW) hB hsz tb ah)
 have aj:Hid (sb=true→tb=true→∀ W,Below w.heap.size w W→Calls Tryz.prog 38 #[.agg #[va,vb,vc],lv,aggT t vt] W (AppR P Q O σ t W W)):=z_ (fun hs ax W hW=>by
  have h1:=ag.1 hs;have h2:=ah.1 ax;have h3:=(qbl t).2 h2
  exact qwr P Q O h1.1 σ (qzb h1.2) (by have:=h1.2.1;omega) N va vb vc lv t vt W W lo 22 n_ (qkk (HasR.mono (qav n) (hl.below n_ hW) y_) h1.2) b_ (h.below n_ hW) (ht.below n_ hW) hB (qev h3) h3.1)
 have aF:Hid (sb=true→tb=true→AppX P Q O σ t=rebM (appF P Q O σ) t):=z_ (fun hs ax=>qm4 ⟨ag.1 hs,ah.1 ax⟩)
 have ay:Hid ((sb=false∨tb=false)→AppX P Q O σ t=none):=z_ (fun hh=>qpv (fun h=>by
  have h1:=ag.2 h.1;have h2:=ah.2 h.2;rcases hh with e|e
  ·rw [e] at h1;cases h1
  ·rw [e] at h2;cases h2))
 obtain ⟨ml,aG⟩:=e_ (σ.length);obtain ⟨AL,cL,rfl,_⟩:=HasR.shape hl aG.symm;obtain ⟨A1,c1,A2,c2,A3,c3,rfl,rfl,rfl,_⟩:=h.shape;obtain ⟨B,cb,rfl,_⟩:=HasR.shape ht rfl;obtain ⟨m1,aH⟩:=e_ (P.length);obtain ⟨m2,aI⟩:=e_ (Q.length);obtain ⟨m3,aJ⟩:=e_ (O.length);rw [← aH,← aI,← aJ] at aw ai aj ⊢;unfold aggT at ai aj ⊢;obtain ⟨o1,aK⟩:=e_ (t.op);obtain ⟨n1,aL⟩:=e_ (t.name);obtain ⟨s1,aM⟩:=e_ (t.sort);obtain ⟨l1,aN⟩:=e_ (t.args.length);rw [← aK,← aL,← aM,← aN] at ai aj ⊢;clear h ht hB hsz aH aI aJ aK aL aM aN ag ah hl aE aG;obtain ⟨W0,ad⟩:=e_ ((w.alloc (.cells #[.slice A1 m1 c1,.slice A2 m2 c2,.slice A3 m3 c3] 46)).alloc (.cells #[.int .i64 o1,.string (bstr n1),.int .i64 s1,.slice B l1 cb] 38));obtain ⟨W,hW⟩:=e_ (W0.alloc (.cells #[.int .i64 0,.string { data:=#[] },.int .i64 0,.slice none 0 0] 38));have aO:W0.heap.size=w.heap.size+2:=by rw [ad];simp
 have a6:W.heap.size=w.heap.size+3:=by rw [hW];simp [aO]
 have ab:=fr1_ hW;have aq:Below w.heap.size w W:=by
  rw [hW,ad];exact v_
 have aP:W.heap[w.heap.size]? =some (.cells #[.slice A1 m1 c1,.slice A2 m2 c2,.slice A3 m3 c3] 46 (0,0)):=(ab.block _ o_).trans (by rw [ad];exact tsl.qbh _ _ _);have aQ:W.heap[w.heap.size+1]? =some (.cells #[.int .i64 o1,.string (bstr n1),.int .i64 s1,.slice B l1 cb] 38 (0,0)):=(ab.block _ o_).trans (by rw [ad];exact termt.qa5 _ _ _ (by simp));have aR:W.heap[w.heap.size+2]? =some (.cells #[.int .i64 0,.string { data:=#[] },.int .i64 0,.slice none 0 0] 38 (0,0)):=by rw [hW];exact termt.qa5 _ _ _ o_
 have aS:=z_ aq
 have ae:Hid (∀ w3,Below W.heap.size W w3→w.heap.size+3≤w3.heap.size∧Below w.heap.size w w3∧(w3.cell? ⟨w.heap.size,0,none⟩=some (.slice A1 m1 c1)∧w3.cell? ⟨w.heap.size,1,none⟩=some (.slice A2 m2 c2)∧w3.cell? ⟨w.heap.size,2,none⟩=some (.slice A3 m3 c3))∧(w3.cell? ⟨w.heap.size+1,0,none⟩=some (.int .i64 o1)∧w3.cell? ⟨w.heap.size+1,1,none⟩=some (.string (bstr n1))∧w3.cell? ⟨w.heap.size+1,2,none⟩=some (.int .i64 s1)∧w3.cell? ⟨w.heap.size+1,3,none⟩=some (.slice B l1 cb))∧
   (w3.cell? ⟨w.heap.size+2,0,none⟩=some (.int .i64 0)∧w3.cell? ⟨w.heap.size+2,1,none⟩=some (.string { data:=#[] })∧w3.cell? ⟨w.heap.size+2,2,none⟩=some (.int .i64 0)∧w3.cell? ⟨w.heap.size+2,3,none⟩=some (.slice none 0 0))∧(w3.frozen? ⟨w.heap.size+2,0,none⟩=false∧w3.frozen? ⟨w.heap.size+2,1,none⟩=false∧w3.frozen? ⟨w.heap.size+2,2,none⟩=false∧w3.frozen? ⟨w.heap.size+2,3,none⟩=false)):=z_ (fun w3 h3=>by
  have h4:=(h3.block _ o_).trans aP;have h5:=(h3.block _ o_).trans aQ;have h6:=(h3.block _ o_).trans aR
  exact ⟨by have:=h3.size;omega,aq.trans (h3.mono aq.size),tsl.box3 h4,grami.box4 h5,grami.box4 h6,⟨g_ w3 _ 0 _ _ h6,g_ w3 _ 1 _ _ h6,g_ w3 _ 2 _ _ h6,g_ w3 _ 3 _ _ h6⟩⟩)
 have az:Hid (AppX P Q O σ t=none→∀ w3,Below w.heap.size w w3→∀ u0 u1 u2 u3,AppA P Q O σ t w (.returned (.tuple #[.agg #[.int .i64 0,.string { data:=#[] },.int .i64 0,.slice none 0 0],.bool false])) (set4 w3 (w.heap.size+2) u0 u1 u2 u3)):=z_ (fun hr w3 h3 u0 u1 u2 u3=>
  ⟨zT,.slice none 0 0,false,rfl,fun h=>(by cases h),fun _=>⟨hr,rfl⟩,HasR.nil _ _ _ (by unfold maxLen;omega) _,qCi,qa6 h3 o_ _ _ _ _⟩)
 obtain ⟨_,_,⟨x0,x1,x2⟩,_,_,_⟩:=ae.out W b_;clear aq ab aP aQ aR a6 aO;go_enter Tryz.func10,Tryz.ntmps10
 go_upto_region 1 with fail
 rw [ad] at hW;rw [← hW];clear hW ad;go_wp2_with fail
 refine (aw.out W aS.out).mono ?_;rintro e w1 ⟨rfl,ab⟩;have af:=z_ ab;obtain ⟨aA,aa,⟨y0,y1,y2⟩,⟨y3,y4,y5,y6⟩,⟨z0,z1,z2,z3⟩,⟨q0,q1,q2,q3⟩⟩:=ae.out w1 ab;clear x0 x1 x2 ab;cases sb with
 | false=>
  have HZ:=z_ (az.out (ay.out (Or.inl rfl)) w1 aa);exact c104_
 | true=>
 have ak:=z_ (aj.out rfl);have al:=z_ (aF.out rfl);have am:=z_ (fun e=>ay.out (Or.inr e));have an:=z_ (ai.out w1 aa);clear aj aF ay;clear z0 z1 z2 z3 q0 q1 q2 q3 ai;go_wp2_with fail
 refine an.out.mono ?_;rintro e w1 ⟨rfl,ab⟩;have af:=z_ (af.out.trans (ab.mono af.out.size));obtain ⟨aA,aa,⟨y0,y1,y2⟩,⟨y3,y4,y5,y6⟩,⟨z0,z1,z2,z3⟩,⟨q0,q1,q2,q3⟩⟩:=ae.out w1 af.out;clear an ab;cases tb with
 | false=>
  have HZ:=z_ (az.out (am.out rfl) w1 aa);exact c104_
 | true=>
  have HC:=z_ (ak.out rfl w1 aa);have aT:=z_ (al.out rfl);clear aa z0 z1 z2 z3 q0 q1 q2 q3 ak al am aw;go_wp2_with fail
  refine HC.out.mono ?_;rintro e w2 ⟨u,vu,r,rfl,aU,aV,aW,hb2⟩;have au:=qbf _ (qdb [] _) (aW [] (fun k h=>by cases h));clear aW;obtain ⟨Au,cu,rfl,_⟩:=HasR.shape au rfl;have HR:=z_ (And.intro aU (And.intro aV au));have aX:=z_ (af.out.trans (hb2.mono af.out.size));obtain ⟨W3,av⟩:=e_ (w2.alloc (.cells #[.int .i64 u.op,.string (bstr u.name),.int .i64 u.sort,.slice Au u.args.length cu] 38));have aB:=fr1_ av;have aY:=fr2_ av;have ao:=z_ (aX.out.trans (aB.mono aX.out.size));obtain ⟨_,ac,_,_,⟨z0,z1,z2,z3⟩,⟨q0,q1,q2,q3⟩⟩:=ae.out W3 ao.out;obtain ⟨b0,b1,b2,b3⟩:=grami.box4 aY;have a7:=z_ (au.below n_ aB);clear aU aV au hb2 aY aB y0 y1 y2 y3 y4 y5 y6 HC;unfold aggT;go_upto_region 4 with fail
  rw [← av];clear av;cases r with
  | false=>
   have HZ:=z_ (az.out (by rw [aT.out];exact HR.out.2.1 rfl) W3 ac);clear ac b0 b1 b2 b3;exact j29_
  | true=>
   obtain ⟨hu,hf,hl,aC⟩:=HR.out.1 rfl;have HU:=z_ (And.intro hu (And.intro hl aC));have aZ:=z_ (qgb 22 u (.slice Au u.args.length cu) W3 _ a7.out aC (by have h1:=hl.1;have h2:=termro.qao u;omega));have a8:=z_ ac;clear hu hf hl aC ac z0 z1 z2 z3 q0 q1 q2 q3;go_wp2_with fail
   refine aZ.out.mono ?_;rintro e w5 ⟨vc,rfl,aD,a2⟩;obtain ⟨Ac,cc,rfl,_⟩:=HasR.shape aD rfl;obtain ⟨_,ap,_,_,⟨z0,z1,z2,z3⟩,⟨q0,q1,q2,q3⟩⟩:=ae.out w5 (ao.out.trans (a2.mono ao.out.size))
   have HF:Hid (∀ u0 u1 u2 u3,AppA P Q O σ t w (.returned (.tuple #[.agg #[.int .i64 u.op,.string (bstr u.name),.int .i64 u.sort,.slice Ac u.args.length cc],.bool true])) (set4 w5 (w.heap.size+2) u0 u1 u2 u3)):=z_ (fun u0 u1 u2 u3=>
    ⟨u,_,true,rfl,fun _=>by rw [aT.out];exact HU.out.1,fun h=>(by cases h),(HasR.kept (qa8 22) aD (qay (by have:=a8.out.size;have:=ao.out.size;have:=(ae.out W b_).1;omega) _ _ _ _)).mono (qa8 22) (by have:=ao.out.size;have:=aS.out.size;omega),HU.out.2.2,qa6 ap o_ _ _ _ _⟩)
   clear aD a2 ap b0 b1 b2 b3 aZ;go_wp2;refine bodyPost_ret (v:=.tuple #[.agg #[.int .i64 u.op,.string (bstr u.name),.int .i64 u.sort,.slice Ac u.args.length cc],.bool true]) (by simp [results,Tryz.results10,go_sem,z0,z1,z2,z3]) rfl ?_;exact HF.out _ _ _ _
end sapl

namespace iapl
open mem sortp sorti sigm sigs rowl trm terml termb termt termx termro gram gramn gramt grami formt formm termcy tmr tsk tmf tmg tmc bndl rebp rebn insn insm tso isub sapl eqm
theorem c105_ {p:Prop}(h:p:=by
 go_wp2;refine bodyPost_ret (v:=.tuple #[.agg #[.int .i64 0,.string { data:=#[] },.int .i64 0,.slice none 0 0],.bool false]) (by simp [results,Tryz.results14,go_sem,z0,z1,z2,z3]) rfl ?_;exact HZ.out _ _ _ _
):p:=h
set_option maxRecDepth 50000 in
set_option maxHeartbeats 8000000 in
theorem qzd {N n lo:Nat}(P:List (List UInt8))(Q:List (Int×Int))(O:List OpM)(va vb vc:Value)(σ:List BindM)(lv:Value)(t:TermM)(vt:Value)(w:World)(h:HasG w va vb vc P Q O)(hl:HasBs n lo w lv σ)(aN:bsz σ≤1048576)(ht:HasTs N 0 w vt t.args)(hB:Bnd t)(hsz:sizes t.args≤1048576)(aO:∀ m,PlA m w vt t.args):
  Calls Tryz.prog 14 #[.agg #[va,vb,vc],lv,aggT t vt] w fun e w'=>∃ u vu r S,e=.returned (.tuple #[aggT u vu,.bool r])∧(r=true→AppX P Q O σ t=some u)∧(r=false→AppX P Q O σ t=none∧u=zT)∧OT 38 (depth u) w.heap.size w' vu u.args S∧Below w.heap.size w w':=by
 obtain ⟨sp,af⟩:=x_ (SubP P Q O σ);have ag:=z_ (fun W (hW:Below w.heap.size w W)=>qww P Q O va vb vc W (h.below n_ hW));have aw:=z_ (fun mm um A no c W (hM:HasM W (.map mm) (.slice A no c) (grM P Q O)) (hU:MapU W (.map um) (ordU P Q)) (hW:Below w.heap.size w W)=>qBh P Q O mm um A no c σ lv W hM hU (hl.below n_ hW) aN sp af);obtain ⟨G,hG⟩:=e_ (grM P Q O);obtain ⟨tb,ax⟩:=x_ (qbx G t)
 have ay:Hid (∀ mm A c W,HasM W (.map mm) (.slice A G.E.length c) G→Below w.heap.size w W→Calls Tryz.prog 46 #[.agg #[.map mm,.slice A G.E.length c],aggT t vt] W fun e w'=>e=.returned (.bool tb)∧Below W.heap.size W w'):=z_ (fun mm A c W hM hW=>by
  refine (qjv G (by rw [hG];exact qp2 P Q O) (.map mm) A G.E.length c t vt W hM rfl (ht.below n_ hW) hB hsz).mono ?_;rintro e w' ⟨r,rfl,h2,h3⟩;have:r=tb:=by rw [Bool.eq_iff_iff,h2,ax]
  exact ⟨by rw [this],h3⟩)
 have aD:Hid (tb=true↔qdp P Q O t):=z_ (by rw [ax,hG];exact qbl t)
 have ah:Hid (sp=true→tb=true→∀ mm A c W,HasM W (.map mm) (.slice A G.E.length c) G→Below w.heap.size w W→Calls Tryz.prog 47 #[.agg #[.map mm,.slice A G.E.length c],lv,aggT t vt] W fun e w'=>∃ u vu r S,e=.returned (.tuple #[aggT u vu,.bool r])∧(r=true→rebM (qcb G σ) t=some u)∧(r=false→rebM (qcb G σ) t=none∧u=zT)∧OT 38 (depth u) W.heap.size w' vu u.args S∧Below W.heap.size W w'):=z_ (fun hs aE mm A c W hM hW=>by
  have h1:=af.1 hs;rw [hG] at hM ⊢
  exact (qnw P Q O mm A _ c rfl σ lv (by have:=h1.1;omega) (fun b hb=>qdd (qkj h1 hb)) t vt W hM n_ (qkk (HasR.mono (qav n) (hl.below n_ hW) y_) h1) (ht.below n_ hW) hB (by rw [← hG];exact ax.1 aE) (fun m=>qj1 m hW ht (aO m))).mono (fun e w' ⟨u,vu,r,S,a1,a2,a3,a4,a5⟩=>⟨u,vu,r,S,a1,fun hr=>(a2 hr).1,a3,a4,a5⟩))
 have az:Hid (sp=true→tb=true→AppX P Q O σ t=rebM (qcb G σ) t):=z_ (fun hs aE=>by
  have h1:=af.1 hs;have h2:=aD.out.1 aE;rw [qm4 ⟨⟨h2.1,h1⟩,h2⟩,hG]
  exact (qs1 h2.1 σ (fun b hb=>qdd (qkj h1 hb)) t ((qbl t).2 h2)).symm)
 have aA:Hid ((sp=false∨tb=false)→AppX P Q O σ t=none):=z_ (fun hh=>qpv (fun h=>by
  have h1:=af.2 h.1.2;have h2:=aD.out.2 h.2;rcases hh with e|e
  ·rw [e] at h1;cases h1
  ·rw [e] at h2;cases h2))
 obtain ⟨A1,c1,A2,c2,A3,c3,rfl,rfl,rfl,_⟩:=h.shape;obtain ⟨B,cb,rfl,_⟩:=HasR.shape ht rfl;obtain ⟨ml,aP⟩:=e_ (σ.length);obtain ⟨AL,cL,rfl,_⟩:=HasR.shape hl aP.symm;obtain ⟨m1,aQ⟩:=e_ (P.length);obtain ⟨m2,aR⟩:=e_ (Q.length);obtain ⟨m3,aS⟩:=e_ (O.length);rw [← hG] at ag aw;obtain ⟨U,hU⟩:=e_ (ordU P Q);rw [← hU] at ag aw;rw [← aQ,← aR,← aS] at ag ⊢;obtain ⟨X,hX⟩:=e_ (AppX P Q O σ t);rw [← hX] at az aA ⊢;obtain ⟨RI,aT⟩:=e_ (rebM (qcb G σ) t);rw [← aT] at az ah;unfold aggT at ay ah ⊢;obtain ⟨o1,aU⟩:=e_ (t.op);obtain ⟨n1,aV⟩:=e_ (t.name);obtain ⟨s1,aW⟩:=e_ (t.sort);obtain ⟨l1,aX⟩:=e_ (t.args.length);rw [← aU,← aV,← aW,← aX] at ay ah ⊢;clear h hl aN ht hB hsz aO aQ aR aS aU aV aW aX aP af ax aD hX aT hU hG;obtain ⟨W0,ae⟩:=e_ ((w.alloc (.cells #[.slice A1 m1 c1,.slice A2 m2 c2,.slice A3 m3 c3] 46)).alloc (.cells #[.int .i64 o1,.string (bstr n1),.int .i64 s1,.slice B l1 cb] 38));obtain ⟨W,hW⟩:=e_ (W0.alloc (.cells #[.int .i64 0,.string { data:=#[] },.int .i64 0,.slice none 0 0] 38));have aY:W0.heap.size=w.heap.size+2:=by rw [ae];simp
 have bj:W.heap.size=w.heap.size+3:=by rw [hW];simp [aY]
 have ad:=fr1_ hW;have aB:Below w.heap.size w W:=by
  rw [hW,ae];exact v_
 have aZ:W.heap[w.heap.size]? =some (.cells #[.slice A1 m1 c1,.slice A2 m2 c2,.slice A3 m3 c3] 46 (0,0)):=(ad.block _ o_).trans (by rw [ae];exact tsl.qbh _ _ _);have a6:W.heap[w.heap.size+1]? =some (.cells #[.int .i64 o1,.string (bstr n1),.int .i64 s1,.slice B l1 cb] 38 (0,0)):=(ad.block _ o_).trans (by rw [ae];exact termt.qa5 _ _ _ (by simp));have a7:W.heap[w.heap.size+2]? =some (.cells #[.int .i64 0,.string { data:=#[] },.int .i64 0,.slice none 0 0] 38 (0,0)):=by rw [hW];exact termt.qa5 _ _ _ o_
 have bk:=z_ aB
 have ai:Hid (∀ w3,Below W.heap.size W w3→w.heap.size+3≤w3.heap.size∧Below w.heap.size w w3∧(w3.cell? ⟨w.heap.size,0,none⟩=some (.slice A1 m1 c1)∧w3.cell? ⟨w.heap.size,1,none⟩=some (.slice A2 m2 c2)∧w3.cell? ⟨w.heap.size,2,none⟩=some (.slice A3 m3 c3))∧(w3.cell? ⟨w.heap.size+1,0,none⟩=some (.int .i64 o1)∧w3.cell? ⟨w.heap.size+1,1,none⟩=some (.string (bstr n1))∧w3.cell? ⟨w.heap.size+1,2,none⟩=some (.int .i64 s1)∧w3.cell? ⟨w.heap.size+1,3,none⟩=some (.slice B l1 cb))∧
   (w3.cell? ⟨w.heap.size+2,0,none⟩=some (.int .i64 0)∧w3.cell? ⟨w.heap.size+2,1,none⟩=some (.string { data:=#[] })∧w3.cell? ⟨w.heap.size+2,2,none⟩=some (.int .i64 0)∧w3.cell? ⟨w.heap.size+2,3,none⟩=some (.slice none 0 0))∧(w3.frozen? ⟨w.heap.size+2,0,none⟩=false∧w3.frozen? ⟨w.heap.size+2,1,none⟩=false∧w3.frozen? ⟨w.heap.size+2,2,none⟩=false∧w3.frozen? ⟨w.heap.size+2,3,none⟩=false)):=z_ (fun w3 h3=>by
  have h4:=(h3.block _ o_).trans aZ;have h5:=(h3.block _ o_).trans a6;have h6:=(h3.block _ o_).trans a7
  exact ⟨by have:=h3.size;omega,aB.trans (h3.mono aB.size),tsl.box3 h4,grami.box4 h5,grami.box4 h6,⟨g_ w3 _ 0 _ _ h6,g_ w3 _ 1 _ _ h6,g_ w3 _ 2 _ _ h6,g_ w3 _ 3 _ _ h6⟩⟩)
 have a8:Hid (X=none→∀ w3,Below w.heap.size w w3→w.heap.size+3≤w3.heap.size→∀ u0 u1 u2 u3,∃ u vu r S,(Ending.returned (.tuple #[.agg #[.int .i64 0,.string { data:=#[] },.int .i64 0,.slice none 0 0],.bool false]))=.returned (.tuple #[.agg #[.int .i64 u.op,.string (bstr u.name),.int .i64 u.sort,vu],.bool r])∧(r=true→X=some u)∧(r=false→X=none∧u=zT)∧OT 38 (depth u) w.heap.size (set4 w3 (w.heap.size+2) u0 u1 u2 u3) vu u.args S∧Below w.heap.size w (set4 w3 (w.heap.size+2) u0 u1 u2 u3)):=z_ (fun hr w3 h3 hz u0 u1 u2 u3=>
  ⟨zT,.slice none 0 0,false,[],rfl,fun h=>(by cases h),fun _=>⟨hr,rfl⟩,OT.nil _ _ _ _,qa6 h3 o_ _ _ _ _⟩)
 obtain ⟨_,_,⟨x0,x1,x2⟩,_,_,_⟩:=ai.out W b_;clear aB ad aZ a6 a7 bj aY;go_enter Tryz.func14,Tryz.ntmps14
 go_upto_region 1 with fail
 rw [ae] at hW;rw [← hW];clear hW ae;go_wp2_with fail
 refine (ag.out W bk.out).mono ?_;rintro e w1 ⟨mm,A4,c4,um,rfl,ba,bb,ad⟩;obtain ⟨W2,aj⟩:=e_ (w1.alloc (.cells #[.map mm,.slice A4 G.E.length c4,.map um] 94));have hb2:=fr1_ aj;have bc:=fr2_ aj;have bl:=fr3_ aj;have aF:=z_ (ad.trans (hb2.mono ad.size));have aG:=z_ (ba.below hb2);have bm:=z_ (bb.below hb2);have aH:Hid (∀ w3,Below W2.heap.size W2 w3→w3.cell? ⟨w1.heap.size,0,none⟩=some (.map mm)∧w3.cell? ⟨w1.heap.size,1,none⟩=some (.slice A4 G.E.length c4)∧w3.cell? ⟨w1.heap.size,2,none⟩=some (.map um)):=z_ (fun w3 h3=>tsl.box3 ((h3.block _ o_).trans bc));obtain ⟨r0,r1,r2⟩:=aH.out W2 b_;obtain ⟨_,ak,_,⟨t0,t1,t2,t3⟩,⟨z0,z1,z2,z3⟩,⟨q0,q1,q2,q3⟩⟩:=ai.out W2 aF.out;have bd:=z_ (aw.out mm um A4 _ c4 W2 aG.out bm.out ak);clear ba bb ad hb2 bc bl x0 x1 x2 ag aw;go_upto_region 2 with fail
 rw [← aj];clear aj;go_wp2_with fail
 refine bd.out.mono ?_;rintro e w3 ⟨rfl,aI⟩;have ab:=z_ aI;have aJ:=z_ (aF.out.trans (aI.mono aF.out.size));clear aI ak r0 r1 r2 t0 t1 t2 t3 z0 z1 z2 z3 q0 q1 q2 q3 bd;obtain ⟨r0,r1,r2⟩:=aH.out w3 ab.out;obtain ⟨be,ac,_,⟨t0,t1,t2,t3⟩,⟨z0,z1,z2,z3⟩,⟨q0,q1,q2,q3⟩⟩:=ai.out w3 aJ.out;cases sp with
 | false=>
  have HZ:=z_ (a8.out (aA.out (Or.inl rfl)) w3 ac be);clear ac r0 r1 r2 t0 t1 t2 t3;exact c105_
 | true=>
 have al:=z_ (ah.out rfl);have am:=z_ (az.out rfl);have an:=z_ (fun e=>aA.out (Or.inr e));have ao:=z_ (ay.out mm A4 c4 w3 (aG.out.below ab.out) ac);clear ah az aA ay;go_wp2_with fail
 refine ao.out.mono ?_;rintro e w4 ⟨rfl,aK⟩;have ap:=z_ (ab.out.trans (aK.mono ab.out.size));have aL:=z_ (aJ.out.trans (aK.mono aJ.out.size));clear aK be ac r0 r1 r2 t0 t1 t2 t3 z0 z1 z2 z3 q0 q1 q2 q3 ao;obtain ⟨r0,r1,r2⟩:=aH.out w4 ap.out;obtain ⟨aM,aa,_,⟨t0,t1,t2,t3⟩,⟨z0,z1,z2,z3⟩,⟨q0,q1,q2,q3⟩⟩:=ai.out w4 aL.out;cases tb with
 | false=>
  have HZ:=z_ (a8.out (an.out rfl) w4 aa aM);clear aa r0 r1 r2 t0 t1 t2 t3;exact c105_
 | true=>
 have aq:=z_ (al.out rfl mm A4 c4 w4 (aG.out.below ap.out) aa);have au:=z_ (am.out rfl);have bf:=z_ aM;have bn:=z_ aa;clear al am an aM aa z0 z1 z2 z3 q0 q1 q2 q3;go_wp2_with fail
 refine aq.out.mono ?_;rintro e w5 ⟨u,vu,r,S,rfl,bg,bh,aC,bi⟩;obtain ⟨A5,c5,rfl⟩:∃ A c,vu=.slice A u.args.length c:=by
  rw [termro.qan] at aC;exact OT.shape aC
 obtain ⟨_,av,_,_,⟨z0,z1,z2,z3⟩,⟨q0,q1,q2,q3⟩⟩:=ai.out w5 (aL.out.trans (bi.mono aL.out.size))
 have HF:Hid (∀ u0 u1 u2 u3,∃ x vx r' S,(Ending.returned (.tuple #[.agg #[.int .i64 u.op,.string (bstr u.name),.int .i64 u.sort,.slice A5 u.args.length c5],.bool r]))=.returned (.tuple #[.agg #[.int .i64 x.op,.string (bstr x.name),.int .i64 x.sort,vx],.bool r'])∧(r'=true→X=some x)∧(r'=false→X=none∧x=zT)∧OT 38 (depth x) w.heap.size (set4 w5 (w.heap.size+2) u0 u1 u2 u3) vx x.args S∧Below w.heap.size w (set4 w5 (w.heap.size+2) u0 u1 u2 u3)):=z_ (fun u0 u1 u2 u3=>
  ⟨u,_,r,S,rfl,fun h=>by rw [au.out];exact bg h,fun h=>by rw [au.out];exact bh h,(qwa aC (x:=w.heap.size+2) (by have:=bf.out;omega) u0 u1 u2 u3).mono (by have:=bf.out;omega),qa6 av o_ _ _ _ _⟩)
 clear aC bi av bg bh r0 r1 r2 t0 t1 t2 t3 aq;go_wp2;refine bodyPost_ret (v:=.tuple #[.agg #[.int .i64 u.op,.string (bstr u.name),.int .i64 u.sort,.slice A5 u.args.length c5],.bool r]) (by simp [results,Tryz.results14,go_sem,z0,z1,z2,z3]) rfl ?_;exact HF.out _ _ _ _
end iapl
end Go.Proofs.YtiilamngcoegiaaGreat
