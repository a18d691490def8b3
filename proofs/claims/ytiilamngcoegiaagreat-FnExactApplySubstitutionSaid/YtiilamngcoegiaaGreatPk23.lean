/- parts -/
import Derived.BigQuiet
import Derived.Deep.LoopGhost
import Derived.Test.YtiilamngcoegiaaGreatTss
namespace Go.Proofs.YtiilamngcoegiaaGreat
open Go.ChangeShapes Go.WideShapes Go.ChangeAt Go.RowKit
namespace isub
set_option maxRecDepth 50000
set_option maxHeartbeats 8000000
open mem split subs setm sets sortm sortp sorti sortf rowl sigm sigs trm terml termb termt termx termvr rowg gram gramk formt grami tsa tsj tsl tsn tso bndl bndc
def qdx (P:List (List UInt8))(Q:List (Int×Int))(O:List OpM)(b:BindM):Prop:=
 b.v.op=-1∧varB (grM P Q O) b.v=true∧qdp P Q O b.t∧(sortsT (clo P.length (prs Q)) O b.t).testBit b.v.sort.toNat=true
theorem c90_ {p:Prop}(h:p:=by
 go_wp2;go_ret;exact ⟨qa0 HF.out.symm,ac.out.trans (ai.out.mono ac.out.size)⟩
):p:=h
theorem qBg {N lo:Nat}(P:List (List UInt8))(Q:List (Int×Int))(O:List OpM)(mm um:Option Nat)(A:Option Addr)(no c:Nat)(b:BindM)(g p:Nat)(A1:Option Addr)(c1:Nat)(A2:Option Addr)(c2:Nat)(w:World)(hM:HasM w (.map mm) (.slice A no c) (grM P Q O))(hU:MapU w (.map um) (ordU P Q))(hc:Cells8 w g p b A1 c1 A2 c2)(ht:HasTs N lo w (.slice A2 b.t.args.length c2) b.t.args)(ay:Bnd b.v)(az:Bnd b.t)(hsz:sizes b.t.args≤1048576)(r:Bool)(hr:r=true↔qdx P Q O b):
  Calls Tryz.prog 91 #[.agg #[.map mm,.slice A no c,.map um],.pointer (some ⟨g,p,none⟩)] w fun e w'=>e=.returned (.bool r)∧Below w.heap.size w w':=by
 obtain ⟨z,hz⟩:=x_ (qdp P Q O b.t);obtain ⟨⟨x0,x1,x2,x3⟩,x4,x5,x6,x7⟩:=hc;have hg:=l_ x0;simp only [] at hg;obtain ⟨W,hW⟩:=e_ (w.alloc (.cells #[.map mm,.slice A no c,.map um] 94));have aj:=fr1_ hW;have hX:=fr2_ hW;have ac:=z_ aj;have ad:∀ t:BoxC (Below W.heap.size W),Below w.heap.size w t.W:=fun t=>aj.trans (t.h.mono aj.size)
 have k:∀ {o:Nat} {v:Value},w.cell? ⟨g,o,none⟩=some v→∀ t:BoxC (Below W.heap.size W),t.W.cell? ⟨g,o,none⟩=some v:=fun {o v} h t=>((ad t).cell (p:=⟨g,o,none⟩) hg).trans h
 have y0:=k x0;have y1:=k x1;have y2:=k x2;have y3:=k x3;have y4:=k x4;have y5:=k x5;have y6:=k x6;have y7:=k x7;have ak:∀ t:BoxC (Below W.heap.size W),t.W.heap[w.heap.size]? =some (.cells #[.map mm,.slice A no c,.map um] 94 (0,0)):=fun t=>(t.h.block _ (by rw [hW];simp)).trans hX
 have z0:=fun t=>(tsl.box3 (ak t)).1
 have z1:=fun t=>(tsl.box3 (ak t)).2.1
 have z2:=fun t=>(tsl.box3 (ak t)).2.2
 obtain ⟨r1,ao⟩:∃ r1,decide (b.v.op=-1)=r1:=⟨_,rfl⟩;obtain ⟨r2,af⟩:∃ r2,varB (grM P Q O) b.v=r2:=⟨_,rfl⟩;have ae:Hid (∀ t:BoxC (Below W.heap.size W),Calls Tryz.prog 98 #[.pointer (some ⟨g,p,none⟩)] t.W fun e w'=>e=.returned (.bool r1)∧Below t.W.heap.size t.W w'):=z_ (fun t=>(qca g p b.v.op t.W (y0 t) r1 ao).mono (fun _ _ h=>⟨h.1,h.2 ▸ Below.refl _ _⟩));have ag:Hid (∀ t:BoxC (Below W.heap.size W),Calls Tryz.prog 151 #[.agg #[.map mm,.slice A no c],.pointer (some ⟨g,p,none⟩)] t.W fun e w'=>e=.returned (.bool r2)∧Below t.W.heap.size t.W w'):=z_ (fun t=>qjs (grM P Q O) (.map mm) A no c b.v g p A1 c1 t.W (hM.below (ad t)) (y1 t) (y2 t) (y3 t) ay r2 af);have aa:Hid (∀ t:BoxC (Below W.heap.size W),Calls Tryz.prog 152 #[.agg #[.map mm,.slice A no c,.map um],aggT b.t (.slice A2 b.t.args.length c2)] t.W fun e w'=>e=.returned (.int .u16 ((sortsZ P Q O b.t z:Nat):Int))∧Below t.W.heap.size t.W w'):=z_ (fun t=>qpq P Q O mm um A no c b.t _ t.W (hM.below (ad t)) (hU.below (ad t)) (ht.below n_ (ad t)) az hsz z hz);have al:sortsZ P Q O b.t z<65536:=by
  unfold sortsZ;split
  ·rename_i aD
   have am:=(qa9 (hz.1 aD).1).1;have ah:=qgx am;exact w_ (qeg ah O b.t) (Nat.le_trans (pow8 ah.1) (by decide))
  ·decide
 have an:r2=true→∃ k:Nat,b.v.sort=(k:Int)∧k<16:=fun h2=>by
  rw [h2] at af;simp only [varB,Bool.and_eq_true,decide_eq_true_eq] at af;have aF:(grM P Q O).U.length≤8:=by
   unfold grM;split
   ·rename_i am
    have h1:=(qax (qa9 am).1).2.1;have h2:=qgp P Q;rw [if_pos (qa9 am).1] at h2;show (qal P Q).length≤8;omega
   ·simp
  exact ⟨b.v.sort.toNat,by omega,by omega⟩
 have aA:=z_ ao;have aB:=z_ af;have ap:=z_ hr;have HZ:=z_ hz;have nb:Nonempty (BoxC (Below W.heap.size W)):=⟨⟨_,Below.refl _ _⟩⟩;unfold aggT at aa;obtain ⟨sz,ab⟩:=e_ (sortsZ P Q O b.t z);have aE:=z_ ab;rw [← ab] at aa al;obtain ⟨qt,aq⟩:=e_ (b.t.args.length);obtain ⟨to,au⟩:=e_ (b.t.op);obtain ⟨tn,av⟩:=e_ (b.t.name);obtain ⟨ts,aw⟩:=e_ (b.t.sort);rw [← aq,← au,← av,← aw] at aa;rw [← au] at y4;rw [← av] at y5;rw [← aw] at y6;rw [← aq] at y7;clear hM hU x0 x1 x2 x3 x4 x5 x6 x7 aj hX ak ad k ht ay az hsz ao af hr hz ab aq au av aw;cases r1 with
 | false=>
  have HF:Hid (r=false):=z_ (by
   cases r with
   | false=>rfl
   | true=>
    have h1:=(ap.out.1 rfl).1;have h2:=aA.out;rw [decide_eq_false_iff_not] at h2
    exact absurd h1 h2)
  clear y1 y2 y3 y4 y5 y6 y7 ag aa an al;go_enter Tryz.func91,Tryz.ntmps91
  go_wp2_with fail
  rw [← hW];clear hW;refine qa1 (C:=Below W.heap.size W) k_ k_ b_.drew ?_;repeat go_big_quiet_step ((go_at_call 98;exact (ae.out _).mono (fun _ _ h=>⟨h.1,BoxC.step _ h.2⟩)))
  refine wpQuiet_nil ?_;rintro w5 ⟨t5,rfl⟩;have ai:=z_ t5.h;clear y0 z0 z1 z2 nb ae;exact c90_
 | true=>
  cases r2 with
  | false=>
   have HF:Hid (r=false):=z_ (by
    cases r with
    | false=>rfl
    | true=>
     have h1:=(ap.out.1 rfl).2.1;rw [aB.out] at h1
     cases h1)
   clear y1 y2 y3 y4 y5 y6 y7 aa an al;go_enter Tryz.func91,Tryz.ntmps91
   go_wp2_with fail
   rw [← hW];clear hW;refine qa1 (C:=Below W.heap.size W) k_ k_ b_.drew ?_;repeat go_big_quiet_step (first|(go_at_call 98;exact (ae.out _).mono (fun _ _ h=>⟨h.1,BoxC.step _ h.2⟩))|(go_at_call 151;exact (ag.out _).mono (fun _ _ h=>⟨h.1,BoxC.step _ h.2⟩)))
   refine wpQuiet_nil ?_;rintro w5 ⟨t5,rfl⟩;have ai:=z_ t5.h;clear y0 z0 z1 z2 nb ae ag;exact c90_
  | true=>
   obtain ⟨k,hk,ax⟩:=an rfl;have HK:=z_ hk
   have HF:Hid (sz.testBit k=r):=z_ (by
    rw [Bool.eq_iff_iff,ap.out,aE.out,sortsZ];have h1:=aA.out;rw [decide_eq_true_eq] at h1;unfold qdx;rw [hk,Int.toNat_natCast];cases z with
    | true=>
     rw [if_pos rfl];exact ⟨fun h=>⟨h1,aB.out,HZ.out.1 rfl,h⟩,fun h=>h.2.2.2⟩
    | false=>
     rw [if_neg (by simp)]
     exact ⟨fun h=>absurd h (by simp),fun h=>absurd (HZ.out.2 h.2.2.1) (by simp)⟩)
   rw [hk] at y2;have aC:Hid (∀ t:BoxC (Below W.heap.size W),Calls Tryz.prog 153 #[.int .u16 (sz:Int),.int .i64 (k:Int)] t.W fun e w'=>e=.returned (.bool r)∧Below t.W.heap.size t.W w'):=z_ (fun t=>(qce sz k al ax r HF.out t.W).mono (fun _ _ h=>⟨h.1,h.2 ▸ Below.refl _ _⟩));clear y1 y3 an hk;go_enter Tryz.func91,Tryz.ntmps91
   go_wp2_with fail
   rw [← hW];clear hW;refine qa1 (C:=Below W.heap.size W) k_ k_ b_.drew ?_;repeat go_big_quiet_step (first|(go_at_call 98;exact (ae.out _).mono (fun _ _ h=>⟨h.1,BoxC.step _ h.2⟩))|(go_at_call 151;exact (ag.out _).mono (fun _ _ h=>⟨h.1,BoxC.step _ h.2⟩))|(go_at_call 152;exact (aa.out _).mono (fun _ _ h=>⟨h.1,BoxC.step _ h.2⟩))|(go_at_call 153;exact (aC.out _).mono (fun _ _ h=>⟨h.1,BoxC.step _ h.2⟩)))
   refine wpQuiet_nil ?_;rintro w5 ⟨t5,rfl⟩;have ai:=z_ t5.h;clear y0 y2 y4 y5 y6 y7 z0 z1 z2 nb ae ag aa aC;go_wp2;go_ret;exact ⟨rfl,ac.out.trans (ai.out.mono ac.out.size)⟩
def SubP (P:List (List UInt8))(Q:List (Int×Int))(O:List OpM)(σ:List BindM):Prop:=
 σ.length≤8∧∀ i,i<σ.length→qdx P Q O (σ.getD i default)∧(0<i→cmp (σ.getD (i-1) default).v (σ.getD i default).v<0)
theorem c89_ {p:Prop}(h:p:=by
 go_wp2;go_roundw
 case rel=>exact ⟨j+1,by go_num,by omega,an,z_ (HB.out.trans (af.out.mono HB.out.size))⟩
 case measure=>simp [intOf];omega
):p:=h
theorem c91_ {p:Prop}(h:p:=by
 go_wp2;go_ret;exact ⟨qa0 HF.out.symm,ac.out.trans (af.out.mono ac.out.size)⟩
):p:=h
theorem qBh {n lo:Nat}(P:List (List UInt8))(Q:List (Int×Int))(O:List OpM)(mm um:Option Nat)(A:Option Addr)(no c:Nat)(σ:List BindM)(lv:Value)(w:World)(hM:HasM w (.map mm) (.slice A no c) (grM P Q O))(hU:MapU w (.map um) (ordU P Q))(hl:HasBs n lo w lv σ)(hsz:bsz σ≤1048576)(r:Bool)(hr:r=true↔SubP P Q O σ):
  Calls Tryz.prog 45 #[.agg #[.map mm,.slice A no c,.map um],lv] w fun e w'=>e=.returned (.bool r)∧Below w.heap.size w w':=by
 obtain ⟨m,hm⟩:=e_ (σ.length);obtain ⟨L,cl,rfl,_⟩:=HasR.shape hl hm.symm;have bb:m≤1048576:=by have:=qku σ;omega
 obtain ⟨W,hW⟩:=e_ (w.alloc (.cells #[.map mm,.slice A no c,.map um] 94));have aq:=fr1_ hW;have hX:=fr2_ hW;have bc:=fr3_ hW;have ak:=z_ aq;have HX:Hid (∀ w3,Below W.heap.size W w3→w3.cell? ⟨w.heap.size,0,none⟩=some (.map mm)∧w3.cell? ⟨w.heap.size,1,none⟩=some (.slice A no c)∧w3.cell? ⟨w.heap.size,2,none⟩=some (.map um)):=z_ (fun w3 h3=>tsl.box3 ((h3.block _ o_).trans hX));have HM:=z_ hm;have HR:=z_ hr
 have au:Hid (∀ j,j<m→∃ (g o:Nat),L=some ⟨g,o,none⟩∧∃ (A1:Option Addr) (c1:Nat) (A2:Option Addr) (c2:Nat),HasTs n lo w (.slice A1 (σ.getD j default).v.args.length c1) (σ.getD j default).v.args∧sizes (σ.getD j default).v.args≤2097152∧(∀ w3,Below w.heap.size w w3→Cells8 w3 g (o+j*8) (σ.getD j default) A1 c1 A2 c2)∧
   (∀ (b:Bool),(b=true↔qdx P Q O (σ.getD j default))→∀ w3,Below w.heap.size w w3→Calls Tryz.prog 91 #[.agg #[.map mm,.slice A no c,.map um],.pointer (some ⟨g,o+j*8,none⟩)] w3 fun e w'=>e=.returned (.bool b)∧Below w3.heap.size w3 w')):=z_ (fun j hj=>by
  obtain ⟨g,o,A1,c1,A2,c2,e,hg,ah,h1,h2,h3,h4⟩:=qe3 hl hj;have bd:=qu2 (L:=σ) (j:=j) o_;refine ⟨g,o,e,A1,c1,A2,c2,h1,by omega,fun w3 ad=>ah.below ad,fun b hb w3 ad=>?_⟩
  exact qBg P Q O mm um A no c (σ.getD j default) g (o+j*8) A1 c1 A2 c2 w3 (hM.below ad) (hU.below ad) (ah.below ad) (h2.below n_ ad) h3 h4 o_ b hb)
 clear hM hU hl hsz hr hX aq hm;go_enter Tryz.func45,Tryz.ntmps45
 by_cases h8:8<m
 ·have d0:decide ((8:Int)<(m:Int))=true:=d_
  have HF:Hid (r=false):=z_ (by
   cases r with
   | false=>rfl
   | true=>have h1:=(HR.out.1 rfl).1;have:=HM.out;omega)
  go_wp2;go_ret;refine ⟨qa0 HF.out.symm,?_⟩;rw [← hW];exact ak.out
 have d0:decide ((8:Int)<(m:Int))=false:=f_;go_wp2;rw [← hW];clear hW;go_loopw [11] (fun aU wr=>∃ j:Nat,aU=.int .i64 j∧j≤m∧Hid (∀ i,i<j→qdx P Q O (σ.getD i default)∧(0<i→cmp (σ.getD (i-1) default).v (σ.getD i default).v<0))∧Hid (Below W.heap.size W wr)) (fun i _=>m-(intOf i).toNat)
 case atStart=>exact ⟨0,rfl,y_,z_ (fun i hi=>absurd hi (Nat.not_lt_zero _)),z_ b_⟩
 case round=>
  obtain ⟨j,rfl,hj,HQ,HB⟩:=hrel;have ac:=z_ (ak.out.trans (HB.out.mono ak.out.size));by_cases hlt:j<m
  ·have d1:decide ((j:Int)<(m:Int))=true:=d_
   obtain ⟨b,hb⟩:=x_ (qdx P Q O (σ.getD j default));obtain ⟨g,o,rfl,A1,c1,A2,c2,hv,av,ah,aw⟩:=au.out j hlt;have HV:=z_ hv;have be:=z_ av;have aV:=z_ ah;have ax:=aw b hb;have ae:Hid (∀ t:BoxC (Below wr.heap.size wr),Calls Tryz.prog 91 #[.agg #[.map mm,.slice A no c,.map um],.pointer (some ⟨g,o+j*8,none⟩)] t.W fun e w'=>e=.returned (.bool b)∧Below t.W.heap.size t.W w'):=z_ (fun t=>ax t.W (ac.out.trans (t.h.mono ac.out.size)));have al:=z_ hb;have i1:(0:Int)≤(j:Int):=o_;have i2:(j:Int)<(m:Int):=o_;have z0:=fun t:BoxC (Below wr.heap.size wr)=>(HX.out t.W (HB.out.trans (t.h.mono HB.out.size))).1
   have z1:=fun t:BoxC (Below wr.heap.size wr)=>(HX.out t.W (HB.out.trans (t.h.mono HB.out.size))).2.1
   have z2:=fun t:BoxC (Below wr.heap.size wr)=>(HX.out t.W (HB.out.trans (t.h.mono HB.out.size))).2.2
   have nb:Nonempty (BoxC (Below wr.heap.size wr)):=⟨⟨_,Below.refl _ _⟩⟩;clear hv av ah aw ax hb;cases b with
   | false=>
    have HF:Hid (r=false):=z_ (by
     cases r with
     | false=>rfl
     | true=>exact absurd (al.out.2 ((HR.out.1 rfl).2 j (by have:=HM.out;omega)).1) (by simp))
    go_wp2_with fail
    refine qa1 (C:=Below wr.heap.size wr) k_ k_ b_.drew ?_;repeat go_big_quiet_step ((go_at_call 91;exact (ae.out _).mono (fun _ _ h=>⟨h.1,BoxC.step _ h.2⟩)))
    refine wpQuiet_nil ?_;rintro w5 ⟨t5,rfl⟩;have af:=z_ t5.h;clear z0 z1 z2 nb ae;exact c91_
   | true=>
    have ay:Hid (qdx P Q O (σ.getD j default)):=z_ (al.out.1 rfl);clear al;by_cases am:j=0
    ·have d2:decide (0<j)=false:=f_
     have an:Hid (∀ i,i<j+1→qdx P Q O (σ.getD i default)∧(0<i→cmp (σ.getD (i-1) default).v (σ.getD i default).v<0)):=z_ (fun i hi=>by
      obtain rfl:i=j:=o_
      exact ⟨ay.out,fun h=>by omega⟩)
     have bf:=z_ am;clear am;go_wp2_with fail
     refine qa1 (C:=Below wr.heap.size wr) k_ k_ b_.drew ?_;repeat go_big_quiet_step ((go_at_call 91;exact (ae.out _).mono (fun _ _ h=>⟨h.1,BoxC.step _ h.2⟩)))
     refine wpQuiet_nil ?_;rintro w5 ⟨t5,rfl⟩;have af:=z_ t5.h;clear z0 z1 z2 nb ae;exact c89_
    ·obtain ⟨k,hk⟩:∃ k,j=k+1:=⟨j-1,by omega⟩
     have d2:decide (0<j)=true:=d_;have i3:IntKind.i64.wrap ((j:Int)-1)=(k:Int):=by rw [qc7 _ o_ o_];omega
     have i4:(0:Int)≤(k:Int):=o_;have i5:(k:Int)<(m:Int):=o_;obtain ⟨g',o',e',az,aA,ao,ap,aB,ai,aj,_⟩:=au.out k o_;have aW:g=g'∧o=o':=by
      injection e' with e'
      injection e' with e1 e2 _
      exact ⟨e1,e2⟩
     obtain ⟨rfl,rfl⟩:=aW;obtain ⟨s,hs⟩:=e_ (cmp (σ.getD k default).v (σ.getD j default).v)
     have ab:Hid (∀ t:BoxC (Below wr.heap.size wr),Calls Tryz.prog 92 #[aggB (σ.getD k default) (.slice az (σ.getD k default).v.args.length aA) (.slice ao (σ.getD k default).t.args.length ap),aggB (σ.getD j default) (.slice A1 (σ.getD j default).v.args.length c1) (.slice A2 (σ.getD j default).t.args.length c2)] t.W fun e w'=>e=.returned (.int .i64 s)∧Below t.W.heap.size t.W w'):=z_ (fun t=>by
      rw [hs];have aC:=ac.out.trans (t.h.mono ac.out.size)
      exact (qxm (σ.getD k default) (σ.getD j default) _ _ ao _ ap A2 _ c2 t.W (aB.below n_ aC) (HV.out.below n_ aC) ai).mono (fun _ _ h=>⟨h.1,h.2.below⟩))
     have aa:Hid (∀ t:BoxC (Below wr.heap.size wr),Cells8 t.W g (o+k*8) (σ.getD k default) az aA ao ap∧Cells8 t.W g (o+j*8) (σ.getD j default) A1 c1 A2 c2):=z_ (fun t=>⟨aj t.W (ac.out.trans (t.h.mono ac.out.size)),aV.out t.W (ac.out.trans (t.h.mono ac.out.size))⟩);have aD:Hid (s=cmp (σ.getD k default).v (σ.getD j default).v):=z_ hs;have HK:=z_ hk;unfold aggB at ab;obtain ⟨x,hx⟩:=e_ (σ.getD k default);obtain ⟨y,hy⟩:=e_ (σ.getD j default);rw [← hx,← hy] at ab aa;clear aB ai aj hs hk am e' hx hy;unfold Cells8 at aa;obtain ⟨x1,aE⟩:=e_ (x.v.op);rw [← aE] at ab aa;clear aE;obtain ⟨x2,aF⟩:=e_ (x.v.name);rw [← aF] at ab aa;clear aF;obtain ⟨x3,aG⟩:=e_ (x.v.sort);rw [← aG] at ab aa;clear aG;obtain ⟨x4,aH⟩:=e_ (x.v.args.length);rw [← aH] at ab aa;clear aH;obtain ⟨x5,aI⟩:=e_ (x.t.op);rw [← aI] at ab aa;clear aI;obtain ⟨x6,aJ⟩:=e_ (x.t.name);rw [← aJ] at ab aa;clear aJ;obtain ⟨x7,aK⟩:=e_ (x.t.sort);rw [← aK] at ab aa;clear aK;obtain ⟨x8,aL⟩:=e_ (x.t.args.length);rw [← aL] at ab aa;clear aL;obtain ⟨y1,aM⟩:=e_ (y.v.op);rw [← aM] at ab aa;clear aM;obtain ⟨y2,aN⟩:=e_ (y.v.name);rw [← aN] at ab aa;clear aN;obtain ⟨y3,aO⟩:=e_ (y.v.sort);rw [← aO] at ab aa;clear aO;obtain ⟨y4,aP⟩:=e_ (y.v.args.length);rw [← aP] at ab aa;clear aP;obtain ⟨y5,aQ⟩:=e_ (y.t.op);rw [← aQ] at ab aa;clear aQ;obtain ⟨y6,aR⟩:=e_ (y.t.name);rw [← aR] at ab aa;clear aR;obtain ⟨y7,aS⟩:=e_ (y.t.sort);rw [← aS] at ab aa;clear aS;obtain ⟨y8,aT⟩:=e_ (y.t.args.length);rw [← aT] at ab aa;clear aT;have c0:=fun t:BoxC (Below wr.heap.size wr)=>(aa.out t).1.1.1
     have aX:=fun t:BoxC (Below wr.heap.size wr)=>(aa.out t).1.1.2.1
     have aY:=fun t:BoxC (Below wr.heap.size wr)=>(aa.out t).1.1.2.2.1
     have c3:=fun t:BoxC (Below wr.heap.size wr)=>(aa.out t).1.1.2.2.2
     have c4:=fun t:BoxC (Below wr.heap.size wr)=>(aa.out t).1.2.1
     have c5:=fun t:BoxC (Below wr.heap.size wr)=>(aa.out t).1.2.2.1
     have c6:=fun t:BoxC (Below wr.heap.size wr)=>(aa.out t).1.2.2.2.1
     have c7:=fun t:BoxC (Below wr.heap.size wr)=>(aa.out t).1.2.2.2.2
     have c8:=fun t:BoxC (Below wr.heap.size wr)=>(aa.out t).2.1.1
     have c9:=fun t:BoxC (Below wr.heap.size wr)=>(aa.out t).2.1.2.1
     have aZ:=fun t:BoxC (Below wr.heap.size wr)=>(aa.out t).2.1.2.2.1
     have a2:=fun t:BoxC (Below wr.heap.size wr)=>(aa.out t).2.1.2.2.2
     have a6:=fun t:BoxC (Below wr.heap.size wr)=>(aa.out t).2.2.1
     have a7:=fun t:BoxC (Below wr.heap.size wr)=>(aa.out t).2.2.2.1
     have a8:=fun t:BoxC (Below wr.heap.size wr)=>(aa.out t).2.2.2.2.1
     have ba:=fun t:BoxC (Below wr.heap.size wr)=>(aa.out t).2.2.2.2.2
     go_wp2_with fail
     refine qa1 (C:=Below wr.heap.size wr) k_ k_ b_.drew ?_;repeat go_big_quiet_step (first|(go_at_call 91;exact (ae.out _).mono (fun _ _ h=>⟨h.1,BoxC.step _ h.2⟩))|(go_at_call 92;exact (ab.out _).mono (fun _ _ h=>⟨h.1,BoxC.step _ h.2⟩)))
     refine wpQuiet_nil ?_;rintro w5 ⟨t5,rfl⟩;have af:=z_ t5.h;clear z0 z1 z2 nb ae c0 aX aY c3 c4 c5 c6 c7 c8 c9 aZ a2 a6 a7 a8 ba aa ab;by_cases ag:s<0
     ·have d3:decide ((0:Int)≤s)=false:=f_
      have d4:decide (s<0)=true:=decide_eq_true ag;have d5:¬ (0≤s):=o_
      have an:Hid (∀ i,i<j+1→qdx P Q O (σ.getD i default)∧(0<i→cmp (σ.getD (i-1) default).v (σ.getD i default).v<0)):=z_ (fun i hi=>by
       by_cases e:i=j
       ·subst e
        refine ⟨ay.out,fun _=>?_⟩;have e2:i-1=k:=by have:=HK.out;omega
        rw [e2,← aD.out];exact ag
       ·exact HQ.out i o_)
      clear ag;exact c89_
     ·have d3:decide ((0:Int)≤s)=true:=d_
      have d4:decide (s<0)=false:=decide_eq_false ag;have d5:0≤s:=o_
      have HF:Hid (r=false):=z_ (by
       cases r with
       | false=>rfl
       | true=>
        have h1:=((HR.out.1 rfl).2 j (by have:=HM.out;omega)).2 (by have:=HK.out;omega);have e2:j-1=k:=by have:=HK.out;omega
        rw [e2,← aD.out] at h1
        exact absurd h1 ag)
      clear ag;exact c91_
  ·have d1:decide ((j:Int)<(m:Int))=false:=f_
   have HF:Hid (r=true):=z_ (HR.out.2 ⟨by have:=HM.out;omega,fun i hi=>HQ.out i (by have:=HM.out;omega)⟩);go_wp2;go_ret;exact ⟨qa0 HF.out.symm,ac.out⟩
end isub

namespace tst
open mem subs sortm sortp sorti rowl sigm sigs trm terml termb termt termx rowg gram gramn grami formt tsj tsn tso tss
set_option maxRecDepth 50000 in
set_option maxHeartbeats 8000000 in
theorem qo7 {N lo:Nat}(P:List (List UInt8))(Q:List (Int×Int))(O:List OpM)(va vb vc:Value)(t:TermM)(ve:Value)(w:World)(h:HasG w va vb vc P Q O)(ht:HasTs N lo w ve t.args)(hB:Bnd t)(hsz:sizes t.args≤1048576)(z:Bool)(hz:z=true↔qdp P Q O t):
  Calls Tryz.prog 81 #[.agg #[va,vb,vc],aggT t ve] w fun e w'=>e=.returned (.int .i64 ((sortsZ P Q O t z:Nat):Int))∧Below w.heap.size w w':=by
 have af:=z_ (fun W (hW:Below w.heap.size w W)=>qfe P Q O va vb vc t ve W (h.below n_ hW) (ht.below n_ hW) hB hsz z hz)
 have ad:Hid (z=true→∀ W,Below w.heap.size w W→Calls Tryz.prog 135 #[.agg #[va,vb,vc],aggT t ve] W fun e w'=>e=.returned (.int .i64 ((sortsT (clo P.length (prs Q)) O t:Nat):Int))∧Below W.heap.size W w'):=z_ (fun au W hW=>by
  have hs:=hz.1 au
  exact qs3 P Q O hs.1 N va vb vc t ve W lo (h.below n_ hW) (ht.below n_ hW) hB hs.2.2)
 have aa:Hid (z=true→sortsZ P Q O t z=sortsT (clo P.length (prs Q)) O t):=z_ (fun h=>by rw [sortsZ,if_pos h]);have ab:Hid (z=false→sortsZ P Q O t z=0):=z_ (fun h=>by rw [sortsZ,if_neg (by rw [h];simp)]);obtain ⟨sz,ac⟩:=e_ (sortsZ P Q O t z);rw [← ac] at aa ab ⊢;obtain ⟨sv,ai⟩:=e_ (sortsT (clo P.length (prs Q)) O t);rw [← ai] at aa ad;obtain ⟨B,cb,rfl,_⟩:=HasR.shape ht rfl;obtain ⟨A1,c1,A2,c2,A3,c3,rfl,rfl,rfl,_⟩:=h.shape;unfold aggT at af ad ⊢;obtain ⟨q,hq⟩:=e_ (t.args.length);obtain ⟨to,aj⟩:=e_ (t.op);obtain ⟨tn,ak⟩:=e_ (t.name);obtain ⟨ts,al⟩:=e_ (t.sort);obtain ⟨m1,am⟩:=e_ (P.length);obtain ⟨m2,an⟩:=e_ (Q.length);obtain ⟨m3,ao⟩:=e_ (O.length);rw [← hq,← aj,← ak,← al,← am,← an,← ao] at af ad ⊢;clear h ht hB hsz hz ac ai hq aj ak al am an ao;obtain ⟨W,hW⟩:=e_ ((w.alloc (.cells #[.slice A1 m1 c1,.slice A2 m2 c2,.slice A3 m3 c3] 46)).alloc (.cells #[.int .i64 to,.string (bstr tn),.int .i64 ts,.slice B q cb] 38));have ap:Below w.heap.size w W:=by
  rw [hW];exact v_
 have aq:Box34 w.heap.size (w.heap.size+1) (.slice A1 m1 c1) (.slice A2 m2 c2) (.slice A3 m3 c3) (.int .i64 to) (.string (bstr tn)) (.int .i64 ts) (.slice B q cb) W:=by
  rw [hW];exact ⟨tsl.box3 (tsl.qbh _ _ _),box4 (termt.qa5 _ _ _ (by simp))⟩
 have HX:=z_ aq;have ag:=z_ ap;clear ap aq;go_enter Tryz.func81,Tryz.ntmps81
 go_wp2_with fail
 rw [← hW];clear hW;refine (af.out _ ag.out).mono ?_;rintro e w1 ⟨rfl,ah⟩;have ae:=z_ (ag.out.trans (ah.mono ag.out.size));have av:=z_ (Box34.below HX.out ah);clear ah;cases z with
 | false=>
  have HQ:Hid (sz=0):=z_ (ab.out (by trivial));go_wp2;go_ret;exact ⟨qaa (by rw [HQ.out];rfl),ae.out⟩
 | true=>
  have HQ:Hid (sz=sv):=z_ (aa.out (by trivial));obtain ⟨⟨x0,x1,x2⟩,y0,y1,y2,y3⟩:=av.out;go_wp2_with fail
  refine (ad.out (by trivial) _ ae.out).mono ?_;rintro e w2 ⟨rfl,hb2⟩;have aw:=z_ (ae.out.trans (hb2.mono ae.out.size));clear hb2 x0 x1 x2 y0 y1 y2 y3;go_wp2;go_ret;exact ⟨qaa (by rw [HQ.out]),aw.out⟩
end tst

namespace ssub
open mem subs setm sets sortp sorti sortf rowl sigm sigs sigb trm terml termb termt termx termro termv rowg gram gramk gramn gramt formt formm frm grami tsj tsl tso tst bndl bndc isub
section
variable {P:List (List UInt8)} {Q:List (Int×Int)} {O:List OpM}
theorem qo8 {G:GrM}{t:TermM}(h:t.op=-1):qbx G t↔varB G t=true:=by
 constructor
 ·intro hg
  have h1:=((qbn _ t).1 hg.2).1;unfold qc0 at h1;rwa [if_pos h] at h1
 ·intro hv
  have h2:=hv;simp only [varB,Bool.and_eq_true,decide_eq_true_eq] at h2;have ha:t.args=[]:=List.eq_nil_of_length_eq_zero h2.2;refine ⟨⟨?_,?_,?_⟩,(qbn _ t).2 ⟨?_,fun a h=>by rw [ha] at h;cases h⟩⟩
  ·rw [termro.qao,ha];simp [sizes]
  ·rw [termro.qan,ha];simp [depths]
  ·exact (qbn _ t).2 ⟨by show t.args.length≤7;rw [ha];simp,fun a h=>by rw [ha] at h;cases h⟩
  ·unfold qc0
   rw [if_pos h];exact hv
theorem qwz (aa:qad P Q O=true)(b:BindM)(z:Bool)(hz:z=true↔qdp P Q O b.t):qdx P Q O b↔b.v.op=-1∧qdp P Q O b.v∧hasI ((sortsZ P Q O b.t z:Nat):Int) b.v.sort=true:=by
 have hU:(grM P Q O).U.length≤8:=by
  rw [qg8 aa];show (qal P Q).length≤8;rw [qlj aa];exact (qax (qa9 aa).1).2.1
 constructor
 ·rintro ⟨h1,h2,h3,h4⟩
  have h5:=h2;simp only [varB,Bool.and_eq_true,decide_eq_true_eq] at h5;obtain ⟨k,hk⟩:∃ k:Nat,b.v.sort=(k:Int):=⟨b.v.sort.toNat,by omega⟩;refine ⟨h1,(qbl b.v).1 ((qo8 h1).2 h2),?_⟩;rw [hk,Int.toNat_natCast] at h4;rw [hk,qej _ _ o_,sortsZ,if_pos (hz.2 h3)];exact h4
 ·rintro ⟨h1,h2,h4⟩
  have h3:=(qo8 h1).1 ((qbl b.v).2 h2);have h5:=h3;simp only [varB,Bool.and_eq_true,decide_eq_true_eq] at h5;obtain ⟨k,hk⟩:∃ k:Nat,b.v.sort=(k:Int):=⟨b.v.sort.toNat,by omega⟩;rw [hk,qej _ _ o_,sortsZ] at h4;cases z with
  | false=>
   rw [if_neg (by simp)] at h4;simp at h4
  | true=>
   rw [if_pos rfl] at h4;refine ⟨h1,h3,hz.1 rfl,?_⟩;rw [hk,Int.toNat_natCast];exact h4
end
theorem c101_ {p:Prop}(h:p:=by
 go_wp2_with fail
 rw [← hX];clear hX;refine qa1 (C:=Below X.heap.size X) k_ k_ b_.drew ?_;repeat go_big_quiet_step ((first|(go_at_call 37;exact (aj.out _).mono (fun _ _ h=>⟨h.1,BoxC.step _ h.2⟩))|(go_at_call 81;exact (ak.out _).mono (fun _ _ h=>⟨h.1,BoxC.step _ h.2⟩))|(go_at_call 80;exact (al.out _).mono (fun _ _ h=>⟨h.1,BoxC.step _ h.2⟩))))
 refine wpQuiet_nil ?_;rintro w5 ⟨t5,rfl⟩;have ac:=z_ t5.h;clear s0 s1 s2 p0 p1 p2 p3 p4 p5 p6 p7 nb aj ak al;go_wp2;go_ret;exact ⟨qa0 HF.out.symm,ad.out.trans (ac.out.mono ad.out.size)⟩
):p:=h
theorem c102_ {p:Prop}(h:p:=by
 go_wp2;go_roundw
 case rel=>exact ⟨j+1,by go_num,by omega,aU,z_ (az.out.trans (aA.out.mono az.out.size))⟩
 case measure=>simp [intOf];omega
):p:=h
theorem c103_ {p:Prop}(h:p:=by
 go_wp2;go_ret;exact ⟨qa0 HF.out.symm,an.out.trans (aF.out.mono an.out.size)⟩
):p:=h
set_option maxRecDepth 50000 in
set_option maxHeartbeats 8000000 in
theorem qCh {n lo:Nat}(P:List (List UInt8))(Q:List (Int×Int))(O:List OpM)(va vb vc:Value)(σ:List BindM)(lv:Value)(w:World)(h:HasG w va vb vc P Q O)(hl:HasBs n lo w lv σ)(hsz:bsz σ≤1048576)(r:Bool)(hr:r=true↔qad P Q O=true∧SubP P Q O σ):
  Calls Tryz.prog 36 #[.agg #[va,vb,vc],lv] w fun e w'=>e=.returned (.bool r)∧Below w.heap.size w w':=by
 obtain ⟨sb,aB⟩:∃ b,qad P Q O=b:=⟨_,rfl⟩;have aC:=z_ (fun W (hW:Below w.heap.size w W)=>qkg P Q O va vb vc sb aB W (h.below n_ hW));obtain ⟨m,hm⟩:=e_ (σ.length);obtain ⟨L,cl,rfl,_⟩:=HasR.shape hl hm.symm
 have aD:Hid (∀ j,j<m→∃ (g o:Nat),L=some ⟨g,o,none⟩∧∃ (A1:Option Addr) (c1:Nat) (A2:Option Addr) (c2:Nat),HasTs n lo w (.slice A1 (σ.getD j default).v.args.length c1) (σ.getD j default).v.args∧(∀ w3,Below w.heap.size w w3→Cells8 w3 g (o+j*8) (σ.getD j default) A1 c1 A2 c2)∧
   (∀ (b:Bool),(b=true↔qdp P Q O (σ.getD j default).v)→∀ w3,Below w.heap.size w w3→Calls Tryz.prog 37 #[.agg #[va,vb,vc],aggT (σ.getD j default).v (.slice A1 (σ.getD j default).v.args.length c1)] w3 fun e w'=>e=.returned (.bool b)∧Below w3.heap.size w3 w')∧
   (∀ (b:Bool),(b=true↔qdp P Q O (σ.getD j default).t)→∀ w3,Below w.heap.size w w3→Calls Tryz.prog 81 #[.agg #[va,vb,vc],aggT (σ.getD j default).t (.slice A2 (σ.getD j default).t.args.length c2)] w3 fun e w'=>e=.returned (.int .i64 ((sortsZ P Q O (σ.getD j default).t b:Nat):Int))∧Below w3.heap.size w3 w')):=z_ (fun j hj=>by
  obtain ⟨g,o,A1,c1,A2,c2,e,hg,au,h1,h2,h3,h4⟩:=qe3 hl hj;have bx:=qu2 (L:=σ) (j:=j) o_;refine ⟨g,o,e,A1,c1,A2,c2,h1,fun w3 am=>au.below am,fun b hb w3 am=>?_,fun b hb w3 am=>?_⟩
  ·exact qfe P Q O va vb vc _ _ w3 (h.below n_ am) (h1.below n_ am) h3 o_ b hb
  ·exact qo7 P Q O va vb vc _ _ w3 (h.below n_ am) (h2.below n_ am) h4 o_ b hb)
 obtain ⟨A1,c1,A2,c2,A3,c3,rfl,rfl,rfl,_⟩:=h.shape;have HM:=z_ hm;have bz:m≤1048576:=by have:=qku σ;omega
 obtain ⟨m1,aV⟩:=e_ (P.length);obtain ⟨m2,aW⟩:=e_ (Q.length);obtain ⟨m3,aX⟩:=e_ (O.length);rw [← aV,← aW,← aX] at aC aD ⊢;have aE:=z_ aB;have HR:=z_ hr;obtain ⟨W,hW⟩:=e_ (w.alloc (.cells #[.slice A1 m1 c1,.slice A2 m2 c2,.slice A3 m3 c3] 46));have aY:=fr1_ hW;have hX:=fr2_ hW;have bA:=fr3_ hW;have an:=z_ aY;have HX:Hid (∀ w3,Below W.heap.size W w3→w3.cell? ⟨w.heap.size,0,none⟩=some (.slice A1 m1 c1)∧w3.cell? ⟨w.heap.size,1,none⟩=some (.slice A2 m2 c2)∧w3.cell? ⟨w.heap.size,2,none⟩=some (.slice A3 m3 c3)):=z_ (fun w3 h3=>tsl.box3 ((h3.block _ o_).trans hX));obtain ⟨x0,x1,x2⟩:=HX.out W b_;clear h hl hsz hr hX aY hm aV aW aX aB;go_enter Tryz.func36,Tryz.ntmps36
 go_wp2_with fail
 rw [← hW];clear hW;go_wp2_with fail
 refine (aC.out W an.out).mono ?_;rintro e w1 ⟨rfl,aZ⟩;have aF:=z_ aZ;clear aZ x0 x1 x2 aC;cases sb with
 | false=>
  have HF:Hid (r=false):=z_ (by
   cases r with
   | false=>rfl
   | true=>have h1:=(HR.out.1 rfl).1;rw [aE.out] at h1;cases h1)
  exact c103_
 | true=>
 have a8:Hid (qad P Q O=true):=z_ (by rw [aE.out]);clear aE;by_cases h8:8<m
 ·have d0:decide ((8:Int)<(m:Int))=true:=d_
  have HF:Hid (r=false):=z_ (by
   cases r with
   | false=>rfl
   | true=>have h1:=(HR.out.1 rfl).2.1;have:=HM.out;omega)
  exact c103_
 have d0:decide ((8:Int)<(m:Int))=false:=f_;go_wp2;go_loopw [5] (fun v5 wr=>∃ j:Nat,v5=.int .i64 j∧j≤m∧Hid (∀ i,i<j→qdx P Q O (σ.getD i default)∧(0<i→cmp (σ.getD (i-1) default).v (σ.getD i default).v<0))∧Hid (Below W.heap.size W wr)) (fun i _=>m-(intOf i).toNat)
 case atStart=>exact ⟨0,rfl,y_,z_ (fun i hi=>absurd hi (Nat.not_lt_zero _)),aF⟩
 case round=>
  obtain ⟨j,rfl,hj,HQ,HB⟩:=hrel;have ay:=z_ (an.out.trans (HB.out.mono an.out.size));by_cases hlt:j<m
  ·have d1:decide ((j:Int)<(m:Int))=true:=d_
   obtain ⟨g,o,rfl,B1,e1,B2,e2,hv,au,ba,bb⟩:=aD.out j hlt;obtain ⟨tv,aG⟩:=x_ (qdp P Q O (σ.getD j default).v);obtain ⟨tz,aH⟩:=x_ (qdp P Q O (σ.getD j default).t);obtain ⟨hb,aI⟩:∃ b:Bool,hasI ((sortsZ P Q O (σ.getD j default).t tz:Nat):Int) (σ.getD j default).v.sort=b:=⟨_,rfl⟩;have aJ:=qwz a8.out (σ.getD j default) tz aH;rw [aI] at aJ;have av:Hid (qdx P Q O (σ.getD j default)↔(σ.getD j default).v.op=-1∧tv=true∧hb=true):=z_ (by rw [aJ,aG]);have ah:j<σ.length:=by have:=HM.out;omega
   have ao:Hid (¬ ((σ.getD j default).v.op=-1∧tv=true∧hb=true)→r=false):=z_ (fun hn=>by
    cases r with
    | false=>rfl
    | true=>exact absurd (av.out.1 (((HR.out.1 rfl).2.2 j ah).1)) hn)
   have ab:=z_ (ba tv aG);have aa:=z_ (bb tz aH);have bm:=z_ au;have HV:=z_ hv;have c8:=au wr ay.out;have aw:=z_ (fun W=>qc8 _ _ hb aI W);clear ba bb au hv aG aH aJ aI ah;obtain ⟨x,hx⟩:=e_ (σ.getD j default);have bc:=z_ hx;rw [← hx] at ab aa bm HV c8 aw av ao;clear hx;obtain ⟨sz,hsz⟩:=e_ (sortsZ P Q O x.t tz);rw [← hsz] at aa aw;clear hsz;unfold aggT at ab aa;unfold Cells8 at c8;obtain ⟨y1,aK⟩:=e_ (x.v.op);have bn:=z_ aK;rw [← aK] at ab av ao c8;clear aK;obtain ⟨y2,aL⟩:=e_ (x.v.name);have bo:=z_ aL;rw [← aL] at ab c8;clear aL;obtain ⟨y3,aM⟩:=e_ (x.v.sort);have bp:=z_ aM;rw [← aM] at ab aw c8;clear aM;obtain ⟨y4,aN⟩:=e_ (x.v.args.length);have bq:=z_ aN;rw [← aN] at ab c8;clear aN;obtain ⟨y5,aO⟩:=e_ (x.t.op);have bB:=z_ aO;rw [← aO] at aa c8;clear aO;obtain ⟨y6,aP⟩:=e_ (x.t.name);have bC:=z_ aP;rw [← aP] at aa c8;clear aP;obtain ⟨y7,aQ⟩:=e_ (x.t.sort);have bD:=z_ aQ;rw [← aQ] at aa c8;clear aQ;obtain ⟨y8,aR⟩:=e_ (x.t.args.length);have bE:=z_ aR;rw [← aR] at aa c8;clear aR;obtain ⟨⟨a0,a1,a2,a3⟩,a4,a5,a6,a7⟩:=c8;have i1:(0:Int)≤(j:Int):=o_;have i2:(j:Int)<(m:Int):=o_;obtain ⟨X,hX⟩:=e_ (wr.alloc (.cells #[.int .i64 y1,.string (bstr y2),.int .i64 y3,.slice B1 y4 e1,.int .i64 y5,.string (bstr y6),.int .i64 y7,.slice B2 y8 e2] 85));have aS:=fr1_ hX;have bd:=fr2_ hX;have br:=fr3_ hX;have ai:=z_ (HB.out.trans (aS.mono HB.out.size));have ad:=z_ (ay.out.trans (aS.mono ay.out.size));have HE:Hid (∀ w3,Below X.heap.size X w3→_):=z_ (fun w3 (h3:Below X.heap.size X w3)=>bndc.qj8 ((h3.block _ o_).trans bd));have s0:=fun t:BoxC (Below X.heap.size X)=>(HX.out t.W (ai.out.trans (t.h.mono ai.out.size))).1
   have s1:=fun t:BoxC (Below X.heap.size X)=>(HX.out t.W (ai.out.trans (t.h.mono ai.out.size))).2.1
   have s2:=fun t:BoxC (Below X.heap.size X)=>(HX.out t.W (ai.out.trans (t.h.mono ai.out.size))).2.2
   have p0:=fun t:BoxC (Below X.heap.size X)=>(HE.out t.W t.h).1.1
   have p1:=fun t:BoxC (Below X.heap.size X)=>(HE.out t.W t.h).1.2.1
   have p2:=fun t:BoxC (Below X.heap.size X)=>(HE.out t.W t.h).1.2.2.1
   have p3:=fun t:BoxC (Below X.heap.size X)=>(HE.out t.W t.h).1.2.2.2
   have p4:=fun t:BoxC (Below X.heap.size X)=>(HE.out t.W t.h).2.1
   have p5:=fun t:BoxC (Below X.heap.size X)=>(HE.out t.W t.h).2.2.1
   have p6:=fun t:BoxC (Below X.heap.size X)=>(HE.out t.W t.h).2.2.2.1
   have p7:=fun t:BoxC (Below X.heap.size X)=>(HE.out t.W t.h).2.2.2.2
   have nb:Nonempty (BoxC (Below X.heap.size X)):=⟨⟨_,Below.refl _ _⟩⟩;have aj:Hid (∀ t:BoxC (Below X.heap.size X),_):=z_ (fun t:BoxC (Below X.heap.size X)=>ab.out t.W (ad.out.trans (t.h.mono ad.out.size)));have ak:Hid (∀ t:BoxC (Below X.heap.size X),_):=z_ (fun t:BoxC (Below X.heap.size X)=>aa.out t.W (ad.out.trans (t.h.mono ad.out.size)));have al:Hid (∀ t:BoxC (Below X.heap.size X),Calls Tryz.prog 80 #[.int .i64 (sz:Int),.int .i64 y3] t.W fun e w'=>e=.returned (.bool hb)∧Below t.W.heap.size t.W w'):=z_ (fun t=>(aw.out t.W).mono (fun _ _ h=>⟨h.1,h.2 ▸ Below.refl _ _⟩));clear aS bd br ab aa aw;by_cases af:y1=-1
   ·have o1:(y1 != -1)=false:=by simp [af]
    have o2:(y1==-1)=true:=by simp [af]
    have o3:decide (y1=-1)=true:=decide_eq_true af;have bs:=z_ af;clear af;cases tv with
    | false=>
     have HF:Hid (r=false):=z_ (ao.out (fun h=>by cases h.2.1));exact c101_
    | true=>
     cases hb with
     | false=>
      have HF:Hid (r=false):=z_ (ao.out (fun h=>by cases h.2.2));exact c101_
     | true=>
      have be:Hid (qdx P Q O (σ.getD j default)):=z_ (by rw [← bc.out];exact av.out.2 ⟨bs.out,rfl,rfl⟩);clear av ao;go_wp2_with fail
      rw [← hX];clear hX;refine qa1 (C:=Below X.heap.size X) k_ k_ b_.drew ?_;repeat go_big_quiet_step ((first|(go_at_call 37;exact (aj.out _).mono (fun _ _ h=>⟨h.1,BoxC.step _ h.2⟩))|(go_at_call 81;exact (ak.out _).mono (fun _ _ h=>⟨h.1,BoxC.step _ h.2⟩))|(go_at_call 80;exact (al.out _).mono (fun _ _ h=>⟨h.1,BoxC.step _ h.2⟩))))
      refine wpQuiet_nil ?_;rintro w5 ⟨t5,rfl⟩;have ac:=z_ t5.h;obtain ⟨Y,hY⟩:=e_ (t5.W);rw [← hY] at ac ⊢;have ap:=z_ (ad.out.trans (ac.out.mono ad.out.size));have az:=z_ (ai.out.trans (ac.out.mono ai.out.size));clear s0 s1 s2 p0 p1 p2 p3 p4 p5 p6 p7 nb aj ak al hY;have p0:=fun t:BoxC (Below Y.heap.size Y)=>(HE.out t.W (ac.out.trans (t.h.mono ac.out.size))).1.1
      have p1:=fun t:BoxC (Below Y.heap.size Y)=>(HE.out t.W (ac.out.trans (t.h.mono ac.out.size))).1.2.1
      have p2:=fun t:BoxC (Below Y.heap.size Y)=>(HE.out t.W (ac.out.trans (t.h.mono ac.out.size))).1.2.2.1
      have p3:=fun t:BoxC (Below Y.heap.size Y)=>(HE.out t.W (ac.out.trans (t.h.mono ac.out.size))).1.2.2.2
      have nb:Nonempty (BoxC (Below Y.heap.size Y)):=⟨⟨_,Below.refl _ _⟩⟩;by_cases aT:j=0
      ·have d2:decide (0<j)=false:=f_
       have aU:Hid (∀ i,i<j+1→qdx P Q O (σ.getD i default)∧(0<i→cmp (σ.getD (i-1) default).v (σ.getD i default).v<0)):=z_ (fun i hi=>by
        obtain rfl:i=j:=o_
        exact ⟨be.out,fun h=>by omega⟩)
       have bF:=z_ aT;clear aT;go_wp2_with fail
       refine qa1 (C:=Below Y.heap.size Y) k_ k_ b_.drew ?_;repeat go_big_quiet_step (fail)
       refine wpQuiet_nil ?_;rintro w6 ⟨t6,rfl⟩;have aA:=z_ t6.h;clear p0 p1 p2 p3 nb;exact c102_
      ·obtain ⟨k,hk⟩:∃ k,j=k+1:=⟨j-1,by omega⟩
       have d2:decide (0<j)=true:=d_;have i3:IntKind.i64.wrap ((j:Int)-1)=(k:Int):=by rw [qc7 _ o_ o_];omega
       have i4:(0:Int)≤(k:Int):=o_;have i5:(k:Int)<(m:Int):=o_;obtain ⟨g',o',e',D1,f1,D2,f2,bf,ax,_,_⟩:=aD.out k o_;have bt:g=g'∧o=o':=by
        injection e' with e'
        injection e' with e1 e2 _
        exact ⟨e1,e2⟩
       obtain ⟨rfl,rfl⟩:=bt;obtain ⟨s,hs⟩:=e_ (cmp (σ.getD k default).v (σ.getD j default).v)
       have ag:Hid (∀ t:BoxC (Below Y.heap.size Y),Calls Tryz.prog 82 #[aggT (σ.getD k default).v (.slice D1 (σ.getD k default).v.args.length f1),aggT x.v (.slice B1 x.v.args.length e1)] t.W fun e w'=>e=.returned (.int .i64 s)∧Below t.W.heap.size t.W w'):=z_ (fun t=>by
        have bg:=ap.out.trans (t.h.mono ap.out.size);rw [hs,← bc.out]
        exact qhj _ _ _ _ t.W (bf.below n_ bg) (HV.out.below n_ bg))
       have ae:Hid (∀ t:BoxC (Below Y.heap.size Y),Cells8 t.W g (o+k*8) (σ.getD k default) D1 f1 D2 f2):=z_ (fun t=>ax t.W (ap.out.trans (t.h.mono ap.out.size)));have bh:Hid (s=cmp (σ.getD k default).v (σ.getD j default).v):=z_ hs;have HK:=z_ hk;obtain ⟨y,hy⟩:=e_ (σ.getD k default);rw [← hy] at ag ae;unfold aggT at ag;rw [← bn.out,← bo.out,← bp.out,← bq.out] at ag;clear bf ax hs hk aT e' hy;unfold Cells8 at ae;obtain ⟨z1,bi⟩:=e_ (y.v.op);rw [← bi] at ag ae;clear bi;obtain ⟨z2,bj⟩:=e_ (y.v.name);rw [← bj] at ag ae;clear bj;obtain ⟨z3,bk⟩:=e_ (y.v.sort);rw [← bk] at ag ae;clear bk;obtain ⟨z4,bl⟩:=e_ (y.v.args.length);rw [← bl] at ag ae;clear bl;have c0:=fun t:BoxC (Below Y.heap.size Y)=>(ae.out t).1.1
       have bu:=fun t:BoxC (Below Y.heap.size Y)=>(ae.out t).1.2.1
       have bv:=fun t:BoxC (Below Y.heap.size Y)=>(ae.out t).1.2.2.1
       have bw:=fun t:BoxC (Below Y.heap.size Y)=>(ae.out t).1.2.2.2
       go_wp2_with fail
       refine qa1 (C:=Below Y.heap.size Y) k_ k_ b_.drew ?_;repeat go_big_quiet_step ((go_at_call 82;exact (ag.out _).mono (fun _ _ h=>⟨h.1,BoxC.step _ h.2⟩)))
       refine wpQuiet_nil ?_;rintro w6 ⟨t6,rfl⟩;have aA:=z_ t6.h;clear p0 p1 p2 p3 nb c0 bu bv bw ae ag;by_cases aq:s<0
       ·have d3:decide ((0:Int)≤s)=false:=f_
        have d4:decide (s<0)=true:=decide_eq_true aq;have d5:¬ (0≤s):=o_
        have aU:Hid (∀ i,i<j+1→qdx P Q O (σ.getD i default)∧(0<i→cmp (σ.getD (i-1) default).v (σ.getD i default).v<0)):=z_ (fun i hi=>by
         by_cases e:i=j
         ·subst e
          refine ⟨be.out,fun _=>?_⟩;have e2:i-1=k:=by have:=HK.out;omega
          rw [e2,← bh.out];exact aq
         ·exact HQ.out i o_)
        clear aq;exact c102_
       ·have d3:decide ((0:Int)≤s)=true:=d_
        have d4:decide (s<0)=false:=decide_eq_false aq;have d5:0≤s:=o_
        have HF:Hid (r=false):=z_ (by
         cases r with
         | false=>rfl
         | true=>
          have h1:=((HR.out.1 rfl).2.2 j (by have:=HM.out;omega)).2 (by have:=HK.out;omega);have e2:j-1=k:=by have:=HK.out;omega
          rw [e2,← bh.out] at h1
          exact absurd h1 aq)
        clear aq;go_wp2;go_ret;exact ⟨qa0 HF.out.symm,ap.out.trans (aA.out.mono ap.out.size)⟩
   ·have o1:(y1 != -1)=true:=by simp [af]
    have o2:(y1==-1)=false:=by simp [af]
    have o3:decide (y1=-1)=false:=decide_eq_false af;have HF:Hid (r=false):=z_ (ao.out (fun h=>af h.1));clear af;exact c101_
  ·have d1:decide ((j:Int)<(m:Int))=false:=f_
   have HF:Hid (r=true):=z_ (HR.out.2 ⟨a8.out,by have:=HM.out;omega,fun i hi=>HQ.out i (by have:=HM.out;omega)⟩);go_wp2;go_ret;exact ⟨qa0 HF.out.symm,ay.out⟩
end ssub
end Go.Proofs.YtiilamngcoegiaaGreat
