
import Derived.Test.YtiilamngcoegiaaGreatQPk05
import Derived.Deep.RegionHeld3
namespace Go.Proofs.YtiilamngcoegiaaGreat.bndt
set_option maxRecDepth 20000
set_option maxHeartbeats 2000000
open Go.ChangeShapes Go.WideShapes Go.ChangeAt Go.RowKit
variable {n lo p x m lo':Nat}{w:World}{t:TypeId}{ys:List Value}{a b c d a' b' c' d':Value}
open mem rowl trm terml termb termt termu bndl
theorem qjo{v0 v1 v2 v3 v4 v5 v6 v7:Value}(h:w.heap[x]? =some (.cells #[v0,v1,v2,v3,v4,v5,v6,v7] t (0,0))):(w.cell? ⟨x,0,none⟩=some v0∧w.cell? ⟨x,1,none⟩=some v1∧w.cell? ⟨x,2,none⟩=some v2∧w.cell? ⟨x,3,none⟩=some v3)∧w.cell? ⟨x,4,none⟩=some v4∧w.cell? ⟨x,5,none⟩=some v5∧w.cell? ⟨x,6,none⟩=some v6∧w.cell? ⟨x,7,none⟩=some v7:=
 ⟨⟨h_ w x 0 _ _ _ h,h_ w x 1 _ _ _ h,h_ w x 2 _ _ _ h,h_ w x 3 _ _ _ h⟩,h_ w x 4 _ _ _ h,h_ w x 5 _ _ _ h,h_ w x 6 _ _ _ h,h_ w x 7 _ _ _ h⟩
theorem qi8{cs:Array Value}{f:Nat×Nat}(h:w.heap[x]? =some (.cells cs t f))(i:Nat)(u:Value):(w.setCell ⟨x,i,none⟩ u).heap[x]? =some (.cells (cs.setIfInBounds i u) t f):=by
 simp [World.setCell,Array.getElem?_modify,h]
theorem qBz (b:BindM)(va vb:Value)(w:World)(ha:HasTs n lo w va b.v.args)(hb:HasTs n lo w vb b.t.args)(hv:Bnd b.v)(ht:Bnd b.t)(m:Int)(hm:0≤m)(ap:m≤1048576):
  Calls Tryz.prog 34 #[aggB b va vb,.int .i64 m] w fun e w'=>∃ r:Int,e=.returned (.int .i64 r)∧(0≤r→r+qa2 b.v.args+qa2 b.t.args≤m)∧-1≤r∧r≤1048576∧Below w.heap.size w w':=by
 have HA:=z_ (fun W (hW:Below w.heap.size w W) m h1 h2=>qer b.v.op b.v.name b.v.sort b.v.args va W hv.1 (ha.below n_ hW) m h1 h2);have HB:=z_ (fun W (hW:Below w.heap.size w W) m h1 h2=>qer b.t.op b.t.name b.t.sort b.t.args vb W ht.1 (hb.below n_ hW) m h1 h2);obtain ⟨A,ca,rfl,_⟩:=HasR.shape ha rfl;obtain ⟨B,cb,rfl,_⟩:=HasR.shape hb rfl;unfold aggB;obtain ⟨o1,ag⟩:=e_ (b.v.op);obtain ⟨n1,ah⟩:=e_ (b.v.name);obtain ⟨s1,ab⟩:=e_ (b.v.sort);obtain ⟨k1,ai⟩:=e_ (b.v.args.length);obtain ⟨o2,aj⟩:=e_ (b.t.op);obtain ⟨n2,ak⟩:=e_ (b.t.name);obtain ⟨s2,ac⟩:=e_ (b.t.sort);obtain ⟨k2,al⟩:=e_ (b.t.args.length);rw [← ag,← ah,← ab,← ai] at HA ⊢;rw [← aj,← ak,← ac,← al] at HB ⊢;obtain ⟨W,hW⟩:=e_ (w.alloc (.cells #[.int .i64 o1,.string (bstr n1),.int .i64 s1,.slice A k1 ca,.int .i64 o2,.string (bstr n2),.int .i64 s2,.slice B k2 cb] 77));have am:=fr1_ hW;have hx:=qjo (show W.heap[w.heap.size]? =some _ by rw [hW];exact qa5 _ _ _ rfl);have HX:=z_ hx;have ae:=z_ am;obtain ⟨⟨x0,x1,x2,x3⟩,x4,x5,x6,x7⟩:=hx;clear ha hb hv ht ag ah ab ai aj ak ac al am;go_enter Tryz.func34,Tryz.ntmps34
 go_wp2_with fail
 rw [← hW];clear hW;refine (HA.out W ae.out m hm ap).mono ?_;rintro e w1 ⟨r,rfl,hr,av,aq,af⟩;have ad:=ae.out.trans (af.mono ae.out.size);have k:∀ {g o:Nat} {v:Value},W.cell? ⟨g,o,none⟩=some v→w1.cell? ⟨g,o,none⟩=some v:=fun {g o v} h=>(af.cell (p:=⟨g,o,none⟩) (World.block_lt_of_cell? W _ h)).trans h
 obtain ⟨_,a4,a5,a6,a7⟩:=HX.out;have d4:=k a4;have d5:=k a5;have d6:=k a6;have d7:=k a7;have HR:=z_ hr;clear k af a4 a5 a6 a7 x0 x1 x2 x3 x4 x5 x6 x7 hr;by_cases au:r<0
 ·go_wp2
  go_ret;exact ⟨-1,rfl,fun h=>by omega,by omega,by omega,ad⟩
 ·go_wp2_with fail
  refine (HB.out w1 ad r o_ aq).mono ?_;rintro e w2 ⟨r2,rfl,hs,ab,ac,an⟩;have aa:=ad.trans (an.mono ad.size);have HS:=z_ hs;clear an hs;by_cases ao:r2<0
  ·go_wp2
   go_ret;exact ⟨-1,rfl,fun h=>by omega,by omega,by omega,aa⟩
  ·go_wp2
   go_ret;exact ⟨r2,rfl,fun h=>by have h1:=HS.out h;have h2:=HR.out o_;omega,ab,ac,aa⟩
theorem qzx (L:List BindM)(v:Value)(w:World)(h:HasBs n lo w v L)(m:Int)(hm:0≤m)(aq:m≤1048576):
  Calls Tryz.prog 8 #[v,.int .i64 m] w fun e w'=>∃ r:Int,e=.returned (.int .i64 r)∧(0≤r→r+bsz L≤m)∧-1≤r∧r≤1048576∧Below w.heap.size w w':=by
 obtain ⟨N,hN⟩:=e_ (L.length);obtain ⟨A,c,rfl,h⟩:=HasR.shape h hN.symm;have hl:=h.len.2.1;have HH:=z_ h;have HN:=z_ hN;clear h hN;by_cases al:m-(N:Int)<0
 ·go_enter Tryz.func8,Tryz.ntmps8
  go_wp2;go_ret;exact ⟨-1,rfl,fun h=>by omega,by omega,by omega,Below.refl _ _⟩
 ·have au:(N:Int)≤m:=o_
  go_enter Tryz.func8,Tryz.ntmps8
  go_wp2;go_loopw [1,5] (fun v i wr=>∃ (k:Nat) (r:Int),k≤N∧i=.int .i64 k∧v=.int .i64 r∧0≤r∧r≤1048576∧Hid (r+(N-k)+bsz (L.take k)≤m)∧Below w.heap.size w wr) (fun _ i _=>N-(intOf i).toNat)
  case atStart=>exact ⟨0,_,y_,rfl,rfl,by omega,by omega,z_ (by have:bsz (L.take 0)=0:=rfl;omega),Below.refl _ _⟩
  case round=>
   obtain ⟨k,r,hk,rfl,rfl,am,ad,ae,aa⟩:=hrel;by_cases an:k<N
   ·obtain ⟨g,o,A1,c1,A2,c2,rfl,hg,hc,h1,h2,hv,ht⟩:=qdc HH.out an
    obtain ⟨⟨x0,x1,x2,x3⟩,x4,x5,x6,x7⟩:=hc.below aa;have ab:=h1.below n_ aa;have ac:=h2.below n_ aa;have af:Hid (bsz (L.take (k+1))=bsz (L.take k)+(1+qa2 (L.getD k default).v.args+qa2 (L.getD k default).t.args)):=z_ (qxv Ac_);obtain ⟨b,ag⟩:=e_ (L.getD k default);rw [← ag] at x0 x1 x2 x3 x4 x5 x6 x7 ab ac hv ht af;have HZ:=z_ (qBz b _ _ wr ab ac hv ht);obtain ⟨k1,ah⟩:=e_ (b.v.args.length);obtain ⟨k2,ai⟩:=e_ (b.t.args.length);unfold aggB at HZ;rw [← ah] at x3 HZ;rw [← ai] at x7 HZ;clear hc h1 h2 ab ac hv ht ag ah ai;go_wp2_with fail
    refine (HZ.out r am ad).mono ?_;rintro e w2 ⟨r2,rfl,hs,av,ao,aj⟩;have ap:=z_ hs;clear hs x0 x1 x2 x3 x4 x5 x6 x7;by_cases ak:r2<0
    ·go_wp2
     go_ret;exact ⟨-1,rfl,fun h=>by omega,by omega,by omega,aa.trans (aj.mono aa.size)⟩
    ·go_wp2
     go_roundw
     case rel=>exact ⟨k+1,r2,by omega,by go_num,rfl,by omega,ao,z_ (by have h1:=ap.out o_;have h2:=ae.out;have h3:=af.out;omega),aa.trans (aj.mono aa.size)⟩
     case measure=>simp [intOf];omega
   ·obtain rfl:k=N:=o_
    have HE:Hid (r+bsz L≤m):=z_ (by have h2:=ae.out;rw [HN.out,List.take_length] at h2;omega);go_wp2;go_ret;exact ⟨r,rfl,fun _=>HE.out,by omega,ad,aa⟩
theorem qC0 (b:BindM)(va vb:Value)(w:World)(ha:HasTs n lo w va b.v.args)(hb:HasTs n lo w vb b.t.args)(aA:qa2 b.v.args≤1048576)(aB:qa2 b.t.args≤1048576):
  Calls Tryz.prog 42 #[aggB b va vb] w fun e w'=>∃ ag ah,e=.returned (aggB b ag ah)∧HasTs (n+1) w.heap.size w' ag b.v.args∧HasTs (n+1) w.heap.size w' ah b.t.args∧Below w.heap.size w w':=by
 have HA:=z_ (fun W (hW:Below w.heap.size w W)=>qes b.v.op b.v.name b.v.sort b.v.args aA va W (ha.below n_ hW));have HB:=z_ (fun W (hW:Below w.heap.size w W)=>qes b.t.op b.t.name b.t.sort b.t.args aB vb W (hb.below n_ hW));obtain ⟨A,ca,rfl,_⟩:=HasR.shape ha rfl;obtain ⟨B,cb,rfl,_⟩:=HasR.shape hb rfl;have ai:Hid (∀ {W lo v S},OT 38 (n+1) lo W v b.v.args S→∃ A c,v=.slice A b.v.args.length c):=z_ (fun h=>OT.shape h);have aj:Hid (∀ {W lo v S},OT 38 (n+1) lo W v b.t.args S→∃ A c,v=.slice A b.t.args.length c):=z_ (fun h=>OT.shape h);unfold aggB;obtain ⟨o1,aC⟩:=e_ (b.v.op);obtain ⟨n1,aD⟩:=e_ (b.v.name);obtain ⟨s1,ak⟩:=e_ (b.v.sort);obtain ⟨k1,aq⟩:=e_ (b.v.args.length);obtain ⟨o2,aE⟩:=e_ (b.t.op);obtain ⟨n2,aF⟩:=e_ (b.t.name);obtain ⟨s2,al⟩:=e_ (b.t.sort);obtain ⟨k2,au⟩:=e_ (b.t.args.length);rw [← aq] at ai;rw [← au] at aj;rw [← aC,← aD,← ak,← aq] at HA ⊢;rw [← aE,← aF,← al,← au] at HB ⊢;obtain ⟨W,hW⟩:=e_ (((w.alloc (.cells #[.int .i64 o1,.string (bstr n1),.int .i64 s1,.slice A k1 ca,.int .i64 o2,.string (bstr n2),.int .i64 s2,.slice B k2 cb] 77)).alloc (.cells #[.int .i64 0,.string { data:=#[] },.int .i64 0,.slice none 0 0,.int .i64 0,.string { data:=#[] },.int .i64 0,.slice none 0 0] 85)).alloc (.cells #[.int .i64 0,.string { data:=#[] },.int .i64 0,.slice none 0 0,.int .i64 0,.string { data:=#[] },.int .i64 0,.slice none 0 0] 85));have aG:Below w.heap.size w W:=by rw [hW];exact ((b_.alloc n_ _).alloc (by simp) _).alloc (by simp;omega) _
 have aH:W.heap.size=w.heap.size+3:=by rw [hW];simp
 have av:W.heap[w.heap.size]? =some (.cells #[.int .i64 o1,.string (bstr n1),.int .i64 s1,.slice A k1 ca,.int .i64 o2,.string (bstr n2),.int .i64 s2,.slice B k2 cb] 77 (0,0)):=by rw [hW];exact (Below.heap_alloc _ _ _ (by simp;omega)).trans ((Below.heap_alloc _ _ _ (by simp)).trans (qa5 _ _ _ rfl))
 have aI:W.heap[w.heap.size+1]? =some (.cells #[.int .i64 0,.string { data:=#[] },.int .i64 0,.slice none 0 0,.int .i64 0,.string { data:=#[] },.int .i64 0,.slice none 0 0] 85 (0,0)):=by rw [hW];exact (Below.heap_alloc _ _ _ (by simp)).trans (qa5 _ _ _ (by simp))
 have aJ:W.heap[w.heap.size+2]? =some (.cells #[.int .i64 0,.string { data:=#[] },.int .i64 0,.slice none 0 0,.int .i64 0,.string { data:=#[] },.int .i64 0,.slice none 0 0] 85 (0,0)):=by rw [hW];exact qa5 _ _ _ (by simp)
 obtain ⟨⟨x0,x1,x2,x3⟩,x4,x5,x6,x7⟩:=qjo av;have aK:=z_ av;have aL:=z_ aI;have aM:=z_ aJ;have aw:=z_ aG;have HZ:=z_ aH;have aU:(bstr []:ByteArray)={ data:=#[] }:=rfl;clear ha hb aA aB aC aD ak aq aE aF al au aG aH av aI aJ;go_enter Tryz.func42,Tryz.ntmps42
 go_wp2_with fail
 rw [← hW];clear hW;refine (HA.out W aw.out).mono ?_;rintro e w1 ⟨v1,S1,rfl,ax,ab⟩;obtain ⟨A1,c1,rfl⟩:=ai.out ax;have aR:=z_ ax.has;have aV:=z_ ab;have ay:=(ab.block _ Ba_).trans aK.out;have aN:=(ab.block _ Ba_).trans aL.out;have ac:=(ab.block _ Ba_).trans aM.out;obtain ⟨_,y4,y5,y6,y7⟩:=qjo ay;obtain ⟨⟨q0,q1,q2,q3⟩,_⟩:=qjo ac;have f0:=g_ w1 _ 0 _ _ ac;have f1:=g_ w1 _ 1 _ _ ac;have f2:=g_ w1 _ 2 _ _ ac;have f3:=g_ w1 _ 3 _ _ ac;have aW:w.heap.size+3≤w1.heap.size:=by have:=ab.size;have:=HZ.out;omega
 obtain ⟨w2,ao⟩:=e_ ((((w1.setCell ⟨w.heap.size+2,0,none⟩ (.int .i64 o1)).setCell ⟨w.heap.size+2,1,none⟩ (.string (bstr n1))).setCell ⟨w.heap.size+2,2,none⟩ (.int .i64 s1)).setCell ⟨w.heap.size+2,3,none⟩ (.slice A1 k1 c1));have am:Chg [w.heap.size+2] w1 w2:=by rw [ao];exact ((((Chg.refl _ w1).trans (Chg.set (by simp) _)).trans (Chg.set (by simp) _)).trans (Chg.set (by simp) _)).trans (Chg.set (by simp) _)
 have aO:w2.heap[w.heap.size+2]? =some (.cells #[.int .i64 o1,.string (bstr n1),.int .i64 s1,.slice A1 k1 c1,.int .i64 0,.string { data:=#[] },.int .i64 0,.slice none 0 0] 85 (0,0)):=by
  rw [ao];exact qi8 (qi8 (qi8 (qi8 ac 0 _) 1 _) 2 _) 3 _
 have an:Below w.heap.size w w2:=(aw.out.trans (ab.mono aw.out.size)).trans (am.below o_ (by simp));have ap:=z_ am;have aS:=z_ ((am.block (w.heap.size) o_ (by simp)).trans ay);have aP:=z_ ((am.block (w.heap.size+1) o_ (by simp)).trans aN);have aQ:=z_ aO;have ad:=z_ an;clear ax ab ay aN ac am aO an x0 x1 x2 x3 x4 x5 x6 x7;go_wp2_with fail
 rw [← ao];clear ao y4 y5 y6 y7 q0 q1 q2 q3 f0 f1 f2 f3;refine (HB.out w2 ad.out).mono ?_;rintro e w3 ⟨v2,S2,rfl,az,ae⟩;obtain ⟨A2,c2,rfl⟩:=aj.out az;have aT:w.heap.size+3≤w2.heap.size:=by have:=ap.out.size;omega
 have aa:=(ae.block _ o_).trans aP.out;have af:=(ae.block _ o_).trans aQ.out;obtain ⟨⟨q0,q1,q2,q3⟩,q4,q5,q6,q7⟩:=qjo af;obtain ⟨⟨z0,z1,z2,z3⟩,z4,z5,z6,z7⟩:=qjo aa;have f4:=g_ w3 _ 4 _ _ af;have f5:=g_ w3 _ 5 _ _ af;have f6:=g_ w3 _ 6 _ _ af;have f7:=g_ w3 _ 7 _ _ af;have g0:=g_ w3 _ 0 _ _ aa;have g1:=g_ w3 _ 1 _ _ aa;have g2:=g_ w3 _ 2 _ _ aa;have g3:=g_ w3 _ 3 _ _ aa;have g4:=g_ w3 _ 4 _ _ aa;have g5:=g_ w3 _ 5 _ _ aa;have g6:=g_ w3 _ 6 _ _ aa;have g7:=g_ w3 _ 7 _ _ aa
 have HK:Hid (∀ w9,Chg [w.heap.size+1,w.heap.size+2] w3 w9→∃ ag ah,(Ending.returned (.agg #[.int .i64 o1,.string (bstr n1),.int .i64 s1,.slice A1 k1 c1,.int .i64 o2,.string (bstr n2),.int .i64 s2,.slice A2 k2 c2]))=.returned (.agg #[.int .i64 o1,.string (bstr n1),.int .i64 s1,ag,.int .i64 o2,.string (bstr n2),.int .i64 s2,ah])∧HasTs (n+1) w.heap.size w9 ag b.v.args∧HasTs (n+1) w.heap.size w9 ah b.t.args∧Below w.heap.size w w9):=z_ (fun w9 h9=>by
  have k9:Kept (w.heap.size+3) w3 w9:=⟨h9.size,fun k h1 h2=>h9.block k h2 (by simp;omega)⟩;have kq:Kept (w.heap.size+3) w1 w2:=⟨ap.out.size,fun k h1 h2=>ap.out.block k h2 (by simp;omega)⟩;refine ⟨_,_,rfl,?_,?_,?_⟩
  ·have h1:HasTs (n+1) (w.heap.size+3) w1 (.slice A1 k1 c1) b.v.args:=HasR.mono (qa7 _) aR.out Ba_
   have h2:=HasR.kept (qa7 _) h1 kq;have h3:=HasTs.below h2 n_ ae;have h4:=HasR.kept (qa7 _) h3 k9;exact HasR.mono (qa7 _) h4 o_
  ·have h1:=HasR.mono (qa7 _) az.has aT
   have h4:=HasR.kept (qa7 _) h1 k9;exact HasR.mono (qa7 _) h4 o_
  ·exact (ad.out.trans (ae.mono ad.out.size)).trans (h9.below (by have:=ae.size;omega) (by simp)))
 clear az ae aa af HA HB ap aS aP aQ aK aL aM;go_wp2;refine bodyPost_ret (v:=.agg #[.int .i64 o1,.string (bstr n1),.int .i64 s1,.slice A1 k1 c1,.int .i64 o2,.string (bstr n2),.int .i64 s2,.slice A2 k2 c2]) (by simp [results,Tryz.results42,go_sem,z0,z1,z2,z3,z4,z5,z6,z7]) rfl (HK.out _ ?_);repeat (refine Chg.trans ?_ (Chg.set (by simp) _))
 exact Chg.refl _ _
theorem qzy{i:Nat}(h:i<p∨p+8≤i):((((((((ys.set p a).set (p+1) b).set (p+2) c).set (p+3) d).set (p+4) a').set (p+5) b').set (p+6) c').set (p+7) d')[i]? =ys[i]? := by
 rw [List.getElem?_set_ne o_,List.getElem?_set_ne o_,List.getElem?_set_ne o_,List.getElem?_set_ne o_,qfq o_]
theorem qzz (h:p+8≤ys.length):∀ i,i<8→((((((((ys.set p a).set (p+1) b).set (p+2) c).set (p+3) d).set (p+4) a').set (p+5) b').set (p+6) c').set (p+7) d')[p+i]? =some ([a,b,c,d,a',b',c',d'].getD i undef):=by
 intro i hi;by_cases h4:i<4
 ·obtain ⟨q0,q1,q2,q3⟩:=ql5 (ys:=ys) (p:=p) (a:=a) (b:=b) (c:=c) (d:=d) o_
  rw [List.getElem?_set_ne o_,List.getElem?_set_ne o_,List.getElem?_set_ne o_,List.getElem?_set_ne o_];match i,h4 with
  | 0,_=>exact q0
  | 1,_=>exact q1
  | 2,_=>exact q2
  | 3,_=>exact q3
 ·obtain ⟨q0,q1,q2,q3⟩:=ql5 (ys:=(((ys.set p a).set (p+1) b).set (p+2) c).set (p+3) d) (p:=p+4) (a:=a') (b:=b') (c:=c') (d:=d') (by simp;omega)
  match i,h4,hi with
  | 4,_,_=>exact q0
  | 5,_,_=>exact q1
  | 6,_,_=>exact q2
  | 7,_,_=>exact q3
  | 0,h,_=>omega
  | 1,h,_=>omega
  | 2,h,_=>omega
  | 3,h,_=>omega
theorem qxd:(Tryz.prog.info? 85).map (fun i=>(i.zero,i.size,i.bytes))=some (some (.agg #[.int .i64 0,.string { data:=#[] },.int .i64 0,.slice none 0 0,.int .i64 0,.string { data:=#[] },.int .i64 0,.slice none 0 0]),8,112):=by kernel_rfl
def qD0 (n B:Nat)(w:World)(ys:List Value)(L:List BindM)(j:Nat):Prop:=∀ i,i<j→∃ cs,(∀ q,q<8→ys[i*8+q]? =some (cs.getD q undef))∧RB n B w cs (L.getD i default)
theorem qA0 (L:List BindM)(v:Value)(w:World)(h:HasBs n lo w v L)(hsz:bsz L≤1048576):
  Calls Tryz.prog 12 #[v] w fun e w'=>∃ v',e=.returned v'∧HasBs (n+1) w.heap.size w' v' L∧Below w.heap.size w w':=by
 obtain ⟨N,hN⟩:=e_ (L.length);obtain ⟨A,c,rfl,h⟩:=HasR.shape h hN.symm;obtain ⟨i0,hi,aB,aC,aD⟩:=info_parts qxd;have aL:N≤1048576:=by have:=qoq L;omega
 have HH:=z_ h;have HN:=z_ hN;have ax:=z_ hsz;clear h hN hsz;go_enter Tryz.func12,Tryz.ntmps12
 go_wp2_with (at_make;refine wpList_make_full _ rfl _ _ 48 rfl w.heap.size 85 i0 _ 8 Tryz.underlying48 hi aB aC _ _ _ _ N rfl rfl rfl rfl (by rw [aD];omega) Aa_ n_ ?_)
 intro w1 hown af;have aj:w.heap.size<w1.heap.size:=by
  rcases hown.2 with ⟨hv,_⟩|⟨g,cap,cur,hv,hb,hg,_⟩
  ·cases hv
  ·have:=(q_ hg);omega
 go_wp2
 go_loopw [4] (fun i wr=>∃ (j:Nat) (ys:List Value),j≤N∧i=.int .i64 j∧wr.ownsRow w.heap.size 85 8 (.slice (some ⟨w.heap.size,0,none⟩) N N) N ys∧
   Hid (qD0 (n+1) (w.heap.size+1) wr ys L j)∧w.heap.size<wr.heap.size∧Below w.heap.size w wr) (fun i _=>N-(intOf i).toNat)
 case atStart=>exact ⟨0,_,y_,rfl,hown,z_ (fun i hi=>by omega),aj,b_.grown af n_ (by intro k h;cases h)⟩
 case round=>
  obtain ⟨j,ys,hj,rfl,hown,HY,hsz,aa⟩:=hrel;by_cases aE:j<N
  ·obtain ⟨g,o,A1,c1,A2,c2,rfl,hg,hc,h1,h2,hv,ht⟩:=qdc HH.out aE
   obtain ⟨⟨x0,x1,x2,x3⟩,x4,x5,x6,x7⟩:=hc.below aa;have ak:=h1.below n_ aa;have al:=h2.below n_ aa;have aF:=qqf (L:=L) (j:=j) Ac_;have am:qa2 (L.getD j default).v.args≤1048576:=by have:=ax.out;omega
   have an:qa2 (L.getD j default).t.args≤1048576:=by have:=ax.out;omega
   obtain ⟨b,ao⟩:=e_ (L.getD j default);rw [← ao] at x0 x1 x2 x3 x4 x5 x6 x7 ak al hv ht am an;have HT:=z_ (qC0 b _ _ wr ak al am an);have HX:=z_ ao;have aG:=z_ (And.intro hv ht);have ag:=z_ hown;have ay:Hid (∀ {W lo v},HasTs (n+1) lo W v b.v.args→∃ A c,v=.slice A b.v.args.length c):=z_ (fun h=>by obtain ⟨A,c,e,_⟩:=HasR.shape h rfl;exact ⟨A,c,e⟩);have ah:Hid (∀ {W lo v},HasTs (n+1) lo W v b.t.args→∃ A c,v=.slice A b.t.args.length c):=z_ (fun h=>by obtain ⟨A,c,e,_⟩:=HasR.shape h rfl;exact ⟨A,c,e⟩);unfold aggB at HT;obtain ⟨o1,ap⟩:=e_ (b.v.op);obtain ⟨n1,aq⟩:=e_ (b.v.name);obtain ⟨s1,ac⟩:=e_ (b.v.sort);obtain ⟨k1,az⟩:=e_ (b.v.args.length);obtain ⟨o2,au⟩:=e_ (b.t.op);obtain ⟨n2,ad⟩:=e_ (b.t.name);obtain ⟨s2,ae⟩:=e_ (b.t.sort);obtain ⟨k2,aA⟩:=e_ (b.t.args.length);have HE:=z_ (And.intro ap (And.intro aq (And.intro ac (And.intro au (And.intro ad ae)))));rw [← az] at x3 HT ay;rw [← aA] at x7 HT ah;rw [← ap] at x0 HT;rw [← aq] at x1 HT;rw [← ac] at x2 HT;rw [← au] at x4 HT;rw [← ad] at x5 HT;rw [← ae] at x6 HT;clear hc h1 h2 ak al hv ht aF am an ao hown ap aq ac az au ad ae aA;go_wp2_with fail
   refine (HT.out).mono ?_;rintro e w2 ⟨aM,aN,rfl,av,aw,ai⟩;obtain ⟨A3,c3,rfl⟩:=ay.out av;obtain ⟨A4,c4,rfl⟩:=ah.out aw;have ab:=z_ (own_below ag.out ai);have HV:=z_ (And.intro av aw);have aH:=z_ ai;obtain ⟨⟨v0,aO⟩,aP⟩:=qaa ab.out (i:=j*8) o_;obtain ⟨⟨v1,aQ⟩,aR⟩:=qaa ab.out (i:=j*8+1) o_;obtain ⟨⟨v2,aS⟩,aT⟩:=qaa ab.out (i:=j*8+2) o_;obtain ⟨⟨v3,aU⟩,aV⟩:=qaa ab.out (i:=j*8+3) o_;obtain ⟨⟨v4,aW⟩,aX⟩:=qaa ab.out (i:=j*8+4) o_;obtain ⟨⟨v5,aY⟩,aZ⟩:=qaa ab.out (i:=j*8+5) o_;obtain ⟨⟨v6,a6⟩,a7⟩:=qaa ab.out (i:=j*8+6) o_;obtain ⟨⟨v7,a8⟩,ba⟩:=qaa ab.out (i:=j*8+7) o_;clear av aw;go_wp2;go_roundw
   case rel=>
    refine ⟨j+1,_,by omega,by go_num,qa4 (qa4 (qa4 (qa4 (qa4 (qa4 (qa4 (qa4 ab.out (j*8) _) (j*8+1) _) (j*8+2) _) (j*8+3) _) (j*8+4) _) (j*8+5) _) (j*8+6) _) (j*8+7) _,z_ ?_,by simp [World.setCell];have:=ai.size;omega,?_⟩
    ·have hlen:ys.length=N*8:=by have:=ag.out.1;omega
     have kp:∀ (W:World) i u,Kept (w.heap.size+1) W (W.setCell ⟨w.heap.size,i,none⟩ u):=fun W i u=>Kept.set (by show w.heap.size<_;omega) u
     have kk:=(((((((kp w2 (j*8) (.int .i64 o1)).trans (kp _ (j*8+1) (.string (bstr n1)))).trans (kp _ (j*8+2) (.int .i64 s1))).trans (kp _ (j*8+3) (.slice A3 k1 c3))).trans (kp _ (j*8+4) (.int .i64 o2))).trans (kp _ (j*8+5) (.string (bstr n2)))).trans (kp _ (j*8+6) (.int .i64 s2))).trans (kp _ (j*8+7) (.slice A4 k2 c4));obtain ⟨e1,e2,e3,e4,e5,e6⟩:=HE.out;intro i hi;by_cases aI:i=j
     ·subst aI
      have aJ:HasTs (n+1) (w.heap.size+1) w2 (.slice A3 k1 c3) b.v.args:=HasR.mono (qa7 _) HV.out.1 o_;have aK:HasTs (n+1) (w.heap.size+1) w2 (.slice A4 k2 c4) b.t.args:=HasR.mono (qa7 _) HV.out.2 o_;refine ⟨_,qzz o_,.slice A3 k1 c3,.slice A4 k2 c4,?_,by rw [← HX.out];exact HasR.kept (qa7 _) aJ kk,by rw [← HX.out];exact HasR.kept (qa7 _) aK kk,?_⟩
      ·rw [← HX.out,e1,e2,e3,e4,e5,e6]
      ·rw [← HX.out];exact aG.out
     ·obtain ⟨cs,h1,h2⟩:=HY.out i o_
      refine ⟨cs,fun q hq=>?_,(qcv _).kept ((qcv _).kept h2 (Kept.below aH.out n_)) kk⟩;rw [qzy o_];exact h1 q hq
    ·exact ((((((((aa.trans (ai.mono aa.size)).setCell n_ _).setCell n_ _).setCell n_ _).setCell n_ _).setCell n_ _).setCell n_ _).setCell n_ _).setCell n_ _
   case measure=>simp [intOf];omega
  ·obtain rfl:j=N:=o_
   have HW:Hid (HasBs (n+1) w.heap.size wr (.slice (some ⟨w.heap.size,0,none⟩) j j) L):=z_ (by
    refine HasR.of_own hown HN.out.symm (fun i hi=>?_);obtain ⟨cs,h1,h2⟩:=HY.out i hi
    exact ⟨cs,h1,(qcv _).mono h2 o_⟩)
   clear hown;go_wp2;go_ret;exact ⟨_,rfl,HW.out,aa⟩
theorem qC1 (b:BindM)(va vb ua ub:Value)(w:World)(ha:HasTs n lo w va b.v.args)(hb:HasTs n lo w vb b.t.args)(ad:HasTs m lo' w ua b.v.args)(aa:HasTs m lo' w ub b.t.args):
  Calls Tryz.prog 51 #[aggB b va vb,aggB b ua ub] w fun e w'=>e=.returned (.bool true)∧Below w.heap.size w w':=by
 have HA:=z_ (fun W (hW:Below w.heap.size w W)=>qet b.v.op b.v.name b.v.sort b.v.args va ua W (ha.below n_ hW) (ad.below n_ hW));have HB:=z_ (fun W (hW:Below w.heap.size w W)=>qet b.t.op b.t.name b.t.sort b.t.args vb ub W (hb.below n_ hW) (aa.below n_ hW));obtain ⟨A,ca,rfl,_⟩:=HasR.shape ha rfl;obtain ⟨B,cb,rfl,_⟩:=HasR.shape hb rfl;obtain ⟨C,cc,rfl,_⟩:=HasR.shape ad rfl;obtain ⟨D,cd,rfl,_⟩:=HasR.shape aa rfl;unfold aggB;obtain ⟨o1,ai⟩:=e_ (b.v.op);obtain ⟨n1,aj⟩:=e_ (b.v.name);obtain ⟨s1,ab⟩:=e_ (b.v.sort);obtain ⟨k1,ak⟩:=e_ (b.v.args.length);obtain ⟨o2,al⟩:=e_ (b.t.op);obtain ⟨n2,am⟩:=e_ (b.t.name);obtain ⟨s2,ac⟩:=e_ (b.t.sort);obtain ⟨k2,an⟩:=e_ (b.t.args.length);rw [← ai,← aj,← ab,← ak] at HA ⊢;rw [← al,← am,← ac,← an] at HB ⊢;obtain ⟨W,hW⟩:=e_ ((w.alloc (.cells #[.int .i64 o1,.string (bstr n1),.int .i64 s1,.slice A k1 ca,.int .i64 o2,.string (bstr n2),.int .i64 s2,.slice B k2 cb] 85)).alloc (.cells #[.int .i64 o1,.string (bstr n1),.int .i64 s1,.slice C k1 cc,.int .i64 o2,.string (bstr n2),.int .i64 s2,.slice D k2 cd] 85));have ao:Below w.heap.size w W:=by rw [hW];exact (b_.alloc n_ _).alloc (by simp) _
 have ap:=qjo (show W.heap[w.heap.size]? =some (.cells #[.int .i64 o1,.string (bstr n1),.int .i64 s1,.slice A k1 ca,.int .i64 o2,.string (bstr n2),.int .i64 s2,.slice B k2 cb] 85 (0,0)) by rw [hW];exact (Below.heap_alloc _ _ _ (by simp)).trans (qa5 _ _ _ rfl));have aq:=qjo (show W.heap[w.heap.size+1]? =some (.cells #[.int .i64 o1,.string (bstr n1),.int .i64 s1,.slice C k1 cc,.int .i64 o2,.string (bstr n2),.int .i64 s2,.slice D k2 cd] 85 (0,0)) by rw [hW];exact qa5 _ _ _ (by simp));have HP:=z_ ap;have HQ:=z_ aq;have ae:=z_ ao;obtain ⟨⟨x0,x1,x2,x3⟩,x4,x5,x6,x7⟩:=ap;obtain ⟨⟨y0,y1,y2,y3⟩,y4,y5,y6,y7⟩:=aq;clear ha hb ad aa ai aj ab ak al am ac an ao;go_enter Tryz.func51,Tryz.ntmps51
 go_wp2_with fail
 rw [← hW];clear hW;refine (HA.out W ae.out).mono ?_;rintro e w1 ⟨rfl,af⟩;have ag:=ae.out.trans (af.mono ae.out.size);have k:∀ {g o:Nat} {v:Value},W.cell? ⟨g,o,none⟩=some v→w1.cell? ⟨g,o,none⟩=some v:=fun {g o v} h=>(af.cell (p:=⟨g,o,none⟩) (World.block_lt_of_cell? W _ h)).trans h
 obtain ⟨_,a4,a5,a6,a7⟩:=HP.out;obtain ⟨_,b4,b5,b6,b7⟩:=HQ.out;have d4:=k a4;have d5:=k a5;have d6:=k a6;have d7:=k a7;have e4:=k b4;have e5:=k b5;have e6:=k b6;have e7:=k b7;clear k af a4 a5 a6 a7 b4 b5 b6 b7 x0 x1 x2 x3 x4 x5 x6 x7 y0 y1 y2 y3 y4 y5 y6 y7;go_wp2_with fail
 refine (HB.out w1 ag).mono ?_;rintro e w2 ⟨rfl,aa⟩;have ah:=ag.trans (aa.mono ag.size);clear aa;go_wp2;go_ret;exact ⟨rfl,ah⟩
theorem Cells8.at{w':World}{g:Nat}{b:BindM}{A1:Option Addr}{c1:Nat}{A2:Option Addr}{c2:Nat}(h:Cells8 w g p b A1 c1 A2 c2)(hb:Below w.heap.size w w'):Cells8 w' g p b A1 c1 A2 c2:=h.below hb
theorem qA1 (L:List BindM)(va vb:Value)(w:World)(ha:HasBs n lo w va L)(hb:HasBs m lo' w vb L):
  Calls Tryz.prog 17 #[va,vb] w fun e w'=>e=.returned (.bool true)∧Below w.heap.size w w':=by
 obtain ⟨N,hN⟩:=e_ (L.length);obtain ⟨A,ca,rfl,ha⟩:=HasR.shape ha hN.symm;obtain ⟨B,cb,rfl,hb⟩:=HasR.shape hb hN.symm;have aD:=ha.len.2.1;have HA:=z_ ha;have HB:=z_ hb;clear ha hb hN;go_enter Tryz.func17,Tryz.ntmps17
 go_wp2;go_loopw [5] (fun i wr=>∃ k:Nat,k≤N∧i=.int .i64 k∧Below w.heap.size w wr) (fun i _=>N-(intOf i).toNat)
 case atStart=>exact ⟨0,y_,rfl,Below.refl _ _⟩
 case round=>
  obtain ⟨k,hk,rfl,aa⟩:=hrel;by_cases aj:k<N
  ·obtain ⟨ga,oa,A1,a1,A2,a2,rfl,aE,ak,h1,h2,hv,ht⟩:=qdc HA.out aj
   obtain ⟨gb,ob,B1,b1,B2,b2,rfl,aF,al,h3,h4,_,_⟩:=qdc HB.out aj;have ab:=ak.below aa;have ac:=al.below aa;have af:=h1.below n_ aa;have ag:=h2.below n_ aa;have ah:=h3.below n_ aa;have ai:=h4.below n_ aa;obtain ⟨b,am⟩:=e_ (L.getD k default);rw [← am] at ab ac af ag ah ai;have HE:=z_ (fun (t:BoxC (Below wr.heap.size wr))=>qC1 b _ _ _ _ t.W (af.below n_ t.h) (ag.below n_ t.h) (ah.below n_ t.h) (ai.below n_ t.h));have HC:Hid (∀ t:BoxC (Below wr.heap.size wr),Cells8 t.W ga (oa+k*8) b A1 a1 A2 a2∧Cells8 t.W gb (ob+k*8) b B1 b1 B2 b2):=z_ (fun t=>⟨ab.below t.h,ac.below t.h⟩);unfold Cells8 at HC;unfold aggB at HE;obtain ⟨o1,an⟩:=e_ (b.v.op);obtain ⟨n1,ao⟩:=e_ (b.v.name);obtain ⟨s1,ad⟩:=e_ (b.v.sort);obtain ⟨k1,ap⟩:=e_ (b.v.args.length);obtain ⟨o2,aq⟩:=e_ (b.t.op);obtain ⟨n2,au⟩:=e_ (b.t.name);obtain ⟨s2,ae⟩:=e_ (b.t.sort);obtain ⟨k2,av⟩:=e_ (b.t.args.length);rw [← an,← ao,← ad,← ap,← aq,← au,← ae,← av] at HE HC;have b0:=fun t=>(HC.out t).1.1.1
   have b1:=fun t=>(HC.out t).1.1.2.1
   have b2:=fun t=>(HC.out t).1.1.2.2.1
   have b3:=fun t=>(HC.out t).1.1.2.2.2
   have b4:=fun t=>(HC.out t).1.2.1
   have b5:=fun t=>(HC.out t).1.2.2.1
   have b6:=fun t=>(HC.out t).1.2.2.2.1
   have b7:=fun t=>(HC.out t).1.2.2.2.2
   have b8:=fun t=>(HC.out t).2.1.1
   have b9:=fun t=>(HC.out t).2.1.2.1
   have aw:=fun t=>(HC.out t).2.1.2.2.1
   have ax:=fun t=>(HC.out t).2.1.2.2.2
   have ay:=fun t=>(HC.out t).2.2.1
   have az:=fun t=>(HC.out t).2.2.2.1
   have aA:=fun t=>(HC.out t).2.2.2.2.1
   have aB:=fun t=>(HC.out t).2.2.2.2.2
   have nb:Nonempty (BoxC (Below wr.heap.size wr)):=⟨⟨_,Below.refl _ _⟩⟩;clear ak al ab ac h1 h2 h3 h4 af ag ah ai am an ao ad ap aq au ae av hv ht HC;go_wp2_with fail
   refine qa1 (C:=Below wr.heap.size wr) k_ k_ b_.drew ?_;repeat go_big_quiet_step ((go_at_call 51;exact (HE.out _).mono (fun _ _ h=>⟨h.1,BoxC.step _ h.2⟩)))
   refine wpQuiet_nil ?_;rintro w5 ⟨t5,rfl⟩;have aC:=z_ t5.h;clear b0 b1 b2 b3 b4 b5 b6 b7 b8 b9 aw ax ay az aA aB nb HE;go_wp2;go_roundw
   case rel=>exact ⟨k+1,by omega,by go_num,aa.trans (aC.out.mono aa.size)⟩
   case measure=>simp [intOf];omega
  ·obtain rfl:k=N:=o_
   go_wp2;go_ret;exact ⟨rfl,aa⟩
end Go.Proofs.YtiilamngcoegiaaGreat.bndt
