
import Derived.Test.YtiilamngcoegiaaGreatQPk18
import Derived.Deep.DeepCutAuto
import Derived.Deep.LoopGhost
namespace Go.Proofs.YtiilamngcoegiaaGreat.tml
open Go.ChangeShapes Go.WideShapes Go.ChangeAt Go.RowKit
variable {w:World}{x:Nat}{v0 v1 v2 v3:Value}
open mem dec setm sortm sortp sorti sortu sigm sigs sigl rowl trm trmv terml termb termt termx termro termv termvo frm sigk gram gramn grami formlf formk formr formf formm termlc termsi tma tmm tmr tsk tmf tmg tmc
theorem box5{v4:Value}{t:TypeId}(h:w.heap[x]? =some (.cells #[v0,v1,v2,v3,v4] t (0,0))):w.cell? ⟨x,0,none⟩=some v0∧w.cell? ⟨x,1,none⟩=some v1∧w.cell? ⟨x,2,none⟩=some v2∧w.cell? ⟨x,3,none⟩=some v3∧w.cell? ⟨x,4,none⟩=some v4:=
 ⟨h_ w x 0 _ _ _ h,h_ w x 1 _ _ _ h,h_ w x 2 _ _ _ h,h_ w x 3 _ _ _ h,h_ w x 4 _ _ _ h⟩
theorem qmf{B:Nat}{V w0 w1 w2:World}{n:Nat}{e:TypeId}{size:Nat}{A:Option Addr}{c:Nat}{xs:List Value}(h0:Below B V w0)(h1:Below w0.heap.size w0 w1)(h2:w1.grownBy w2 (Value.slice A n c).ownBlock)(ho:w0.ownsRow B e size (.slice A n c) n xs)(hB:B≤w0.heap.size):Below B V w2:=
 (h0.trans (h1.mono hB)).grown h2 (Nat.le_trans hB h1.size) (qb7 ho)
abbrev S26 (bx ox x:Nat)(v0 v1 v2 v3:Value)(a:Bool)(W w:World):Prop:=
 ((w.cell? ⟨bx,0,none⟩=some v0∧w.cell? ⟨bx,1,none⟩=some v1∧w.cell? ⟨bx,2,none⟩=some v2∧w.cell? ⟨bx,3,none⟩=some v3)∧w.cell? ⟨ox,2,none⟩=some (.bool a))∧(w.frozen? ⟨x,0,none⟩=false∧w.frozen? ⟨x,1,none⟩=false∧w.frozen? ⟨x,2,none⟩=false∧w.frozen? ⟨x,3,none⟩=false)∧Chg [x] W w
theorem S26.below{bx ox:Nat}{a:Bool}{W w':World}(h:S26 bx ox x v0 v1 v2 v3 a W w)(hx:x<w.heap.size)(hb:Below w.heap.size w w'):S26 bx ox x v0 v1 v2 v3 a W w':=by
 have k:∀ {a:Addr} {v:Value},w.cell? a=some v→w'.cell? a=some v:=fun {a v} h=>(hb.cell (p:=a) (l_ h)).trans h
 have f:∀ i,w'.frozen? ⟨x,i,none⟩=w.frozen? ⟨x,i,none⟩:=fun i=>World.frozen?_of_block (a:=⟨x,i,none⟩) (hb.block x hx)
 obtain ⟨⟨⟨h0,h1,h2,h3⟩,h4⟩,⟨h5,h6,h7,h8⟩,h9⟩:=h;exact ⟨⟨⟨k h0,k h1,k h2,k h3⟩,k h4⟩,⟨(f 0).trans h5,(f 1).trans h6,(f 2).trans h7,(f 3).trans h8⟩,h9.trans (Chg.of_below hb)⟩
theorem qf3{p q:Addr}{u:Value}:(w.setCell p u).frozen? q=w.frozen? q:=by
 simp only [World.frozen?,World.setCell,Array.getElem?_modify];by_cases hb:p.block=q.block
 ·rw [if_pos hb]
  cases w.heap[q.block]? with
  | none=>rfl
  | some o=>cases o<;>rfl
 ·rw [if_neg hb]
theorem S26.set {bx ox x:Nat}{v0 v1 v2 v3:Value}{a:Bool}{W w:World}(h:S26 bx ox x v0 v1 v2 v3 a W w)(hb:bx≠x)(ho:ox≠x)(u0 u1 u2 u3:Value):S26 bx ox x v0 v1 v2 v3 a W (set4 w x u0 u1 u2 u3):=by
 have hc:Chg [x] w (set4 w x u0 u1 u2 u3):=((((Chg.refl [x] w).trans (Chg.set (by simp) u0)).trans (Chg.set (by simp) u1)).trans (Chg.set (by simp) u2)).trans (Chg.set (by simp) u3);have k:∀ {g i:Nat} {v:Value},g≠x→w.cell? ⟨g,i,none⟩=some v→(set4 w x u0 u1 u2 u3).cell? ⟨g,i,none⟩=some v:=fun {g i v} hg h=>(World.cell?_of_block (a:=⟨g,i,none⟩) (hc.block g (l_ h) (by simp [hg]))).trans h
 obtain ⟨⟨⟨h0,h1,h2,h3⟩,h4⟩,⟨h5,h6,h7,h8⟩,h9⟩:=h;exact ⟨⟨⟨k hb h0,k hb h1,k hb h2,k hb h3⟩,k ho h4⟩,⟨by simp only [qf3];exact h5,by simp only [qf3];exact h6,by simp only [qf3];exact h7,by simp only [qf3];exact h8⟩,h9.trans hc⟩
theorem j22_{p:Prop}(h:p:=by
 clear au;go_wp2_with fail
 refine (aq.out w2 aw _ _ _ _).mono ?_;rintro e w3 ⟨rfl,ag⟩;obtain ⟨_,_,_,⟨bH,bI,bJ,ba,bK⟩,_,_⟩:=ai.out w3 (ah.out.trans (ag.mono ah.out.size));have aj:=z_ ag;clear ag a0 a1 a2 a3 a4 x0 x1 x2;go_wp2;go_meet
 exact ⟨by rw [aQ];rfl,aj.out⟩
):p:=h
theorem c84_{p:Prop}(h:p:=by
 have aQ:nb=true:=by
  exact bj.out.2 (by simp;omega)
 have d1:((q:Int) != (ln:Int))=false:=by rw [au];simp
 have d2:(q != ln)=false:=by rw [au];simp
 have d3:decide ((q:Int)=(ln:Int))=true:=d_;have d4:((q:Int)==(ln:Int))=true:=by rw [au];simp
 exact j22_
):p:=h
theorem c85_{p:Prop}(h:p:=by
 exact j22_
):p:=h
theorem c86_{p:Prop}(h:p:=by
 clear ak ay dW bx;clear b0 b1 b2 b3 b4 b5 b6 b7 b8 b9 cU cZ cV cW cX cY nb aT aU;go_wp2;go_roundg (gk-1)
 case measure=>omega
 case rel=>exact ⟨p+1,R++R2,by go_num,by omega,by omega,dO,bs,ce,cf,bd⟩
):p:=h
theorem c87_{p:Prop}(h:p:=by
 (try dsimp only);first|exact aa.out _ b_.drew|exact aa.out _ ac.out|exact S26.set (aa.out _ ac.out) ab o_ _ _ _ _|exact S26.set (aa.out _ b_.drew) ab o_ _ _ _ _
):p:=h
theorem c88_{p:Prop}(h:p:=by
 (try dsimp only);first|(with_reducible exact aa.out _ b_.drew)|exact S26.set (aa.out _ b_.drew) ab o_ _ _ _ _
):p:=h
theorem c89_{p:Prop}(h:p:=by
 cases dB:nb with
 | false=>rfl
 | true=>exact absurd (bj.out.1 dB) (by simp;omega)
):p:=h
set_option maxRecDepth 100000 in
set_option maxHeartbeats 32000000 in
theorem qpv{N lo:Nat}(P:List (List UInt8))(Q:List (Int×Int))(O:List OpM)(bf:qah P Q O=true)(va vb vc:Value)(k:Nat)(hk:k<O.length)(L:List TermM)(ve:Value)(w:World)(h:HasG w va vb vc P Q O)(ht:HasTs (N+1) lo w ve L)(hL:∀ a∈L,qay P Q O a∧LimT a)(hsz:qa2 L≤1048576)(r:Bool)(hr:r=true↔CanS P Q O k L∧LimT (qbs O k L)):
  Calls Tryz.prog 86 #[.agg #[va,vb,vc],.int .i64 (k:Int),ve] w fun e w'=>∃ t' v',e=.returned (.tuple #[aggT t' v',.bool r])∧(r=true→t'=qbs O k L)∧HasTs (N+1) w.heap.size w' v' t'.args∧Below w.heap.size w w':=by
 obtain ⟨fo,di⟩:=e_ (qbs O k L);rw [← di];obtain ⟨p1,p2,p3,p4,p5⟩:=qj7 bf;obtain ⟨_,ef,_,hd,eg⟩:=qa8 bf;have dj:(kin P.length (prs Q)).length=P.length:=qir _ _;have bg:=qap (hd _ (qhm hk));have ao:=qaj bg.2.2.2;have aN:=eg _ (qhm hk);simp only [axOk,qdf,qe4,Bool.and_eq_true,Bool.or_eq_true,decide_eq_true_eq,Bool.not_eq_true'] at aN;have av:0≤(O.getD k default).unt∧(O.getD k default).unt≤14:=by
  rcases aN.2 with h4|h4
  ·omega
  ·have:=h4.1.1;omega
 have al:(O.getD k default).ass=true→ar (O.getD k default)=2:=fun ha=>by
  rcases aN.1 with h4|h4
  ·rw [ha] at h4;exact absurd h4.1.1 (by simp)
  ·exact h4.1.1
 have bR:=z_ (fun W (hW:Below w.heap.size w W)=>qd1 P Q p1 p2 p4 p3 p5 va vb W (h.below n_ hW).s);have a7:=z_ (fun W (hW:Below w.heap.size w W)=>qno P Q O va vb vc k hk ef av W (h.below n_ hW))
 have bS:Hid (∀ W (x:TermM) (vx:Value) (n' lo':Nat),Below w.heap.size w W→HasTs n' lo' W vx x.args→qdn P O x→Calls Tryz.prog 143 #[.agg #[va,vb,vc],aggT x vx] W fun e w'=>e=.returned (.int .i64 ((κK P.length Q (srtT O x):Nat):Int))∧Below W.heap.size W w'):=z_ (fun W x vx n' lo' hW hx bT=>
  qnn P Q O bf va vb vc x vx W (h.below n_ hW) hx bT)
 have fp:Hid (∀ a∈L,qdn P O a):=z_ (fun a ha=>qcn ((qar P Q O a).1 (hL a ha).1).1);have bh:Hid (∀ a∈L,(O.getD k default).ass=true→a.op=(k:Int)→2≤a.args.length):=z_ (fun a ha hb ho=>qrc (hL a ha).1 hb ho)
 have dk:Hid (∀ a∈L,((O.getD k default).unt≠0∧a.op=(O.getD k default).unt-1)↔((O.getD k default).unt≠0∧cmp a (qge (O.getD k default).unt)=0)):=z_ (fun a ha=>by
  constructor
  ·rintro ⟨h1,h2⟩
   exact ⟨h1,(qb0 _ _).2 (qpd bf hk ((qar P Q O a).1 (hL a ha).1).1 h1 h2)⟩
  ·rintro ⟨h1,h2⟩
   rw [(qb0 _ _).1 h2,qge,if_neg h1]
   exact ⟨h1,rfl⟩)
 have cC:Hid (CanS P Q O k L→(r=true↔okX (O.getD k default).unt (O.getD k default).ass (O.getD k default).com k L)∧(r=true→qh3 (O.getD k default).unt (O.getD k default).ass (O.getD k default).com k L=qbs O k L)):=z_ (fun hC=>by
  obtain ⟨q1,q2⟩:=qCg bf hk (fun a ha=>(hL a ha).1) (fun a ha=>(hL a ha).2) hC.1
  exact ⟨by rw [hr,q1];exact ⟨fun h=>h.2,fun h=>⟨hC,h⟩⟩,fun aO=>q2 (hr.1 aO).2⟩)
 have eh:Hid (r=true→CanS P Q O k L):=z_ (fun h=>(hr.1 h).1);have aP:=qfk (O.getD k default).unt (O.getD k default).ass k L;obtain ⟨A1,c1,A2,c2,A3,c3,rfl,rfl,rfl,_,_,_,h'⟩:=h.shape;have hO:HasO 0 w (.slice A3 O.length c3) O:=h'.o;obtain ⟨g0,o0,A4,c4,hA,_,bU,cD,bV,cE,cF,cG,hh,_,_⟩:=qcm hO hk;have aq:=z_ (fun W (hW:Below w.heap.size w W) nm a b u=>qcb nm (O.getD k default).decls bg.1 (.slice A4 (O.getD k default).decls.length c4) a b u W (hh.below qa6 n_ hW));obtain ⟨gd,od,A5,c5,fq,_,fr,a8,_,ae,_,_⟩:=qbb hh (j:=0) o_;rw [show od+0*2=od by omega] at a8;obtain ⟨κ,cH⟩:=e_ (κK P.length Q);have hκ:∀ x,κ x=(kin P.length (prs Q)).getD x.toNat 0:=fun x=>by rw [cH,κK]
 have aJ:Hid (CanS P Q O k L↔NumS O k L∧∀ i,i<L.length→κ (srtT O (L.getD i default))=κ ((hd0 (O.getD k default).decls).1.getD (atS (O.getD k default).ass i) 0)):=z_ (by unfold CanS;rw [cH]);have af:Hid (NumS O k L→∀ i,i<L.length→atS (O.getD k default).ass i<(hd0 (O.getD k default).decls).1.length):=z_ (fun hn=>qvl bf hk hn);rw [← cH] at bS;unfold NumS at aJ af;obtain ⟨⟨nm,Dk,a,b,u⟩,hx⟩:∃ x,x=O.getD k default:=⟨_,rfl⟩;rw [← di] at cC;rw [← hx] at cD bV cE cF cG hh a8 ae bg ao av al a7 aJ af cC dk bh aq aP;simp only [] at cD bV cE cF cG hh a8 ae bg ao av al a7 aJ af cC dk bh aq aP;have bW:Dk.getD 0 default=hd0 Dk:=rfl;rw [bW] at a8 ae;have ei:ar ⟨nm,Dk,a,b,u⟩=(hd0 Dk).1.length:=rfl;rw [ei] at al aJ af;obtain ⟨L0,ej⟩:=e_ ((hd0 Dk).1);rw [← ej] at a8 ae ao aJ af al aq;obtain ⟨ln,bX⟩:=e_ (L0.length)
 have bY:Hid (∀ j,j<ln→∃ gl ol z,A5=some ⟨gl,ol,none⟩∧gl<w.heap.size∧w.cell? ⟨gl,ol+j,none⟩=some (.int .i64 ((z:Nat):Int))∧L0.getD j 0=(z:Int)∧z<P.length):=z_ (fun j hj=>by
  obtain ⟨gl,ol,e,dm,ek⟩:=ae.has.cellAt (j:=j) o_;rw [qak _ j o_] at ek;have fs:=ao.2.2 j o_;simp only [inN,decide_eq_true_eq] at fs;obtain ⟨z,hz⟩:∃ z:Nat,L0.getD j 0=(z:Int):=⟨(L0.getD j 0).toNat,by omega⟩
  exact ⟨gl,ol,z,e,dm,by rw [ek,hz],hz,by omega⟩)
 have ft:ln≤3:=by rw [bX];exact ao.1
 obtain ⟨q,hq⟩:=e_ (L.length);obtain ⟨B,cb,rfl,_⟩:=HasR.shape ht hq.symm;obtain ⟨n,hn⟩:=e_ (P.length);obtain ⟨m2,dn⟩:=e_ (Q.length);obtain ⟨m3,dp⟩:=e_ (O.length);obtain ⟨dl,em⟩:=e_ (Dk.length);have en:Hid (q=L.length):=z_ hq;rw [← hq] at aJ af;rw [← hn,← dn,← dp];rw [← hn] at dj hκ bY bS bR a7;rw [← dn] at bR bS a7;rw [← dp] at hk bS a7;rw [← em] at bV bg aq;rw [← bX] at a8 aJ af al aq;obtain ⟨K,hK⟩:=e_ (kin n (prs Q));rw [← hK] at bR dj hκ;have fu:Hid (∀ z:Nat,κ (z:Int)=K.getD z 0):=z_ (fun z=>by rw [hκ,Int.toNat_natCast]);have HH:Hid (HasTs (N+1) lo w (.slice B q cb) L):=z_ ht;have gn:=z_ hsz;have dq:Hid (qa2 (partsM u a k L)≤1048576):=z_ (Nat.le_trans aP hsz);have fv:q≤1048576:=by have:=qat L;omega
 have fw:1≤dl:=bg.1;have dr:=z_ al;have fx:=z_ av;subst hA;subst fq;clear h h' hO ht hq dn dp bf hd eg bg ao aN al hL hr cH hκ hx hh ae bW ej bX hn hK em hsz p1 p2 p3 p4 p5 ef ei di aP av;obtain ⟨W,hW⟩:=e_ ((w.alloc (.cells #[.slice A1 n c1,.slice A2 m2 c2,.slice (some ⟨g0,o0,none⟩) m3 c3] 46)).alloc (.cells #[.int .i64 0,.string { data:=#[] },.int .i64 0,.slice none 0 0] 38));have bi:Below w.heap.size w W:=by
  rw [hW];exact v_
 have dt:W.heap[w.heap.size]? =some (.cells #[.slice A1 n c1,.slice A2 m2 c2,.slice (some ⟨g0,o0,none⟩) m3 c3] 46 (0,0)):=by rw [hW];exact qbd _ _ _
 have eo:W.heap[w.heap.size+1]? =some (.cells #[.int .i64 0,.string { data:=#[] },.int .i64 0,.slice none 0 0] 38 (0,0)):=by rw [hW];exact qa5 _ _ _ (by simp)
 have ep:W.heap.size=w.heap.size+2:=by rw [hW];simp
 have eq:=z_ bi;have er:=z_ dt;have et:=z_ eo;have HZ:=z_ ep;obtain ⟨x0,x1,x2⟩:=box3 dt;have du:=(bi.cell (p:=⟨g0,o0+k*5,none⟩) bU).trans cD;have dw:=(bi.cell (p:=⟨g0,o0+k*5+1,none⟩) bU).trans bV;have dx:=(bi.cell (p:=⟨g0,o0+k*5+2,none⟩) bU).trans cE;have dy:=(bi.cell (p:=⟨g0,o0+k*5+3,none⟩) bU).trans cF;have dz:=(bi.cell (p:=⟨g0,o0+k*5+4,none⟩) bU).trans cG;have eu:Hid (w.cell? ⟨gd,od,none⟩=some (.slice A5 ln c5)):=z_ a8;have i1:(0:Int)≤(k:Int):=o_;have i2:(k:Int)<(m3:Int):=o_;clear bi a8 dt eo;go_enter Tryz.func86,Tryz.ntmps86
 go_wp2_with fail
 rw [← hW];clear hW;obtain ⟨WA,bF⟩:=e_ (W.alloc (.cells #[.string (bstr nm),.slice (some ⟨gd,od,none⟩) dl c4,.bool a,.bool b,.int .i64 u] 124));rw [← bF];have ev:Below w.heap.size w WA:=by rw [bF];exact eq.out.alloc eq.out.size _
 have ad:=fr1_ bF;have ew:WA.heap[w.heap.size+2]? =some (.cells #[.string (bstr nm),.slice (some ⟨gd,od,none⟩) dl c4,.bool a,.bool b,.int .i64 u] 124 (0,0)):=by rw [bF,← HZ.out];exact qa5 _ _ _ rfl
 have ey:=(ad.block _ (by have:=HZ.out;omega)).trans er.out;have ez:=(ad.block _ (by have:=HZ.out;omega)).trans et.out;have fy:WA.heap.size=w.heap.size+3:=by rw [bF];simp [HZ.out]
 have dA:=z_ ev
 have ai:Hid (∀ w3,Below WA.heap.size WA w3→Below w.heap.size w w3∧w.heap.size+3≤w3.heap.size∧(w3.cell? ⟨w.heap.size,0,none⟩=some (.slice A1 n c1)∧w3.cell? ⟨w.heap.size,1,none⟩=some (.slice A2 m2 c2)∧w3.cell? ⟨w.heap.size,2,none⟩=some (.slice (some ⟨g0,o0,none⟩) m3 c3))∧(w3.cell? ⟨w.heap.size+2,0,none⟩=some (.string (bstr nm))∧w3.cell? ⟨w.heap.size+2,1,none⟩=some (.slice (some ⟨gd,od,none⟩) dl c4)∧w3.cell? ⟨w.heap.size+2,2,none⟩=some (.bool a)∧w3.cell? ⟨w.heap.size+2,3,none⟩=some (.bool b)∧w3.cell? ⟨w.heap.size+2,4,none⟩=some (.int .i64 u))∧
   (w3.cell? ⟨w.heap.size+1,0,none⟩=some (.int .i64 0)∧w3.cell? ⟨w.heap.size+1,1,none⟩=some (.string { data:=#[] })∧w3.cell? ⟨w.heap.size+1,2,none⟩=some (.int .i64 0)∧w3.cell? ⟨w.heap.size+1,3,none⟩=some (.slice none 0 0))∧(w3.frozen? ⟨w.heap.size+1,0,none⟩=false∧w3.frozen? ⟨w.heap.size+1,1,none⟩=false∧w3.frozen? ⟨w.heap.size+1,2,none⟩=false∧w3.frozen? ⟨w.heap.size+1,3,none⟩=false)):=z_ (fun w3 h3=>by
  have h4:=(h3.block _ o_).trans ey;have h5:=(h3.block _ o_).trans ew;have h6:=(h3.block _ o_).trans ez
  exact ⟨dA.out.trans (h3.mono dA.out.size),by have:=h3.size;omega,box3 h4,box5 h5,box4 h6,⟨g_ w3 _ 0 _ _ h6,g_ w3 _ 1 _ _ h6,g_ w3 _ 2 _ _ h6,g_ w3 _ 3 _ _ h6⟩⟩)
 have bZ:Hid (r=false→∀ (w4:World) (u0 u1 u2 u3:Value),Below w.heap.size w w4→∃ t' v',(Ending.returned (.tuple #[.agg #[.int .i64 0,.string { data:=#[] },.int .i64 0,.slice none 0 0],.bool false]))=.returned (.tuple #[aggT t' v',.bool r])∧(r=true→t'=fo)∧HasTs (N+1) w.heap.size (set4 w4 (w.heap.size+1) u0 u1 u2 u3) v' t'.args∧Below w.heap.size w (set4 w4 (w.heap.size+1) u0 u1 u2 u3)):=z_ (fun bG w4 u0 u1 u2 u3 h4=>
  ⟨zT,.slice none 0 0,by rw [bG];rfl,by rw [bG];(intro e;cases e),HasR.nil _ _ _ Aa_ _,qa9 h4 o_ _ _ _ _⟩)
 clear bF ev ad ew ey ez fy ep x0 x1 x2 du dw dx dy dz er et HZ cD bV cE cF cG;refine (bR.out WA dA.out).mono ?_;rintro e w2 ⟨kv,rfl,eA,eB⟩;obtain ⟨KA,kc,rfl,eC⟩:=(Has.of_own eA).shape (n:=n) (by rw [qau,qag];exact dj)
 have eD:Hid (∀ w3,Below w2.heap.size w2 w3→∀ z,z<n→∃ gk ok,KA=some ⟨gk,ok,none⟩∧w3.cell? ⟨gk,ok+z,none⟩=some (.int .i64 ((κ (z:Int):Nat):Int))):=z_ (fun w3 h3 z hz=>by
  obtain ⟨gk,ok,e,fz,eE⟩:=eC.cellAt (j:=z) hz;rw [qak _ z Ao_,qav] at eE
  exact ⟨gk,ok,e,by rw [h3.cell (p:=⟨gk,ok+z,none⟩) fz,eE,fu.out]⟩)
 have ah:=z_ eB;clear eA eB eC;obtain ⟨aw,gr,⟨x0,x1,x2⟩,⟨a0,a1,a2,a3,a4⟩,_,_⟩:=ai.out w2 ah.out;obtain ⟨nb,eF⟩:∃ nb:Bool,nb=true↔(if a=true then 2≤q else q=ln):=by
  by_cases h9:(if a=true then 2≤q else q=ln)
  ·exact ⟨true,fun _=>h9,fun _=>rfl⟩
  ·exact ⟨false,fun e=>absurd e (by simp),fun e=>absurd e h9⟩
 have bj:=z_ eF;clear eF;go_upto_region 3 with fail
 go_cut [38] (fun fA wx=>fA=.bool (!nb)∧Hid (Below w2.heap.size w2 wx))
 case first=>
  cases a with
  | false=>
   by_cases au:q=ln
   ·exact c84_
   ·have aQ:nb=false:=by
     exact c89_
    have d1:((q:Int) != (ln:Int))=true:=by simp;omega
    have d2:(q != ln)=true:=by simp;omega
    have d3:decide ((q:Int)=(ln:Int))=false:=f_;have d4:((q:Int)==(ln:Int))=false:=by simp;omega
    exact c85_
  | true=>
   by_cases au:q=ln
   ·have fB:2≤q:=by have:=dr.out rfl;omega
    exact c84_
   ·by_cases fB:2≤q
    ·have aQ:nb=true:=by
      exact bj.out.2 (by simp;omega)
     have d1:((q:Int) != (ln:Int))=true:=by simp;omega
     have d2:(q != ln)=true:=by simp;omega
     have d3:decide ((q:Int)=(ln:Int))=false:=f_;have d4:((q:Int)==(ln:Int))=false:=by simp;omega
     have e1:decide ((2:Int)≤(q:Int))=true:=d_;have e2:decide (2≤q)=true:=d_;exact c85_
    ·have aQ:nb=false:=by
      exact c89_
     have d1:((q:Int) != (ln:Int))=true:=by simp;omega
     have d2:(q != ln)=true:=by simp;omega
     have d3:decide ((q:Int)=(ln:Int))=false:=f_;have d4:((q:Int)==(ln:Int))=false:=by simp;omega
     have e1:decide ((2:Int)≤(q:Int))=false:=f_;have e2:decide (2≤q)=false:=f_;exact c85_
 case rest=>
  obtain ⟨rfl,aj⟩:=hcut;obtain ⟨w3,rfl⟩:∃ w3,w3=wc:=⟨wc,rfl⟩;cases nb with
  | false=>
   have bG:r=false:=by
    cases dC:r with
    | false=>rfl
    | true=>exact absurd (bj.out.2 (aJ.out.1 (eh.out dC)).1) (by simp)
   obtain ⟨bk,fC,_,_,⟨z0,z1,z2,z3⟩,⟨f0,f1,f2,f3⟩⟩:=ai.out w3 (ah.out.trans (aj.out.mono ah.out.size));clear aq a7;go_wp2;refine bodyPost_ret (v:=.tuple #[.agg #[.int .i64 0,.string { data:=#[] },.int .i64 0,.slice none 0 0],.bool false]) (by simp [results,Tryz.results86,go_sem,z0,z1,z2,z3]) rfl ?_;exact bZ.out bG w3 _ _ _ _ bk
  | true=>
   have dD:Hid (if a=true then 2≤q else q=ln):=z_ (bj.out.1 rfl);obtain ⟨bk,fC,⟨fD,fE,fF⟩,⟨bH,bI,bJ,ba,bK⟩,_,_⟩:=ai.out w3 (ah.out.trans (aj.out.mono ah.out.size));clear a0 a1 a2 a3 a4 x0 x1 x2;go_wp2_with fail
   refine (a7.out w3 bk).mono ?_;rintro e w4 ⟨rfl,bl⟩;obtain ⟨ha,bm⟩:=e_ ((!decide (u=0)));obtain ⟨uo,bL⟩:=e_ ((if u=0 then 0 else u-1));have dE:=z_ (ah.out.trans ((aj.out.trans (bl.mono aj.out.size)).mono ah.out.size));have bn:=z_ (aj.out.trans (bl.mono aj.out.size));rw [← bm,← bL];have eG:=z_ bL;have ca:=z_ bm;have gs:w.heap.size+3≤w4.heap.size:=by have:=bl.size;omega
   have gt:(bstr []:ByteArray)={ data:=#[] }:=rfl;have dF:Hid (if (a:Bool)=true then 2≤q else q=ln):=z_ dD.out;clear bm bL bl a7 aq bR fD fE fF bH bI bJ ba bK;go_wp2;obtain ⟨V0,bM⟩:=e_ (w4.alloc (.cells #[.int .i64 uo,.string { data:=#[] },.int .i64 0,.slice none 0 0] 38));obtain ⟨V1,bN⟩:=e_ (V0.alloc (.cells #[] 38));have bl:Below w4.heap.size w4 V1:=by rw [bN,bM];exact (b_.alloc n_ _).alloc (by simp) _
   have eH:V1.heap.size=w4.heap.size+2:=by rw [bN,bM];simp
   have eI:V1.heap[w4.heap.size]? =some (.cells #[.int .i64 uo,.string { data:=#[] },.int .i64 0,.slice none 0 0] 38 (0,0)):=by rw [bN,bM];exact qbd _ _ _
   have hown:V1.ownsRow (w4.heap.size+1) 38 4 (.slice (some ⟨w4.heap.size+1,0,none⟩) 0 0) 0 (rowV []):=by
    have h1:=World.ownsRow_lit (e:=38) (size:=4) V0 #[] 0 n_ Aa_ rfl;rw [← bN] at h1;have h2:=fr3_ bM;rw [h2] at h1;exact h1
   have eJ:=z_ bl;have eK:=z_ eI;have eL:=z_ hown;have dG:=z_ eH;have gu:w.heap.size+5≤V1.heap.size:=o_;try rw [← bM]
   try rw [← bN]
   clear bM bN bl eI hown eH
   have eM:Hid (∀ w3,Below (w4.heap.size+1) V1 w3→Below WA.heap.size WA w3∧Below w2.heap.size w2 w3∧(w3.cell? ⟨w4.heap.size,0,none⟩=some (.int .i64 uo)∧w3.cell? ⟨w4.heap.size,1,none⟩=some (.string { data:=#[] })∧w3.cell? ⟨w4.heap.size,2,none⟩=some (.int .i64 0)∧w3.cell? ⟨w4.heap.size,3,none⟩=some (.slice none 0 0))):=z_ (fun w3 h3=>by
    have h4:Below w4.heap.size w4 w3:=eJ.out.trans (h3.mono o_);have h5:=(h3.block _ o_).trans eK.out
    exact ⟨dE.out.trans (h4.mono dE.out.size),bn.out.trans (h4.mono bn.out.size),box4 h5⟩)
   clear eK eJ aj ah dE bn;go_loopg [12,13] q (fun gq fG fH wr=>∃ (p:Nat) (R:List (TermM×Value)),fH=.int .i64 p∧p≤q∧q≤p+gq∧Hid (∀ i,i<p→κ (srtT O (L.getD i default))=κ (L0.getD (atS a i) 0))∧Hid (R.map Prod.fst=partsM u a k (L.take p))∧Hid (∀ x∈R,tmr.El N lo w x)∧Hid (wr.ownsRow (w4.heap.size+1) 38 4 fG R.length (rowV R))∧Hid (Below (w4.heap.size+1) V1 wr))
   case atStart=>exact ⟨0,[],rfl,y_,by omega,z_ (fun i hi=>absurd hi (Nat.not_lt_zero _)),z_ rfl,z_ (fun x hx=>by cases hx),eL,z_ b_⟩
   case round=>
    obtain ⟨p,R,rfl,hp,gv,bo,HF,HA,HO,HB⟩:=hrel;clear eL;obtain ⟨AL,cL,rfl,_⟩:=qaz HO.out;obtain ⟨ad,bp,⟨y0,y1,y2,y3⟩⟩:=eM.out wr HB.out;obtain ⟨am,gw,⟨x0,x1,x2⟩,⟨a0,a1,a2,a3,a4⟩,_,_⟩:=ai.out wr ad;have gx:=HB.out.size;have fI:w4.heap.size+1≤wr.heap.size:=by have:=dG.out;omega
    by_cases cI:p<q
    ·have d1:decide ((p:Int)<(q:Int))=true:=d_
     obtain ⟨kn,g,o,B2,cx,eN,rfl,_,hg,e0,e1,e2,e3,aR,bq⟩:=qal HH.out cI;obtain rfl:N=kn:=o_;obtain ⟨gl,ol,za,rfl,dm,eO,dH,fJ⟩:=bY.out (atS a p) (af.out dF.out p cI);obtain ⟨gy,ok,rfl,dI⟩:=eD.out wr bp za fJ;have f0:=(am.cell (p:=⟨g,o+p*4,none⟩) hg).trans e0;have f1:=(am.cell (p:=⟨g,o+p*4+1,none⟩) hg).trans e1;have f2:=(am.cell (p:=⟨g,o+p*4+2,none⟩) hg).trans e2;have f3:=(am.cell (p:=⟨g,o+p*4+3,none⟩) hg).trans e3;have eP:=(am.cell (p:=⟨gd,od,none⟩) fr).trans eu.out;have cJ:=(am.cell (p:=⟨gl,ol+atS a p,none⟩) dm).trans eO;have dJ:p<L.length:=by have:=en.out;omega
     have aS:L.getD p default∈L:=by rw [qai dJ];exact List.getElem_mem _
     have bT:=fp.out _ aS;have br:atS a p<ln:=af.out dF.out p cI;have cK:=z_ (qkd u a k L dJ);have dK:=dk.out _ aS;have cM:=z_ (bh.out _ aS);obtain ⟨x,hx⟩:=e_ (L.getD p default);have eQ:=z_ hx;rw [← hx] at f0 f1 f2 f3 aR bq bT cK dK cM;have eR:=z_ aR;have fK:=z_ bq;obtain ⟨kx,cN⟩:=e_ (κ (srtT O x));obtain ⟨ka,cO⟩:=e_ (κ (za:Int));obtain ⟨sm,ax⟩:∃ sm,decide (cmp x (qge u)=0)=sm:=⟨_,rfl⟩;rw [← cO] at dI;obtain ⟨xl,bb⟩:=e_ (x.args.length);have cP:=z_ bb
     have aT:Hid (∀ t:BoxC (Below wr.heap.size wr),Calls Tryz.prog 143 #[.agg #[.slice A1 n c1,.slice A2 m2 c2,.slice (some ⟨g0,o0,none⟩) m3 c3],.agg #[.int .i64 x.op,.string (bstr x.name),.int .i64 x.sort,.slice B2 xl cx]] t.W fun e w'=>e=.returned (.int .i64 (kx:Int))∧Below t.W.heap.size t.W w'):=z_ (fun t=>by
      have cQ:=am.trans (t.h.mono am.size);rw [cN,bb]
      exact bS.out t.W x _ N lo cQ (aR.below n_ cQ) bT)
     have aU:Hid (∀ t:BoxC (Below wr.heap.size wr),Calls Tryz.prog 58 #[.agg #[.int .i64 x.op,.string (bstr x.name),.int .i64 x.sort,.slice B2 xl cx],.agg #[.int .i64 uo,.string { data:=#[] },.int .i64 0,.slice none 0 0]] t.W fun e w'=>e=.returned (.bool sm)∧Below t.W.heap.size t.W w'):=z_ (fun t=>by
      have cQ:=am.trans (t.h.mono am.size);have h1:=qew (n:=N) (m:=0) (lo':=lo) x (qge u) (.slice B2 x.args.length cx) (.slice none 0 0) t.W (aR.below n_ cQ) (HasR.nil _ _ _ Aa_ _) sm ax;rw [eG.out,bb]
      exact h1)
     have fL:Hid (r=true→kx=ka):=z_ (fun aO=>by
      have h1:=(aJ.out.1 (eh.out aO)).2 p cI;rw [← hx,dH,← cN,← cO] at h1
      exact h1)
     have fM:Hid (kx=ka→∀ i,i<p+1→κ (srtT O (L.getD i default))=κ (L0.getD (atS a i) 0)):=z_ (fun h1 i hi=>by
      by_cases e:i=p
      ·subst e
       rw [← hx,dH,← cN,← cO];exact h1
      ·exact bo.out i o_)
     have dL:Hid ((u≠0∧x.op=u-1)↔(ha=true∧sm=true)):=z_ (by
      rw [dK,ca.out,← ax]
      simp)
     obtain ⟨xo,cR⟩:=e_ (x.op);obtain ⟨xn,cS⟩:=e_ (x.name);obtain ⟨xs,cT⟩:=e_ (x.sort);have bc:=z_ (And.intro cR (And.intro cS cT));rw [← cR,← cS,← cT] at aT aU;rw [← cR] at f0 dL cM;rw [← cS] at f1;rw [← cT] at f2;rw [← bb] at f3 cM;have kV:∀ {g y:Nat} {v:Value},wr.cell? ⟨g,y,none⟩=some v→∀ t:BoxC (Below wr.heap.size wr),t.W.cell? ⟨g,y,none⟩=some v:=fun {g y v} h t=>t.cell h (l_ h)
     have b0:=kV x0;have b1:=kV x1;have b2:=kV x2;have b3:=kV a1;have b4:=kV a2;have b5:=kV y0;have b6:=kV y1;have b7:=kV y2;have b8:=kV y3;have b9:=kV eP;have cU:=kV dI;have cV:=kV f0;have cW:=kV f1;have cX:=kV f2;have cY:=kV f3;have i3:(0:Int)≤(p:Int):=o_;have i4:(p:Int)<(q:Int):=o_;have i5:(0:Int)<(dl:Int):=o_;have i6:(0:Int)≤(za:Int):=o_;have i7:(za:Int)<(n:Int):=o_;have nb:Nonempty (BoxC (Below wr.heap.size wr)):=⟨⟨_,Below.refl _ _⟩⟩;have dM:Hid (∀ t:BoxC (Below wr.heap.size wr),Below w.heap.size w t.W):=z_ (fun t=>am.trans (t.h.mono am.size));have cc:Hid (∀ t:BoxC (Below wr.heap.size wr),Below (w4.heap.size+1) V1 t.W):=z_ (fun t=>HB.out.trans (t.h.mono fI));have fN:Hid (∀ t:BoxC (Below wr.heap.size wr),Below WA.heap.size WA t.W):=z_ (fun t=>ad.trans (t.h.mono ad.size));have cd:Hid (∀ t:BoxC (Below wr.heap.size wr),t.W.ownsRow (w4.heap.size+1) 38 4 (.slice AL R.length cL) R.length (rowV R)):=z_ (fun t=>own_below HO.out t.h);clear kV e0 e1 e2 e3 aR bq eO hx aS dH ax cN cO bb dK bT cR cS cT x0 x1 x2 a0 a1 a3 a4 y0 y1 y2 y3 eP dI f0 f1 f2 f3 am bp dJ;obtain ⟨ap,dN⟩:=e_ (atS a p);have eS:=z_ dN;rw [← dN] at cJ br;clear dN;go_upto_if 55 with fail
     go_cut [14] (fun fO wx=>fO=.int .i64 (ap:Nat)∧wr=wx)
     case first=>
      cases a with
      | false=>
       have e9:ap=p:=by rw [eS.out];rfl
       go_wp2;go_meet
       exact ⟨by rw [e9],rfl⟩
      | true=>
       have e9:ap=0:=by rw [eS.out];rfl
       go_wp2;go_meet
       exact ⟨by rw [e9];rfl,rfl⟩
     case rest=>
      obtain ⟨rfl,rfl⟩:=hcut;have cZ:∀ t:BoxC (Below wr.heap.size wr),t.W.cell? ⟨gl,ol+ap,none⟩=some (.int .i64 ((za:Nat):Int)):=fun t=>t.cell cJ (l_ cJ)
      have i8:(ap:Int)<(ln:Int):=o_;have i9:(0:Int)≤(ap:Int):=o_;have c8:Hid (ap<ln):=z_ br;clear cJ br;by_cases aK:kx=ka
      ·have q1:((kx:Int)==(ka:Int))=true:=by rw [aK];simp
       have q2:(kx==ka)=true:=by rw [aK];simp
       have q3:decide (kx=ka)=true:=decide_eq_true aK;have q4:((kx:Int) != (ka:Int))=false:=by rw [aK];simp
       have q5:(kx != ka)=false:=by rw [aK];simp
       have dO:=z_ (fM.out aK);go_wp2_with fail
       refine qa1 (C:=Below wr.heap.size wr) k_ k_ b_.drew ?_;repeat (first|go_big_quiet_step ((go_at_call 143;exact (aT.out _).mono (fun _ _ h=>⟨h.1,BoxC.step _ h.2⟩)))|go_big_quiet_step ((go_at_call 58;exact (aU.out _).mono (fun _ _ h=>⟨h.1,BoxC.step _ h.2⟩))))
       refine wpQuiet_nil ?_;rintro w5 ⟨t5,rfl⟩;clear q1 q2 q3 q4 q5;obtain ⟨ub,eT⟩:=e_ ((ha&&sm));have da:=z_ eT;clear eT;go_upto_region 16 with fail
       go_cut [82] (fun fP wx=>fP=.bool ub∧∃ t:BoxC (Below wr.heap.size wr),wx=t.W)
       case first=>
        cases ha with
        | false=>
         go_wp2_with fail
         refine qa1 (C:=Below wr.heap.size wr) k_ k_ (BoxC.h t5).drew ?_;repeat (first|go_big_quiet_step ((go_at_call 143;exact (aT.out _).mono (fun _ _ h=>⟨h.1,BoxC.step _ h.2⟩)))|go_big_quiet_step ((go_at_call 58;exact (aU.out _).mono (fun _ _ h=>⟨h.1,BoxC.step _ h.2⟩))))
         refine wpQuiet_nil ?_;rintro w6 ⟨t6,rfl⟩;go_wp2;go_meet
         exact ⟨by rw [da.out];rfl,t6,rfl⟩
        | true=>
         go_wp2_with fail
         refine qa1 (C:=Below wr.heap.size wr) k_ k_ (BoxC.h t5).drew ?_;repeat (first|go_big_quiet_step ((go_at_call 143;exact (aT.out _).mono (fun _ _ h=>⟨h.1,BoxC.step _ h.2⟩)))|go_big_quiet_step ((go_at_call 58;exact (aU.out _).mono (fun _ _ h=>⟨h.1,BoxC.step _ h.2⟩))))
         refine wpQuiet_nil ?_;rintro w6 ⟨t6,rfl⟩;go_wp2;go_meet
         exact ⟨by rw [da.out];simp,t6,rfl⟩
       case rest=>
        obtain ⟨rfl,t6,rfl⟩:=hcut;cases ub with
        | true=>
         have fQ:Hid (u≠0∧xo=u-1):=z_ (dL.out.2 (by have:=da.out;simpa using this.symm));have bs:Hid (R.map Prod.fst=partsM u a k (L.take (p+1))):=z_ (by rw [cK.out,qex (by rw [← bc.out.1];exact fQ.out),List.append_nil];exact HF.out);have ce:=HA;have cf:Hid (t6.W.ownsRow (w4.heap.size+1) 38 4 (.slice AL R.length cL) R.length (rowV R)):=z_ (cd.out t6);have bd:Hid (Below (w4.heap.size+1) V1 t6.W):=z_ (cc.out t6);clear b0 b1 b2 b3 b4 b5 b6 b7 b8 b9 cU cZ cV cW cX cY nb aT aU;go_wp2;go_roundg (gk-1)
         case measure=>omega
         case rel=>exact ⟨p+1,R,by go_num,by omega,by omega,dO,bs,ce,cf,bd⟩
        | false=>
         have bt:¬ (u≠0∧xo=u-1):=fun e=>by
          obtain ⟨h1,h2⟩:=dL.out.1 e;have:=da.out;rw [h1,h2] at this;cases this
         have fR:=z_ bt;clear bt;obtain ⟨fb,eU⟩:=e_ ((a&&decide (xo=(k:Int))));have cg:=z_ eU;clear eU;go_upto_region 17 with fail
         go_cut [92] (fun fS wx=>fS=.bool fb∧t6.W=wx)
         case first=>
          cases a with
          | false=>
           go_wp2;go_meet
           exact ⟨by rw [cg.out];rfl,rfl⟩
          | true=>
           by_cases ch:xo=(k:Int)
           ·have s1:(xo==(k:Int))=true:=by rw [ch];simp
            have s2:decide (xo=(k:Int))=true:=decide_eq_true ch;have s3:fb=true:=by rw [cg.out,s2];rfl
            clear ch;go_wp2;go_meet
            exact ⟨by rw [s3],rfl⟩
           ·have s1:(xo==(k:Int))=false:=by simp [ch]
            have s2:decide (xo=(k:Int))=false:=decide_eq_false ch;have s3:fb=false:=by rw [cg.out,s2];rfl
            go_wp2;go_meet
            exact ⟨by rw [s3],rfl⟩
         case rest=>
          obtain ⟨rfl,rfl⟩:=hcut;have bt:=fR.out;cases fb with
          | false=>
           have eV:¬ (a=true∧xo=(k:Int)):=fun e=>by
            have:=cg.out;rw [e.1,decide_eq_true e.2] at this;cases this
           have dP:Hid ((partsM u a k (L.take (p+1))).length≤1048576):=z_ (by
            have h1:=qj9 u a k L (p+1);have h2:=qat (partsM u a k L);have:=dq.out
            omega)
           obtain ⟨R2,aV⟩:∃ R2:List (TermM×Value),R2=[(x,.slice B2 xl cx)]:=⟨_,rfl⟩;have ci:Hid (R2.length=1):=z_ (by rw [aV];rfl);have dQ:Hid ((rowV R2).length=1*4):=z_ (by rw [qbr,ci.out]);have eW:Hid (rowV R2=[.int .i64 xo,.string (bstr xn),.int .i64 xs,.slice B2 xl cx]):=z_ (by rw [aV,bc.out.1,bc.out.2.1,bc.out.2.2];rfl)
           have dR:Hid (∀ j y,(rowV R2)[j]? =some y→(t6.W.alloc (.cells #[.int .i64 xo,.string (bstr xn),.int .i64 xs,.slice B2 xl cx] 38)).cell? ((⟨t6.W.heap.size,0,none⟩:Addr).add j)=some y):=z_ (by
            rw [eW.out];intro j y hy;match j,hy with
            | 0,hy=>simp at hy;subst hy;simp [Addr.add]
            | 1,hy=>simp at hy;subst hy;simp [Addr.add]
            | 2,hy=>simp at hy;subst hy;simp [Addr.add]
            | 3,hy=>simp at hy;subst hy;simp [Addr.add])
           have fT:Hid (tmr.El N lo w (x,.slice B2 xl cx)):=z_ ⟨by rw [cP.out];exact eR.out,fK.out⟩
           have bu:Hid (∀ v∈rowV R2,v.oneCell'=true):=z_ (by
            rw [eW.out];intro v hv;simp at hv
            rcases hv with rfl|rfl|rfl|rfl<;>rfl)
           have ce:Hid (∀ y∈R++R2,tmr.El N lo w y):=z_ (fun y hy=>by
            rcases List.mem_append.1 hy with h9|h9
            ·exact HA.out y h9
            ·rw [aV] at h9
             simp at h9;subst h9
             exact fT.out)
           have bs:Hid ((R++R2).map Prod.fst=partsM u a k (L.take (p+1))):=z_ (by rw [cK.out,qdo (by rw [← bc.out.1];exact bt) (by rw [← bc.out.1];exact eV),List.map_append,HF.out,aV];rfl);have bX:R.length+1≤1048576:=by
            have h9:=dP.out;rw [← bs.out,List.length_map,List.length_append,ci.out] at h9;exact h9
           have cj:w4.heap.size+1≤t6.W.heap.size:=by have:=(cc.out t6).size;have:=dG.out;omega
           have bv:Hid (∀ ob,Below t6.W.heap.size t6.W (t6.W.alloc ob)):=z_ (fun ob=>b_.alloc n_ ob);clear aV bt eV;obtain ⟨j0,dS,dT,dU,dV⟩:=info_parts qb1;go_wp2_with (at_builtin;refine wpList_append_lies _ rfl _ _ _ rfl (w4.heap.size+1) 38 j0 _ 4 56 Tryz.underlying36 dS dT dU dV rfl o_ _ R.length (rowV R) rfl (own_below (cd.out t6) (bv.out _)) ⟨t6.W.heap.size,0,none⟩ 1 1 (rowV R2) rfl dQ.out dR.out bu.out o_ Aa_ o_ (Nat.le_trans cj (bv.out _).size) _ rfl ?_;intro g4 bw w7 ak ay dW bx)
           have cf:Hid (w7.ownsRow (w4.heap.size+1) 38 4 (.slice (some ⟨g4,0,none⟩) (R.length+1) bw) (R++R2).length (rowV (R++R2))):=z_ (by rw [qbz,List.length_append,ci.out];exact ak);have bd:Hid (Below (w4.heap.size+1) V1 w7):=z_ (qmf (cc.out t6) (bv.out _) ay (cd.out t6) cj);exact c86_
          | true=>
           have dX:Hid (a=true∧xo=(k:Int)):=z_ (by have:=cg.out;simpa using this.symm)
           have dP:Hid ((partsM u a k (L.take (p+1))).length≤1048576):=z_ (by
            have h1:=qj9 u a k L (p+1);have h2:=qat (partsM u a k L);have:=dq.out
            omega)
           have an:0<xl:=by have:=cM.out dX.out.1 dX.out.2;omega
           have eX:Hid (HasTs N lo w (.slice B2 xl cx) x.args):=z_ (by rw [cP.out];exact eR.out);obtain ⟨k2,g2,o2,_,_,eY,rfl,_,hg2,_⟩:=qal eX.out an;obtain ⟨R2,aV,db,eZ⟩:=qhn (n:=k2) (by rw [← eY];exact eX.out) cP.out;have dc:R2.length=xl:=by rw [cP.out,← aV,List.length_map]
           have ci:=z_ dc;have dQ:Hid ((rowV R2).length=xl*4):=z_ (by rw [qbr,dc]);have dR:Hid (∀ j y,(rowV R2)[j]? =some y→t6.W.cell? ((⟨g2,o2,none⟩:Addr).add j)=some y):=z_ (fun j y hy=>Sub.below (dM.out t6) _ _ (eZ g2 o2 rfl j y hy))
           have bu:Hid (∀ v∈rowV R2,v.oneCell'=true):=z_ (qm0 R2 (fun y hy=>by
            obtain ⟨A9,c9,e9,_⟩:=HasR.shape (db y hy).1 rfl
            rw [e9];rfl))
           have ce:Hid (∀ y∈R++R2,tmr.El N lo w y):=z_ (fun y hy=>by
            rcases List.mem_append.1 hy with h9|h9
            ·exact HA.out y h9
            ·exact ⟨(db y h9).1.up o_,(db y h9).2⟩)
           have bs:Hid ((R++R2).map Prod.fst=partsM u a k (L.take (p+1))):=z_ (by rw [cK.out,qey (by rw [← bc.out.1];exact bt) (by rw [← bc.out.1];exact dX.out),List.map_append,HF.out,aV]);have bX:R.length+xl≤1048576:=by
            have h9:=dP.out;rw [← bs.out,List.length_map,List.length_append,dc] at h9;exact h9
           have cj:w4.heap.size+1≤t6.W.heap.size:=by have:=(cc.out t6).size;have:=dG.out;omega
           clear aV db eZ dc bt hg2 eY;obtain ⟨j0,dS,dT,dU,dV⟩:=info_parts qb1;go_wp2_with (at_builtin;refine wpList_append_lies _ rfl _ _ _ rfl (w4.heap.size+1) 38 j0 _ 4 56 Tryz.underlying36 dS dT dU dV rfl o_ _ R.length (rowV R) rfl (cd.out t6) ⟨g2,o2,none⟩ xl cx (rowV R2) rfl dQ.out dR.out bu.out o_ Aa_ o_ cj _ rfl ?_;intro g4 bw w7 ak ay dW bx)
           have cf:Hid (w7.ownsRow (w4.heap.size+1) 38 4 (.slice (some ⟨g4,0,none⟩) (R.length+xl) bw) (R++R2).length (rowV (R++R2))):=z_ (by rw [qbz,List.length_append,ci.out];exact ak);have bd:Hid (Below (w4.heap.size+1) V1 w7):=z_ (qmf (cc.out t6) b_ ay (cd.out t6) cj);exact c86_
      ·have q1:((kx:Int)==(ka:Int))=false:=by simp;omega
       have q2:(kx==ka)=false:=by simp [aK]
       have q3:decide (kx=ka)=false:=decide_eq_false aK;have q4:¬ (kx:Int)=(ka:Int):=o_;have q5:(kx != ka)=true:=by simp [aK]
       have q6:((kx:Int) != (ka:Int))=true:=by simp;omega
       have q7:(!decide ((kx:Int)=(ka:Int)))=true:=by simp;omega
       have q8:decide ((kx:Int)=(ka:Int))=false:=decide_eq_false q4;have bG:r=false:=by
        cases dC:r with
        | false=>rfl
        | true=>exact absurd (fL.out dC) aK
       go_wp2_with fail
       refine qa1 (C:=Below wr.heap.size wr) k_ k_ b_.drew ?_;repeat (first|go_big_quiet_step ((go_at_call 143;exact (aT.out _).mono (fun _ _ h=>⟨h.1,BoxC.step _ h.2⟩)))|go_big_quiet_step ((go_at_call 58;exact (aU.out _).mono (fun _ _ h=>⟨h.1,BoxC.step _ h.2⟩))))
       refine wpQuiet_nil ?_;rintro w5 ⟨t5,rfl⟩;obtain ⟨dY,_,_,_,⟨z0,z1,z2,z3⟩,⟨f0,f1,f2,f3⟩⟩:=ai.out _ (fN.out t5);clear b0 b1 b2 b3 b4 b5 b6 b7 b8 b9 cU cZ cV cW cX cY nb aT aU;go_wp2;refine bodyPost_ret (v:=.tuple #[.agg #[.int .i64 0,.string { data:=#[] },.int .i64 0,.slice none 0 0],.bool false]) (by simp [results,Tryz.results86,go_sem,z0,z1,z2,z3]) rfl ?_;exact bZ.out bG _ _ _ _ _ dY
    ·obtain rfl:p=q:=o_
     have d1:decide ((p:Int)<(p:Int))=false:=f_;obtain ⟨ps,ck⟩:=e_ (partsM u a k L);have e4:Hid (R.map Prod.fst=ps):=z_ (by rw [ck,HF.out,List.take_of_length_le (by have:=en.out;omega)]);have dZ:Hid (CanS P Q O k L):=z_ (aJ.out.2 ⟨dF.out,bo.out⟩);obtain ⟨az,cl⟩:=cC.out dZ.out;unfold okX at az;rw [← ck] at az;have bz:=dq.out;rw [← ck] at bz;have cm:=qat ps;obtain ⟨ql,dd⟩:=e_ (R.length);have cn:Hid (ql=ps.length):=z_ (by rw [dd,← e4.out,List.length_map]);rw [← cn.out] at az cm;have aW:=z_ az;have aX:=z_ cl;have bO:Hid (qh3 u a b k L=if u≠0∧ql=0 then .mk (u-1) [] 0 [] else if u≠0∧ql=1 then ps.getD 0 default else .mk k [] 0 (if b=true then qcj ps else ps)):=z_ (by unfold qh3;rw [← ck,← cn.out]);have aY:=z_ bz;have ae:=RowIn.own HO.out HA.out;have d5:Hid (HasTs (N+1) 0 wr (.slice AL ql cL) ps):=z_ (by rw [dd,← e4.out];exact ae.has (Sub.below am));rw [← dd] at HO ⊢;obtain ⟨z0,z1,z2,z3⟩:=(ai.out wr ad).2.2.2.2.1;obtain ⟨f0,f1,f2,f3⟩:=(ai.out wr ad).2.2.2.2.2;have dM:=z_ am;have e5:ql≤1048576:=o_;have aA:Hid (∀ w3,Below wr.heap.size wr w3→Below WA.heap.size WA w3):=z_ (fun w3 h3=>ad.trans (h3.mono ad.size));clear az cl bz cm ae ad bp eM eD bo HF eu ck dd;obtain ⟨e0,e6⟩:∃ e0:Bool,e0=(ha&&decide (ql=0)):=⟨_,rfl⟩;have co:=z_ e6;obtain ⟨e1,e7⟩:∃ e1:Bool,e1=(ha&&decide (ql=1)):=⟨_,rfl⟩;have cp:=z_ e7;have de:Hid (ha=true↔u≠0):=z_ (by rw [ca.out];simp);clear e6 e7;go_upto_region 19 with fail
     go_cut [116] (fun s wx=>s=.bool e0∧wr=wx)
     case first=>
      cases ha with
      | false=>
       go_wp2;go_meet
       exact ⟨by rw [co.out];rfl,rfl⟩
      | true=>
       by_cases an:ql=0
       ·have g1:((ql:Int)==0)=true:=by rw [an];rfl
        have g2:(ql==0)=true:=by rw [an];rfl
        have g3:e0=true:=by rw [co.out,decide_eq_true an];rfl
        clear an;go_wp2;go_meet
        exact ⟨by rw [g3],rfl⟩
       ·have g1:((ql:Int)==0)=false:=by simp;omega
        have g2:(ql==0)=false:=by simp [an]
        have g3:decide ((ql:Int)=0)=false:=f_;have g4:e0=false:=by rw [co.out,decide_eq_false an];rfl
        go_wp2;go_meet
        exact ⟨by rw [g4],rfl⟩
     case rest=>
      obtain ⟨rfl,rfl⟩:=hcut;cases e0 with
      | true=>
       obtain ⟨bA,an⟩:u≠0∧ql=0:=by
        have h9:=co.out;simp at h9;exact ⟨de.out.1 h9.1,h9.2⟩
       have aO:r=true:=aW.out.2 (.inl ⟨bA,an⟩);have bL:uo=u-1:=by rw [eG.out,if_neg bA]
       have bB:Hid (∀ v0 v1 v2 v3,∃ t' v',(Ending.returned (.tuple #[.agg #[.int .i64 uo,.string { data:=#[] },.int .i64 0,.slice none 0 0],.bool true]))=.returned (.tuple #[aggT t' v',.bool r])∧(r=true→t'=fo)∧HasTs (N+1) w.heap.size (set4 wr (w.heap.size+1) v0 v1 v2 v3) v' t'.args∧Below w.heap.size w (set4 wr (w.heap.size+1) v0 v1 v2 v3)):=z_ (fun v0 v1 v2 v3=>
        ⟨.mk (u-1) [] 0 [],.slice none 0 0,by rw [aO,bL];rfl,fun h=>by rw [← aX.out h,bO.out,if_pos ⟨bA,an⟩],HasR.nil _ _ _ Aa_ _,qa9 dM.out o_ _ _ _ _⟩)
       clear aO bL an;go_wp2;refine bodyPost_ret (v:=.tuple #[.agg #[.int .i64 uo,.string { data:=#[] },.int .i64 0,.slice none 0 0],.bool true]) (by simp [results,Tryz.results86,go_sem,z0,z1,z2,z3]) rfl ?_;exact bB.out _ _ _ _
      | false=>
       have cq:¬ (u≠0∧ql=0):=fun e=>by
        have h9:=co.out;rw [de.out.2 e.1,decide_eq_true e.2] at h9;cases h9
       have ct:=z_ cq;clear cq;go_upto_region 21 with fail
       go_cut [123] (fun s wx=>s=.bool e1∧wr=wx)
       case first=>
        cases ha with
        | false=>
         go_wp2;go_meet
         exact ⟨by rw [cp.out];rfl,rfl⟩
        | true=>
         by_cases aL:ql=1
         ·have g1:((ql:Int)==1)=true:=by rw [aL];rfl
          have g2:(ql==1)=true:=by rw [aL];rfl
          have g3:e1=true:=by rw [cp.out,decide_eq_true aL];rfl
          clear aL;go_wp2;go_meet
          exact ⟨by rw [g3],rfl⟩
         ·have g1:((ql:Int)==1)=false:=by simp;omega
          have g2:(ql==1)=false:=by simp [aL]
          have g3:decide ((ql:Int)=1)=false:=f_;have g4:e1=false:=by rw [cp.out,decide_eq_false aL];rfl
          go_wp2;go_meet
          exact ⟨by rw [g4],rfl⟩
       case rest=>
        obtain ⟨rfl,rfl⟩:=hcut;cases e1 with
        | true=>
         obtain ⟨bA,aL⟩:u≠0∧ql=1:=by
          have h9:=cp.out;simp at h9;exact ⟨de.out.1 h9.1,h9.2⟩
         have an:¬ ql=0:=o_;obtain ⟨kn,g,o,B2,cx,eN,fU,_,hg,d6,d7,d8,df,aR,bq⟩:=qal d5.out (j:=0) o_;obtain rfl:N=kn:=o_;obtain ⟨x,hx⟩:=e_ (ps.getD 0 default);have eQ:=z_ hx;rw [← hx] at d6 d7 d8 df aR bq;have cu:qa2 x.args≤1048576:=by
          have h1:=qam (l:=ps) (j:=0) (by have:=cn.out;omega);have h2:=termro.qao x;have:=aY.out;rw [← hx] at h1;omega
         have e8:=z_ (qgm N x _ wr 0 aR bq cu);obtain ⟨xl,bb⟩:=e_ (x.args.length);rw [← bb] at df e8;have aO:r=true:=aW.out.2 (.inr (.inl ⟨bA,aL⟩));have fV:=z_ aO;have fW:=z_ bA;have fa:=z_ (And.intro an aL);simp only [Nat.zero_mul,Nat.add_zero] at d6 d7 d8 df;subst fU;have fX:0<ql:=o_;clear aR bq hx bb cu aO bA eN aL;go_wp2_with fail
         refine e8.out.mono ?_;rintro e w6 ⟨v6,rfl,bC,cv⟩;obtain ⟨A6,c6,rfl,_⟩:=HasR.shape bC rfl;obtain ⟨fc,_,_,_,⟨fY,fZ,f4,f5⟩,⟨f7,f8,f9,ga⟩⟩:=ai.out w6 (aA.out _ cv)
         have bB:Hid (∀ v0 v1 v2 v3,∃ t' v',(Ending.returned (.tuple #[.agg #[.int .i64 x.op,.string (bstr x.name),.int .i64 x.sort,.slice A6 x.args.length c6],.bool true]))=.returned (.tuple #[aggT t' v',.bool r])∧(r=true→t'=fo)∧HasTs (N+1) w.heap.size (set4 w6 (w.heap.size+1) v0 v1 v2 v3) v' t'.args∧Below w.heap.size w (set4 w6 (w.heap.size+1) v0 v1 v2 v3)):=z_ (fun v0 v1 v2 v3=>
          ⟨x,.slice A6 x.args.length c6,by rw [fV.out],fun h=>by rw [← aX.out h,bO.out,if_neg (fun h=>fa.out.1 h.2),if_pos ⟨fW.out,fa.out.2⟩,eQ.out],
           (HasR.mono (qa7 _) (HasR.kept (qa7 _) (bC.up (Nat.le_succ N)) (qd2 (x:=w.heap.size+1) o_ v0 v1 v2 v3)) o_),qa9 fc o_ _ _ _ _⟩)
         clear bC cv fc z0 z1 z2 z3 f0 f1 f2 f3 d6 d7 d8 df;go_wp2;refine bodyPost_ret (v:=.tuple #[.agg #[.int .i64 x.op,.string (bstr x.name),.int .i64 x.sort,.slice A6 x.args.length c6],.bool true]) (by simp [results,Tryz.results86,go_sem,fY,fZ,f4,f5]) rfl ?_;exact bB.out _ _ _ _
        | false=>
         have cw:¬ (u≠0∧ql=1):=fun e=>by
          have h9:=cp.out;rw [de.out.2 e.1,decide_eq_true e.2] at h9;cases h9
         have bP:Hid (¬ (u≠0∧ql=0)∧¬ (u≠0∧ql=1)):=z_ ⟨ct.out,cw⟩;clear cw ct;have fd:=z_ (qwv (n:=N) ps (.slice AL ql cL) wr d5.out aY.out);obtain ⟨aM,aZ⟩:=e_ (if b=true then qcj ps else ps);have fe:=z_ aZ;rw [← aZ] at bO
         have c8:Hid (aM.length=ql∧qa2 aM≤1048576):=z_ (by
          have h1:=aY.out;have h2:=qkg (qb9 ps).2;have h3:=(qb9 ps).2.length_eq;have h4:=cn.out;rw [aZ]
          split<;>omega)
         clear aZ;have gb:=(ai.out wr (aA.out _ b_)).2.2.2.1.2.2.2.1;go_upto_if 129 with fail
         go_cut [12] (fun gc wx=>∃ A6 c6,gc=.slice A6 ql c6∧Hid (HasTs (N+1) 0 wx (.slice A6 ql c6) aM)∧Hid (Below wr.heap.size wr wx))
         case first=>
          cases b with
          | true=>
           have ge:Hid (aM=qcj ps):=z_ (by rw [fe.out,if_pos rfl]);go_wp2_with fail
           refine fd.out.mono ?_;rintro e w6 ⟨v6,rfl,bC,cv⟩;obtain ⟨A6,c6,rfl,_⟩:=HasR.shape bC (n:=ql) (by rw [(qb9 ps).2.length_eq];exact cn.out.symm);have cy:Hid (HasTs (N+1) 0 w6 (.slice A6 ql c6) aM):=z_ (by rw [ge.out];exact bC.mono (qa7 _) y_);have bQ:=z_ cv;clear bC cv;go_wp2;go_meet
           exact ⟨A6,c6,rfl,cy,bQ⟩
          | false=>
           have cy:Hid (HasTs (N+1) 0 wr (.slice AL ql cL) aM):=z_ (by rw [fe.out,if_neg (by simp)];exact d5.out);go_wp2;go_meet
           exact ⟨AL,cL,rfl,cy,z_ b_⟩
         case rest=>
          obtain ⟨A6,c6,rfl,cy,bQ⟩:=hcut;obtain ⟨w6,rfl⟩:∃ w6,w6=wc:=⟨wc,rfl⟩;have ff:=z_ (qks (d:=N) aM (.slice A6 ql c6) w6 cy.out c8.out.2);clear z0 z1 z2 z3 f0 f1 f2 f3 gb;have ba:=(ai.out w6 (aA.out _ bQ.out)).2.2.2.1.2.2.1;go_wp2_with fail
          refine ff.out.mono ?_;rintro e w7 ⟨v7,rfl,d9,ea⟩;obtain ⟨A7,c7,rfl,_⟩:=HasR.shape d9 (n:=ql) c8.out.1;have gf:=z_ d9;have bd:=z_ (bQ.out.trans (ea.mono bQ.out.size));have gz:wr.heap.size≤w6.heap.size:=bQ.out.size;have gA:w6.heap.size≤w7.heap.size:=ea.size;clear d9 ea ba ff fd;go_wp2_with fail
          obtain ⟨W9,cz⟩:=e_ (w7.alloc (.cells #[.int .i64 (k:Int),.string { data:=#[] },.int .i64 0,.slice A7 ql c7] 38));have eb:=fr1_ cz;have gB:=fr3_ cz;have fg:=fr2_ cz;have dg:=z_ (bd.out.trans (eb.mono bd.out.size));have fh:Hid (HasTs (N+1) w6.heap.size W9 (.slice A7 ql c7) aM):=z_ (gf.out.below n_ eb);rw [← cz];clear cz
          have aa:Hid (∀ w3,Below W9.heap.size W9 w3→S26 w7.heap.size (w.heap.size+2) (w.heap.size+1) (.int .i64 (k:Int)) (.string { data:=#[] }) (.int .i64 0) (.slice A7 ql c7) a W9 w3):=z_ (fun w3 h3=>by
           have h4:=(h3.block _ o_).trans fg;have h5:=ai.out w3 (aA.out _ (dg.out.trans (h3.mono dg.out.size)))
           exact ⟨⟨box4 h4,h5.2.2.2.1.2.2.1⟩,h5.2.2.2.2.2,Chg.of_below h3⟩)
          have be:Hid (∀ w3,Below W9.heap.size W9 w3→Below w.heap.size w w3∧(w3.cell? ⟨w.heap.size+1,0,none⟩=some (.int .i64 0)∧w3.cell? ⟨w.heap.size+1,1,none⟩=some (.string { data:=#[] })∧w3.cell? ⟨w.heap.size+1,2,none⟩=some (.int .i64 0)∧w3.cell? ⟨w.heap.size+1,3,none⟩=some (.slice none 0 0))):=z_ (fun w3 h3=>by
           have h5:=ai.out w3 (aA.out _ (dg.out.trans (h3.mono dg.out.size)))
           exact ⟨h5.1,h5.2.2.2.2.1⟩)
          obtain ⟨t9,dh⟩:∃ t9:TermM,t9=.mk k [] 0 aM:=⟨_,rfl⟩;have a6:Hid (t9.args=aM∧t9.op=(k:Int)∧t9.name=[]∧t9.sort=0):=z_ (by rw [dh];exact ⟨rfl,rfl,rfl,rfl⟩);have fi:qa2 t9.args≤1048576:=by
           rw [a6.out.1];exact c8.out.2
          have fj:Hid (∀ w3,Below W9.heap.size W9 w3→Calls Tryz.prog 83 #[.agg #[.int .i64 (k:Int),.string { data:=#[] },.int .i64 0,.slice A7 ql c7]] w3 fun e w'=>∃ sm,e=.returned (.bool sm)∧(sm=true↔size t9≤60∧depth t9≤20)∧Below w3.heap.size w3 w'):=z_ (fun w3 h3=>by
           have h1:=qnl t9 (.slice A7 ql c7) w3 (by rw [a6.out.1];exact fh.out.below n_ h3) fi;unfold aggT at h1;rw [a6.out.2.1,a6.out.2.2.1,a6.out.2.2.2] at h1
           exact h1)
          have ec:Hid (∀ sm:Bool,(sm=true↔(a=true→ql≤7)∧size t9≤60∧depth t9≤20)→r=sm):=z_ (fun sm ax=>by
           have h1:qh3 u a b k L=t9:=by rw [bO.out,if_neg bP.out.1,if_neg bP.out.2,dh]
           rw [Bool.eq_iff_iff,aW.out,ax,h1];constructor
           ·rintro (h|h|h)
            ·exact absurd h bP.out.1
            ·exact absurd h bP.out.2
            ·exact h
           ·intro h;exact .inr (.inr h))
          have bB:Hid (∀ (sm:Bool) (w3:World) (v0 v1 v2 v3:Value),r=sm→Below W9.heap.size W9 w3→∃ t' v',(Ending.returned (.tuple #[.agg #[.int .i64 (k:Int),.string { data:=#[] },.int .i64 0,.slice A7 ql c7],.bool sm]))=.returned (.tuple #[aggT t' v',.bool r])∧(r=true→t'=fo)∧HasTs (N+1) w.heap.size (set4 w3 (w.heap.size+1) v0 v1 v2 v3) v' t'.args∧Below w.heap.size w (set4 w3 (w.heap.size+1) v0 v1 v2 v3)):=z_ (fun sm w3 v0 v1 v2 v3 gg h3=>by
           refine ⟨t9,.slice A7 ql c7,?_,fun h=>?_,?_,qa9 (be.out w3 h3).1 o_ _ _ _ _⟩
           ·unfold aggT
            rw [a6.out.2.1,a6.out.2.2.1,a6.out.2.2.2,gg];rfl
           ·rw [← aX.out h,bO.out,if_neg bP.out.1,if_neg bP.out.2,dh]
           ·rw [a6.out.1]
            exact HasR.mono (qa7 _) (HasR.kept (qa7 _) (fh.out.below n_ h3) (qd2 (x:=w.heap.size+1) o_ v0 v1 v2 v3)) o_)
          have ab:w7.heap.size≠w.heap.size+1:=o_;clear dh fi fg eb bO aW aX aY;cases a with
          | false=>
           refine wp_region_noPanic ?_;refine wp_region_held_drew (S:=(S26 w7.heap.size (w.heap.size+2) (w.heap.size+1) (.int .i64 (k:Int)) (.string { data:=#[] }) (.int .i64 0) (.slice A7 ql c7) false W9)) k_ ?_ (fun aB=>?_)
           ·exact aa.out _ b_.drew
           refine t_k 0 ?_;refine t_k 1 ?_;refine t_k 2 ?_;refine t_k 3 ?_;refine t_k 4 ?_;refine r_d [5] ?_;refine c_s (fun K hK=>?_) ?_
           ·(rw [if_neg (fun hw=>absurd (hw.symm.trans k_:true=false) (by decide))])
            refine k_o hK ?_ (fun aC=>?_)
            ·exact c87_
            clear hK K aB;refine r_d [6] ?_;refine c_s (fun K hK=>?_) ?_
            ·(rw [if_neg (fun hw=>absurd (hw.symm.trans k_:true=false) (by decide))])
             refine k_o hK ?_ (fun aD=>?_)
             ·exact c87_
             clear hK K aC;refine r_d [7] ?_;refine c_s (fun K hK=>?_) ?_
             ·(rw [if_neg (fun hw=>absurd (hw.symm.trans k_:true=false) (by decide))])
              refine k_o hK ?_ (fun aE=>?_)
              ·exact c87_
              clear hK K aD;refine t_k 8 ?_;refine t_k 9 ?_;refine r_d [10] ?_;refine c_s (fun K hK=>?_) ?_
              ·go_simp
               refine k_o hK ?_ (fun aF=>?_)
               ·exact c87_
               clear hK K aE;refine r_d [11] ?_;refine c_s (fun K hK=>?_) ?_
               ·(go_simp;refine (fj.out _ b_.drew).mono ?_;rintro e ed ⟨sm,rfl,ax,aG⟩;have ac:Hid (Below W9.heap.size W9 ed):=z_ (b_.drew.trans aG);have bD:=z_ ax;clear ax aG;(try dsimp only))
                refine k_o hK ?_ (fun aH=>?_)
                ·exact c87_
                clear hK K aF;refine t_k 12 ?_;refine r_d [13] ?_;refine c_s (fun K hK=>?_) ?_
                ·(obtain ⟨⟨⟨c0,fk,fl,fm⟩,fn⟩,⟨q0,q1,q2,q3⟩,_⟩:=aa.out _ ac.out;obtain ⟨_,y0,y1,y2,y3⟩:=be.out _ ac.out;go_simp)
                 refine k_o hK ?_ (fun aI=>?_)
                 ·exact c87_
                 clear hK K aH;refine r_d [14] ?_;refine c_s (fun K hK=>?_) ?_
                 ·go_simp
                  refine k_o hK ?_ (fun bE=>?_)
                  ·exact c87_
                  clear hK K aI;refine wpAnyH_done k_ ?_ _;refine NoPanic.normal ?_;obtain ⟨z0,z1,z2,z3⟩:=(be.out _ ac.out).2;have cA:Hid (r=sm):=z_ (ec.out _ (by rw [bD.out];exact ⟨fun h=>⟨fun e=>(by cases e),h⟩,fun h=>h.2⟩));go_wp2;refine bodyPost_ret (v:=.tuple #[.agg #[.int .i64 (k:Int),.string { data:=#[] },.int .i64 0,.slice A7 ql c7],.bool sm]) (by simp [results,Tryz.results86,go_sem,z0,z1,z2,z3]) rfl ?_;exact bB.out sm _ _ _ _ _ cA.out ac.out
                 exact a_l
                exact a_l
               exact a_l
              exact a_l
             exact a_l
            exact a_l
           exact a_l
          | true=>
           by_cases cB:ql≤7
           ·have gh:decide ((ql:Int)≤7)=true:=d_
            have gi:decide (ql≤7)=true:=decide_eq_true cB;refine wp_region_noPanic ?_;refine wp_region_held_drew (S:=(S26 w7.heap.size (w.heap.size+2) (w.heap.size+1) (.int .i64 (k:Int)) (.string { data:=#[] }) (.int .i64 0) (.slice A7 ql c7) true W9)) k_ ?_ (fun aB=>?_)
            ·exact aa.out _ b_.drew
            refine t_k 0 ?_;refine t_k 1 ?_;refine t_k 2 ?_;refine t_k 3 ?_;refine t_k 4 ?_;refine r_d [5] ?_;refine c_s (fun K hK=>?_) ?_
            ·go_simp
             refine k_o hK ?_ (fun aC=>?_)
             ·exact c87_
             clear hK K aB;refine r_d [6] ?_;refine c_s (fun K hK=>?_) ?_
             ·go_simp
              refine k_o hK ?_ (fun aD=>?_)
              ·exact c87_
              clear hK K aC;refine r_d [7] ?_;refine c_s (fun K hK=>?_) ?_
              ·go_simp
               refine k_o hK ?_ (fun aE=>?_)
               ·exact c87_
               clear hK K aD;refine t_k 8 ?_;refine t_k 9 ?_;refine r_d [10] ?_;refine c_s (fun K hK=>?_) ?_
               ·go_simp
                refine k_o hK ?_ (fun aF=>?_)
                ·exact c87_
                clear hK K aE;refine r_d [11] ?_;refine c_s (fun K hK=>?_) ?_
                ·(go_simp;refine (fj.out _ b_.drew).mono ?_;rintro e ed ⟨sm,rfl,ax,aG⟩;have ac:Hid (Below W9.heap.size W9 ed):=z_ (b_.drew.trans aG);have bD:=z_ ax;clear ax aG;(try dsimp only))
                 refine k_o hK ?_ (fun aH=>?_)
                 ·exact c87_
                 clear hK K aF;refine t_k 12 ?_;refine r_d [13] ?_;refine c_s (fun K hK=>?_) ?_
                 ·(obtain ⟨⟨⟨c0,fk,fl,fm⟩,fn⟩,⟨q0,q1,q2,q3⟩,_⟩:=aa.out _ ac.out;obtain ⟨_,y0,y1,y2,y3⟩:=be.out _ ac.out;go_simp)
                  refine k_o hK ?_ (fun aI=>?_)
                  ·exact c87_
                  clear hK K aH;refine r_d [14] ?_;refine c_s (fun K hK=>?_) ?_
                  ·go_simp
                   refine k_o hK ?_ (fun bE=>?_)
                   ·exact c87_
                   clear hK K aI;refine wpAnyH_done k_ ?_ _;refine NoPanic.normal ?_;obtain ⟨z0,z1,z2,z3⟩:=(be.out _ ac.out).2;have cA:Hid (r=sm):=z_ (ec.out _ (by rw [bD.out];exact ⟨fun h=>⟨fun _=>cB,h⟩,fun h=>h.2⟩));go_wp2;refine bodyPost_ret (v:=.tuple #[.agg #[.int .i64 (k:Int),.string { data:=#[] },.int .i64 0,.slice A7 ql c7],.bool sm]) (by simp [results,Tryz.results86,go_sem,z0,z1,z2,z3]) rfl ?_;exact bB.out sm _ _ _ _ _ cA.out ac.out
                  exact a_l
                 exact a_l
                exact a_l
               exact a_l
              exact a_l
             exact a_l
            exact a_l
           ·have gh:decide ((ql:Int)≤7)=false:=f_
            have gi:decide (ql≤7)=false:=decide_eq_false cB;have gj:=z_ cB;clear cB;refine wp_region_noPanic ?_;refine wp_region_held_drew (S:=(S26 w7.heap.size (w.heap.size+2) (w.heap.size+1) (.int .i64 (k:Int)) (.string { data:=#[] }) (.int .i64 0) (.slice A7 ql c7) true W9)) k_ ?_ (fun aB=>?_)
            ·exact aa.out _ b_.drew
            refine t_k 0 ?_;refine t_k 1 ?_;refine t_k 2 ?_;refine t_k 3 ?_;refine t_k 4 ?_;refine r_d [5] ?_;refine c_s (fun K hK=>?_) ?_
            ·go_simp
             refine k_o hK ?_ (fun aC=>?_)
             ·exact c88_
             clear hK K aB;refine r_d [6] ?_;refine c_s (fun K hK=>?_) ?_
             ·go_simp
              refine k_o hK ?_ (fun aD=>?_)
              ·exact c88_
              clear hK K aC;refine r_d [7] ?_;refine c_s (fun K hK=>?_) ?_
              ·go_simp
               refine k_o hK ?_ (fun aE=>?_)
               ·exact c88_
               clear hK K aD;refine r_d [8] ?_;refine c_s (fun K hK=>?_) ?_
               ·go_simp
                refine k_o hK ?_ (fun aF=>?_)
                ·exact c88_
                clear hK K aE;refine r_d [9] ?_;refine c_s (fun K hK=>?_) ?_
                ·go_simp
                 refine k_o hK ?_ (fun aH=>?_)
                 ·exact c88_
                 clear hK K aF;refine r_d [10] ?_;refine c_s (fun K hK=>?_) ?_
                 ·(rw [if_neg (fun hw=>absurd (hw.symm.trans k_:true=false) (by decide))])
                  refine k_o hK ?_ (fun aI=>?_)
                  ·exact c88_
                  clear hK K aH;refine r_d [11] ?_;refine c_s (fun K hK=>?_) ?_
                  ·(rw [if_neg (fun hw=>absurd (hw.symm.trans k_:true=false) (by decide))])
                   refine k_o hK ?_ (fun bE=>?_)
                   ·exact c88_
                   clear hK K aI;refine t_k 12 ?_;refine r_d [13] ?_;refine c_s (fun K hK=>?_) ?_
                   ·(obtain ⟨⟨⟨c0,fk,fl,fm⟩,fn⟩,⟨q0,q1,q2,q3⟩,_⟩:=aa.out _ b_;obtain ⟨_,y0,y1,y2,y3⟩:=be.out _ b_;have gC:W9.drew.frozen? ⟨w.heap.size+1,0,none⟩=false:=q0;have gD:W9.drew.frozen? ⟨w.heap.size+1,1,none⟩=false:=q1;have gE:W9.drew.frozen? ⟨w.heap.size+1,2,none⟩=false:=q2;have gF:W9.drew.frozen? ⟨w.heap.size+1,3,none⟩=false:=q3;have gG:W9.drew.cell? ⟨w.heap.size+1,0,none⟩=_:=y0;have gH:W9.drew.cell? ⟨w.heap.size+1,1,none⟩=_:=y1;have gI:W9.drew.cell? ⟨w.heap.size+1,2,none⟩=_:=y2;have gJ:W9.drew.cell? ⟨w.heap.size+1,3,none⟩=_:=y3;go_simp)
                    refine k_o hK ?_ (fun ee=>?_)
                    ·exact c88_
                    clear hK K bE;refine r_d [14] ?_;refine c_s (fun K hK=>?_) ?_
                    ·go_simp
                     refine k_o hK ?_ (fun gm=>?_)
                     ·exact c88_
                     clear hK K ee;refine wpAnyH_done k_ ?_ _;refine NoPanic.normal ?_;obtain ⟨x0,x1,x2,x3⟩:=(be.out _ b_).2;obtain ⟨z0,z1,z2,z3⟩:=(be.out _ b_.drew).2;have cA:Hid (r=false):=z_ (ec.out _ (⟨(fun h=>by cases h),(fun h=>absurd (h.1 rfl) gj.out)⟩));go_wp2;refine bodyPost_ret (v:=.tuple #[.agg #[.int .i64 (k:Int),.string { data:=#[] },.int .i64 0,.slice A7 ql c7],.bool false]) (by simp [results,Tryz.results86,go_sem,x0,x1,x2,x3]) rfl ?_;exact bB.out false _ _ _ _ _ cA.out b_.drew
                    exact a_l
                   exact a_l
                  exact a_l
                 exact a_l
                exact a_l
               exact a_l
              exact a_l
             exact a_l
            exact a_l
end Go.Proofs.YtiilamngcoegiaaGreat.tml
