
import Derived.Test.YtiilamngcoegiaaGreatPk10
namespace Go.Proofs.YtiilamngcoegiaaGreat.formr
set_option maxRecDepth 100000
open Go.ChangeShapes Go.WideShapes Go.ChangeAt Go.RowKit
open mem setm sortm sortp sorti sortu sigm sigs rowl trm terml termb termt termx termro termv termvo sigk gram gramn grami formk
def atS (a:Bool)(i:Nat):Nat:=if a then 0 else i
def qg6 (u:Int):TermM:=.mk (if u=0 then 0 else u-1) [] 0 []
def qp5 (κ:Int→Nat)(O:List OpM)(k:Nat)(L:List TermM)(i:Nat):Prop:=
 κ (srtT O (L.getD i default))=κ ((hd0 (O.getD k default).decls).1.getD (atS (O.getD k default).ass i) 0)∧¬ ((O.getD k default).ass=true∧(L.getD i default).op=(k:Int))∧
 ¬ ((O.getD k default).unt≠0∧cmp (L.getD i default) (qg6 (O.getD k default).unt)=0)∧((O.getD k default).com=true→0<i→cmp (L.getD (i-1) default) (L.getD i default)≤0)
def qg7 (κ:Int→Nat)(O:List OpM)(k:Nat)(L:List TermM):Prop:=∀ i,i<L.length→qp5 κ O k L i
theorem i3_ {p:Prop}(h:p:=by
 have ad:=z_ (ah.out.trans (t6.h.mono aI));clear b0 b1 b2 b3 b4 b5 b6 b7 b8 b9 ap aq au an ak al av aw ax nb ac aa af;go_wp2;go_roundw
 case measure=>simp [intOf];omega
 case rel=>exact ⟨p+1,by go_num,by omega,HA,ad⟩
):p:=h
theorem i4_ {p:Prop}(h:p:=by
 clear b0 b1 b2 b3 b4 b5 b6 b7 b8 b9 ap aq au an ak al av aw ax nb ac aa af;go_wp2;go_ret;exact ⟨qa0 HF.out.symm,ad.out⟩
):p:=h
theorem j17_ {p:Prop}(h:p:=by
 cases b with
 | false=>
  go_wp2_with fail
  rw [← hV];clear hV x0 x1 x2 y0 y3 a1 a2 a3 u0 u1 u2 u3 f0 f1 f2 f3 ai;refine qa1 (C:=Below V.heap.size V) k_ k_ b_.drew ?_;repeat (first|go_big_quiet_step ((go_at_call 143;exact (ac.out _).mono (fun _ _ h=>⟨h.1,BoxC.step _ h.2⟩)))|go_big_quiet_step ((go_at_call 58;exact (aa.out _).mono (fun _ _ h=>⟨h.1,BoxC.step _ h.2⟩))))
  refine wpQuiet_nil ?_;rintro w5 ⟨t5,rfl⟩;go_wp2_with fail
  refine qa1 (C:=Below V.heap.size V) k_ k_ (BoxC.h t5).drew ?_;repeat (first|go_big_quiet_step ((go_at_call 58;exact (aa.out _).mono (fun _ _ h=>⟨h.1,BoxC.step _ h.2⟩))))
  refine wpQuiet_nil ?_;rintro w6 ⟨t6,rfl⟩;have HA:=z_ (ag.out (by exact ⟨ae,aH,aE,fun e=>by cases e⟩));exact i3_
 | true=>
  by_cases aj:0<p
  ·obtain ⟨p',hp'⟩:∃ p',p'+1=p:=⟨p-1,by omega⟩
   have aN:p-1=p':=o_;have a8:=z_ hp';have ck:IntKind.i64.wrap ((p:Int)-1)=(p':Int):=by rw [← hp',IntWalk.i64_in _ o_];omega
   obtain ⟨B3,c9,l0,l1,l2,l3,ao⟩:=aF.out aj;have ay:=bM.out aj;rw [aN] at l0 l1 l2 l3 ao ay ag am;obtain ⟨y,hy⟩:=e_ (L.getD p' default);rw [← hy] at l0 l1 l2 l3 ao ay ag am;have m0:=kV l0;have m1:=kV l1;have m2:=kV l2;have aO:=kV l3;obtain ⟨z,hz⟩:=e_ (cmp y x);have ab:=z_ (af.out y B3 c9 ao ay);rw [← hz] at ab ag am;have j1:decide ((0:Int)<(p:Int))=true:=d_;have j2:decide (0<p)=true:=decide_eq_true aj;have j3:(0:Int)≤(p':Int):=o_;have j4:(p':Int)<(q:Int):=o_;clear l0 l1 l2 l3 ao hy hz hp' aN ay kV;by_cases aP:0<z
   ·have j5:decide (0<z)=true:=decide_eq_true aP
    go_wp2_with fail
    rw [← hV];clear hV x0 x1 x2 y0 y3 a1 a2 a3 u0 u1 u2 u3 f0 f1 f2 f3 ai;refine qa1 (C:=Below V.heap.size V) k_ k_ b_.drew ?_;repeat (first|go_big_quiet_step ((go_at_call 143;exact (ac.out _).mono (fun _ _ h=>⟨h.1,BoxC.step _ h.2⟩)))|go_big_quiet_step ((go_at_call 58;exact (aa.out _).mono (fun _ _ h=>⟨h.1,BoxC.step _ h.2⟩))))
    refine wpQuiet_nil ?_;rintro w5 ⟨t5,rfl⟩;go_wp2_with fail
    refine qa1 (C:=Below V.heap.size V) k_ k_ (BoxC.h t5).drew ?_;repeat (first|go_big_quiet_step ((go_at_call 82;exact (ab.out _).mono (fun _ _ h=>⟨h.1,BoxC.step _ h.2⟩))))
    refine wpQuiet_nil ?_;rintro w6 ⟨t6,rfl⟩;clear m0 m1 m2 aO ab
    have HF:Hid (r=false):=z_ (by cases aB:r with
     | false=>rfl
     | true=>exact absurd (am.out aB) (by intro hh;have:=hh.2.2.2 (by trivial) (by have:=a8.out;omega);omega))
    have ad:=z_ (aQ.out.trans (t6.h.mono aU));exact i4_
   ·have j5:decide (0<z)=false:=decide_eq_false aP
    go_wp2_with fail
    rw [← hV];clear hV x0 x1 x2 y0 y3 a1 a2 a3 u0 u1 u2 u3 f0 f1 f2 f3 ai;refine qa1 (C:=Below V.heap.size V) k_ k_ b_.drew ?_;repeat (first|go_big_quiet_step ((go_at_call 143;exact (ac.out _).mono (fun _ _ h=>⟨h.1,BoxC.step _ h.2⟩)))|go_big_quiet_step ((go_at_call 58;exact (aa.out _).mono (fun _ _ h=>⟨h.1,BoxC.step _ h.2⟩))))
    refine wpQuiet_nil ?_;rintro w5 ⟨t5,rfl⟩;go_wp2_with fail
    refine qa1 (C:=Below V.heap.size V) k_ k_ (BoxC.h t5).drew ?_;repeat (first|go_big_quiet_step ((go_at_call 82;exact (ab.out _).mono (fun _ _ h=>⟨h.1,BoxC.step _ h.2⟩))))
    refine wpQuiet_nil ?_;rintro w6 ⟨t6,rfl⟩;clear m0 m1 m2 aO ab;have HA:=z_ (ag.out (by exact ⟨ae,aH,aE,fun _ _=>by omega⟩));exact i3_
  ·have j1:decide ((0:Int)<(p:Int))=false:=f_
   have j2:decide (0<p)=false:=decide_eq_false aj;go_wp2_with fail
   rw [← hV];clear hV x0 x1 x2 y0 y3 a1 a2 a3 u0 u1 u2 u3 f0 f1 f2 f3 ai;refine qa1 (C:=Below V.heap.size V) k_ k_ b_.drew ?_;repeat (first|go_big_quiet_step ((go_at_call 143;exact (ac.out _).mono (fun _ _ h=>⟨h.1,BoxC.step _ h.2⟩)))|go_big_quiet_step ((go_at_call 58;exact (aa.out _).mono (fun _ _ h=>⟨h.1,BoxC.step _ h.2⟩))))
   refine wpQuiet_nil ?_;rintro w5 ⟨t5,rfl⟩;go_wp2_with fail
   refine qa1 (C:=Below V.heap.size V) k_ k_ (BoxC.h t5).drew ?_;repeat (first|go_big_quiet_step ((go_at_call 58;exact (aa.out _).mono (fun _ _ h=>⟨h.1,BoxC.step _ h.2⟩))))
   refine wpQuiet_nil ?_;rintro w6 ⟨t6,rfl⟩;have HA:=z_ (ag.out (by exact ⟨ae,aH,aE,fun _ h=>absurd h aj⟩));exact i3_
):p:=h
theorem j18_ {p:Prop}(h:p:=by
 have ad:=z_ (aQ.out.trans (t5.h.mono aU));exact i4_
):p:=h
theorem c59_ {p:Prop}(h:p:=by
 cases ha with
 | false=>
  have aE:¬ (false=true∧sm=true):=fun e=>by cases e.1
  exact j17_
 | true=>
  cases sm with
  | true=>
   go_wp2_with fail
   rw [← hV];clear hV x0 x1 x2 y0 y3 a1 a2 a3 u0 u1 u2 u3 f0 f1 f2 f3 ai;refine qa1 (C:=Below V.heap.size V) k_ k_ b_.drew ?_;repeat (first|go_big_quiet_step ((go_at_call 143;exact (ac.out _).mono (fun _ _ h=>⟨h.1,BoxC.step _ h.2⟩)))|go_big_quiet_step ((go_at_call 58;exact (aa.out _).mono (fun _ _ h=>⟨h.1,BoxC.step _ h.2⟩))))
   refine wpQuiet_nil ?_;rintro w5 ⟨t5,rfl⟩
   have HF:Hid (r=false):=z_ (by cases aB:r with
    | false=>rfl
    | true=>exact absurd (am.out aB) (by intro hh;exact hh.2.2.1 ⟨by trivial,by trivial⟩))
   exact j18_
  | false=>
   have aE:¬ (true=true∧false=true):=fun e=>by cases e.2
   exact j17_
):p:=h
theorem c60_ {p:Prop}(h:p:=by
 have q1:((kx:Int)==(ka:Int))=false:=by simp;omega
 have q2:(kx==ka)=false:=by simp [ae]
 have q3:decide (kx=ka)=false:=decide_eq_false ae;have q4:¬ (kx:Int)=(ka:Int):=o_;have q5:(kx != ka)=true:=by simp [ae]
 have q6:((kx:Int) != (ka:Int))=true:=by simp;omega
 have q7:(!decide ((kx:Int)=(ka:Int)))=true:=by simp;omega
 have q8:decide ((kx:Int)=(ka:Int))=false:=decide_eq_false q4;go_wp2_with fail
 rw [← hV];clear hV x0 x1 x2 y0 y3 a1 a2 a3 u0 u1 u2 u3 f0 f1 f2 f3 ai;refine qa1 (C:=Below V.heap.size V) k_ k_ b_.drew ?_;repeat (first|go_big_quiet_step ((go_at_call 143;exact (ac.out _).mono (fun _ _ h=>⟨h.1,BoxC.step _ h.2⟩)))|go_big_quiet_step ((go_at_call 58;exact (aa.out _).mono (fun _ _ h=>⟨h.1,BoxC.step _ h.2⟩))))
 refine wpQuiet_nil ?_;rintro w5 ⟨t5,rfl⟩
 have HF:Hid (r=false):=z_ (by cases aB:r with
  | false=>rfl
  | true=>exact absurd (am.out aB) (by intro hh;exact ae hh.1))
 exact j18_
):p:=h
set_option maxRecDepth 100000 in
set_option maxHeartbeats 16000000 in
theorem qst {N lo:Nat}(P:List (List UInt8))(Q:List (Int×Int))(O:List OpM)(bx:qad P Q O=true)(va vb vc:Value)(t:TermM)(ve:Value)(w:World)(h:HasG w va vb vc P Q O)(ht:HasTs N lo w ve t.args)(hsz:sizes t.args≤1048576)
  (k:Nat) (cl:t.op=(k:Int)) (hk:k<O.length) (aR:(O.getD k default).ass=false→t.args.length=ar (O.getD k default)) (hX:∀ x∈t.args,qd8 P O x) (r:Bool) (hr:r=true↔qg7 (κK P.length Q) O k t.args):
  Calls Tryz.prog 139 #[.agg #[va,vb,vc],aggT t ve] w fun e w'=>e=.returned (.bool r)∧Below w.heap.size w w':=by
 obtain ⟨p1,p2,p3,p4,p5⟩:=qiq bx;obtain ⟨_,cm,_,hd,cn⟩:=qa9 bx;have bN:(kin P.length (prs Q)).length=P.length:=qia _ _;obtain ⟨B,cb,rfl,_⟩:=HasR.shape ht rfl;have aJ:O.getD k default∈O:=by rw [List.getD_eq_getElem?_getD,List.getElem?_eq_getElem hk];exact List.getElem_mem _
 have bb:=qak (hd _ aJ);have aK:=qaf bb.2.2.2;have aS:=cn _ aJ;simp only [axOk,qd2,qds,Bool.and_eq_true,Bool.or_eq_true,decide_eq_true_eq,Bool.not_eq_true'] at aS;have aX:0≤(O.getD k default).unt∧(O.getD k default).unt≤14:=by
  rcases aS.2 with h4|h4
  ·omega
  ·have:=h4.1.1;omega
 have aT:(O.getD k default).ass=true→ar (O.getD k default)=2:=fun ha=>by
  rcases aS.1 with h4|h4
  ·rw [ha] at h4;exact absurd h4.1.1 (by simp)
  ·exact h4.1.1
 have bd:=z_ (fun W (hW:Below w.heap.size w W)=>qcq P Q p1 p2 p4 p3 p5 va vb W (h.below n_ hW).s);have aY:=z_ (fun W (hW:Below w.heap.size w W)=>qne P Q O va vb vc k hk cm aX W (h.below n_ hW))
 have be:Hid (∀ W (x:TermM) (vx:Value) (n' lo':Nat),Below w.heap.size w W→HasTs n' lo' W vx x.args→qd8 P O x→Calls Tryz.prog 143 #[.agg #[va,vb,vc],aggT x vx] W fun e w'=>e=.returned (.int .i64 ((κK P.length Q (srtT O x):Nat):Int))∧Below W.heap.size W w'):=z_ (fun W x vx n' lo' hW hx bf=>
  qnd P Q O bx va vb vc x vx W (h.below n_ hW) hx bf)
 obtain ⟨A1,c1,A2,c2,A3,c3,rfl,rfl,rfl,_,_,_,h'⟩:=h.shape;have hO:HasO 0 w (.slice A3 O.length c3) O:=h'.o;obtain ⟨g0,o0,A4,c4,hA,_,bg,bz,bh,bA,bB,bC,hh,_,_⟩:=qcg hO hk;obtain ⟨gd,od,A5,c5,cY,_,cZ,aW,_,aG,_,_⟩:=qba hh (j:=0) o_;rw [show od+0*2=od by omega] at aW;obtain ⟨κ,bO⟩:=e_ (κK P.length Q);have hκ:∀ x,κ x=(kin P.length (prs Q)).getD x.toNat 0:=fun x=>by rw [bO,κK]
 rw [← bO] at hr be;obtain ⟨⟨nm,Dk,a,b,u⟩,hx⟩:∃ x,x=O.getD k default:=⟨_,rfl⟩
 have HR:Hid (r=true↔∀ i,i<t.args.length→κ (srtT O (t.args.getD i default))=κ ((hd0 Dk).1.getD (atS a i) 0)∧¬ (a=true∧(t.args.getD i default).op=(k:Int))∧¬ (u≠0∧cmp (t.args.getD i default) (qg6 u)=0)∧(b=true→0<i→cmp (t.args.getD (i-1) default) (t.args.getD i default)≤0)):=z_ (by
  rw [hr];unfold qg7 qp5;rw [← hx])
 rw [← hx] at bz bh bA bB bC hh aW aG aR bb aK aX aT aY;simp only [] at bz bh bA bB bC hh aW aG aR bb aK aX aT aY;have bi:Dk.getD 0 default=hd0 Dk:=rfl;rw [bi] at aW aG;obtain ⟨L0,bP⟩:=e_ ((hd0 Dk).1);rw [← bP] at aW aG aK HR;obtain ⟨ln,bQ⟩:=e_ (L0.length)
 have bR:∀ i,i<t.args.length→atS a i<ln:=fun i hi=>by
  have co:ar ⟨nm,Dk,a,b,u⟩=ln:=by rw [bQ,bP];rfl
  cases a with
  | false=>rw [← co,← aR rfl];exact hi
  | true=>rw [← co,aT rfl];exact Nat.zero_lt_two
 have bj:Hid (∀ j,j<ln→∃ gl ol z,A5=some ⟨gl,ol,none⟩∧gl<w.heap.size∧w.cell? ⟨gl,ol+j,none⟩=some (.int .i64 ((z:Nat):Int))∧L0.getD j 0=(z:Int)∧z<P.length):=z_ (fun j hj=>by
  obtain ⟨gl,ol,e,bS,cp⟩:=aG.has.cellAt (j:=j) o_;rw [qag _ j o_] at cp;have c0:=aK.2.2 j o_;simp only [inN,decide_eq_true_eq] at c0;obtain ⟨z,hz⟩:∃ z:Nat,L0.getD j 0=(z:Int):=⟨(L0.getD j 0).toNat,by omega⟩
  exact ⟨gl,ol,z,e,bS,by rw [cp,hz],hz,by omega⟩)
 obtain ⟨q,hq⟩:=e_ (t.args.length);obtain ⟨L,hL⟩:=e_ (t.args);obtain ⟨tn,cq⟩:=e_ (t.name);obtain ⟨ts,ct⟩:=e_ (t.sort);obtain ⟨n,hn⟩:=e_ (P.length);obtain ⟨m2,bT⟩:=e_ (Q.length);obtain ⟨m3,bU⟩:=e_ (O.length);obtain ⟨dl,cu⟩:=e_ (Dk.length);unfold aggT;rw [cl];have bV:Hid (q=L.length):=z_ (by rw [hq,hL]);rw [← hq] at bR HR;rw [← hq,← cq,← ct,← hn,← bT,← bU];rw [← hL] at HR hX hsz;rw [← hn] at bN hκ bj be bd aY;rw [← bT] at bd be aY;rw [← bU] at hk be aY;rw [← cu] at bh bb;rw [← bQ] at aW;obtain ⟨K,hK⟩:=e_ (kin n (prs Q));rw [← hK] at bd bN hκ;have c6:Hid (∀ z:Nat,κ (z:Int)=K.getD z 0):=z_ (fun z=>by rw [hκ,Int.toNat_natCast]);have HH:Hid (HasTs N lo w (.slice B q cb) L):=z_ (by rw [hq,hL];exact ht);have cv:=z_ bR;have c7:=z_ hX;have c8:=z_ hsz;have da:q≤1048576:=by have:=qaq L;have:=bV.out;omega
 have db:1≤dl:=bb.1;subst hA;subst cY;clear h h' hO ht hq hL cq ct bT bU bx hd cn aJ bb aK aS aT aR hX hr bO hκ hx hh aG bi bP bQ bR hn hK cu hsz p1 p2 p3 p4 p5 cm cl;obtain ⟨W,hW⟩:=e_ ((w.alloc (.cells #[.slice A1 n c1,.slice A2 m2 c2,.slice (some ⟨g0,o0,none⟩) m3 c3] 46)).alloc (.cells #[.int .i64 (k:Int),.string (bstr tn),.int .i64 ts,.slice B q cb] 38));have aZ:Below w.heap.size w W:=by
  rw [hW];exact v_
 have cw:Box34 w.heap.size (w.heap.size+1) (.slice A1 n c1) (.slice A2 m2 c2) (.slice (some ⟨g0,o0,none⟩) m3 c3) (.int .i64 (k:Int)) (.string (bstr tn)) (.int .i64 ts) (.slice B q cb) W:=by
  rw [hW];exact ⟨box3 (qbh _ _ _),box4 (qa5 _ _ _ (by simp))⟩
 have cy:W.heap.size=w.heap.size+2:=by rw [hW];simp
 have HX:=z_ cw;obtain ⟨⟨x0,x1,x2⟩,y0,y1,y2,y3⟩:=cw;have cz:=z_ aZ;have HZ:=z_ cy;have bk:=(aZ.cell (p:=⟨g0,o0+k*5,none⟩) bg).trans bz;have bl:=(aZ.cell (p:=⟨g0,o0+k*5+1,none⟩) bg).trans bh;have bm:=(aZ.cell (p:=⟨g0,o0+k*5+2,none⟩) bg).trans bA;have bn:=(aZ.cell (p:=⟨g0,o0+k*5+3,none⟩) bg).trans bB;have bo:=(aZ.cell (p:=⟨g0,o0+k*5+4,none⟩) bg).trans bC;have dc:Hid (w.cell? ⟨gd,od,none⟩=some (.slice A5 ln c5)):=z_ aW;have i1:(0:Int)≤(k:Int):=o_;have i2:(k:Int)<(m3:Int):=o_;clear aZ bz bh bA bB bC aW;rw [hW] at bk bl bm bn bo x0 x1 x2 y0 y1 y2 y3;go_enter Tryz.func139,Tryz.ntmps139
 go_wp2_with fail
 rw [← hW];clear hW;obtain ⟨WA,bc⟩:=e_ (W.alloc (.cells #[.string (bstr nm),.slice (some ⟨gd,od,none⟩) dl c4,.bool a,.bool b,.int .i64 u] 124));rw [← bc];have cA:Below w.heap.size w WA:=by rw [bc];exact cz.out.alloc cz.out.size _
 have cB:WA.heap[w.heap.size+2]? =some (.cells #[.string (bstr nm),.slice (some ⟨gd,od,none⟩) dl c4,.bool a,.bool b,.int .i64 u] 124 (0,0)):=by rw [bc,← HZ.out];exact qa5 _ _ _ rfl
 have cC:Box34 w.heap.size (w.heap.size+1) (.slice A1 n c1) (.slice A2 m2 c2) (.slice (some ⟨g0,o0,none⟩) m3 c3) (.int .i64 (k:Int)) (.string (bstr tn)) (.int .i64 ts) (.slice B q cb) WA:=by
  rw [bc];exact Box34.below HX.out (b_.alloc n_ _)
 have cD:WA.heap.size=w.heap.size+3:=by rw [bc];simp [HZ.out]
 have bD:=z_ cA;have cE:=z_ cB;have cF:=z_ cC;have bW:=z_ cD;clear bc cA cB cC cD cy x0 x1 x2 y0 y1 y2 y3 bk bl bm bn bo;refine (bd.out WA bD.out).mono ?_;rintro e w2 ⟨kv,rfl,cG,hb2⟩;obtain ⟨KA,kc,rfl,cH⟩:=(Has.of_own cG).shape (n:=n) (by rw [qas,qac];exact bN)
 have cI:Hid (∀ z,z<n→∃ gk ok,KA=some ⟨gk,ok,none⟩∧gk<w2.heap.size∧w2.cell? ⟨gk,ok+z,none⟩=some (.int .i64 ((κ (z:Int):Nat):Int))):=z_ (fun z hz=>by
  obtain ⟨gk,ok,e,bp,bE⟩:=cH.cellAt (j:=z) hz;rw [qag _ z (by rw [qac];omega),qat] at bE
  exact ⟨gk,ok,e,bp,by rw [bE,c6.out]⟩)
 have bF:=z_ (bD.out.trans (hb2.mono bD.out.size));have bX:=z_ (Box34.below cF.out hb2);have cJ:Hid (w2.heap[w.heap.size+2]? =some (.cells #[.string (bstr nm),.slice (some ⟨gd,od,none⟩) dl c4,.bool a,.bool b,.int .i64 u] 124 (0,0))):=z_ ((hb2.block _ (by have:=bW.out;omega)).trans cE.out);have cK:w.heap.size+3≤w2.heap.size:=by have:=hb2.size;have:=bW.out;omega
 have bY:=z_ cK;clear cG hb2 cH cK;obtain ⟨⟨x0,x1,x2⟩,y0,y1,y2,y3⟩:=bX.out;go_wp2_with fail
 refine (aY.out w2 bF.out).mono ?_;rintro e w3 ⟨rfl,cL⟩;have a6:=z_ cL;clear cL x0 x1 x2 y0 y1 y2 y3;obtain ⟨ha,a7⟩:=e_ ((!decide (u=0)));obtain ⟨uo,bZ⟩:=e_ ((if u=0 then 0 else u-1));rw [← a7,← bZ];have dd:=z_ bZ;have bq:=z_ a7;clear a7 bZ;go_wp2_with fail
 obtain ⟨V0,br⟩:=e_ (w3.alloc (.cells #[.int .i64 uo,.string (bstr []),.int .i64 0,.slice none 0 0] 38));have de:w.heap.size+3≤w3.heap.size:=by have:=a6.out.size;have:=bY.out;omega
 have aL:=fr1_ br;have cM:Below w.heap.size w V0:=(bF.out.trans (a6.out.mono bF.out.size)).trans (aL.mono o_);have df:=fr3_ br;have cN:=Box34.below (Box34.below bX.out a6.out) aL;have cO:V0.heap[w.heap.size+2]? =some (.cells #[.string (bstr nm),.slice (some ⟨gd,od,none⟩) dl c4,.bool a,.bool b,.int .i64 u] 124 (0,0)):=(aL.block _ o_).trans ((a6.out.block _ (by have:=bY.out;omega)).trans cJ.out);have ca:=fr2_ br
 have dh:Hid (∀ z,z<n→∃ gk ok,KA=some ⟨gk,ok,none⟩∧gk<V0.heap.size∧V0.cell? ⟨gk,ok+z,none⟩=some (.int .i64 ((κ (z:Int):Nat):Int))):=z_ (fun z hz=>by
  obtain ⟨gk,ok,e,bp,bE⟩:=cI.out z hz;have h2:=a6.out.size
  exact ⟨gk,ok,e,by omega,(aL.cell (p:=⟨gk,ok+z,none⟩) (by show gk<_;omega)).trans ((a6.out.cell (p:=⟨gk,ok+z,none⟩) bp).trans bE)⟩)
 have bG:=z_ cM;have di:=z_ cN;have cc:=z_ cO;obtain ⟨bu,bs⟩:=e_ (w3.heap.size);rw [← bs] at df ca de;rw [← bs];have bH:=z_ ca;try rw [bs,← br,← bs]
 clear aL cM cN cO ca cI bX cJ cF cE HX aY bd br bs a6 bF bY bD bW;go_loopw [9,10,11] (fun v9 _ _ wr=>∃ p:Nat,v9=.int .i64 p∧p≤q∧Hid (∀ i,i<p→κ (srtT O (L.getD i default))=κ (L0.getD (atS a i) 0)∧¬ (a=true∧(L.getD i default).op=(k:Int))∧¬ (u≠0∧cmp (L.getD i default) (qg6 u)=0)∧(b=true→0<i→cmp (L.getD (i-1) default) (L.getD i default)≤0))∧Hid (Below V0.heap.size V0 wr)) (fun i _ _ _=>q-(intOf i).toNat)
 case atStart=>exact ⟨0,rfl,y_,z_ (fun i hi=>absurd hi (Nat.not_lt_zero _)),z_ b_⟩
 case round=>
  obtain ⟨p,rfl,hp,bt,HB⟩:=hrel;have az:=HB.out;have du:V0.heap.size≤wr.heap.size:=az.size;have kc:∀ {g y:Nat} {v:Value},g<V0.heap.size→V0.cell? ⟨g,y,none⟩=some v→wr.cell? ⟨g,y,none⟩=some v:=fun {g y v} hg h=>(az.cell (p:=⟨g,y,none⟩) hg).trans h
  obtain ⟨⟨cd,ce,cf⟩,cg,cP,cQ,ch⟩:=di.out;have y3:=kc o_ ch;by_cases hlt:p<q
  ·have d1:decide ((p:Int)<(q:Int))=true:=d_
   have d3:decide (p<q)=true:=decide_eq_true hlt;have x0:=kc o_ cd;have x1:=kc o_ ce;have x2:=kc o_ cf;have y0:=kc o_ cg;have a1:=kc o_ (h_ _ _ 1 _ _ _ cc.out);have a2:=kc o_ (h_ _ _ 2 _ _ _ cc.out);have a3:=kc o_ (h_ _ _ 3 _ _ _ cc.out);have u0:=kc o_ (h_ _ _ 0 _ _ _ bH.out);have u1:=kc o_ (h_ _ _ 1 _ _ _ bH.out);have u2:=kc o_ (h_ _ _ 2 _ _ _ bH.out);have u3:=kc o_ (h_ _ _ 3 _ _ _ bH.out);have aA:=bG.out.trans (az.mono bG.out.size);obtain ⟨kn,g,o,B2,cx,dw,rfl,_,hg,e0,e1,e2,e3,cR,_⟩:=qaj HH.out hlt;obtain ⟨gl,ol,za,rfl,bS,cS,ci,dj⟩:=bj.out (atS a p) (cv.out p hlt);obtain ⟨gk,ok,rfl,bp,cT⟩:=dh.out za dj;have f0:=(aA.cell (p:=⟨g,o+p*4,none⟩) hg).trans e0;have f1:=(aA.cell (p:=⟨g,o+p*4+1,none⟩) hg).trans e1;have f2:=(aA.cell (p:=⟨g,o+p*4+2,none⟩) hg).trans e2;have f3:=(aA.cell (p:=⟨g,o+p*4+3,none⟩) hg).trans e3;have cj:=cR.below n_ aA;have cU:=(aA.cell (p:=⟨gd,od,none⟩) cZ).trans dc.out;have ai:=(aA.cell (p:=⟨gl,ol+atS a p,none⟩) bS).trans cS;have cV:=kc bp cT;have bv:L.getD p default∈L:=by rw [List.getD_eq_getElem?_getD,List.getElem?_eq_getElem (by have:=bV.out;omega)];exact List.getElem_mem _
   have bf:=c7.out _ bv
   have aF:Hid (0<p→∃ (B3:Option Addr) (c9:Nat),wr.cell? ⟨g,o+(p-1)*4,none⟩=some (.int .i64 (L.getD (p-1) default).op)∧wr.cell? ⟨g,o+(p-1)*4+1,none⟩=some (.string (bstr (L.getD (p-1) default).name))∧wr.cell? ⟨g,o+(p-1)*4+2,none⟩=some (.int .i64 (L.getD (p-1) default).sort)∧
     wr.cell? ⟨g,o+(p-1)*4+3,none⟩=some (.slice B3 (L.getD (p-1) default).args.length c9)∧HasTs kn lo wr (.slice B3 (L.getD (p-1) default).args.length c9) (L.getD (p-1) default).args):=z_ (fun h0=>by
    obtain ⟨dk,g',o',B3,c9,dm,hA,_,dx,e0,e1,e2,e3,ao,_⟩:=qaj HH.out (j:=p-1) o_;simp only [Option.some.injEq,Addr.mk.injEq,and_true] at hA;obtain ⟨rfl,rfl⟩:=hA;obtain rfl:dk=kn:=o_
    exact ⟨B3,c9,(aA.cell (p:=⟨g,o+(p-1)*4,none⟩) hg).trans e0,(aA.cell (p:=⟨g,o+(p-1)*4+1,none⟩) hg).trans e1,(aA.cell (p:=⟨g,o+(p-1)*4+2,none⟩) hg).trans e2,(aA.cell (p:=⟨g,o+(p-1)*4+3,none⟩) hg).trans e3,ao.below n_ aA⟩)
   obtain ⟨x,hx⟩:=e_ (L.getD p default);have cW:=z_ hx;rw [← hx] at f0 f1 f2 f3 cj bf;clear e0 e1 e2 e3 cR cS cT hx bv cd ce cf cg cP cQ ch;obtain ⟨V,hV⟩:=e_ (wr.alloc (.cells #[.int .i64 x.op,.string (bstr x.name),.int .i64 x.sort,.slice B2 x.args.length cx] 38));have aC:=fr1_ hV;have bw:=fr2_ hV;have aD:wr.heap.size<V.heap.size:=by rw [hV];simp
   have kV:∀ {g y:Nat} {v:Value},wr.cell? ⟨g,y,none⟩=some v→∀ t:BoxC (Below V.heap.size V),t.W.cell? ⟨g,y,none⟩=some v:=fun {g y v} h t=>by
    have hg:=l_ h;simp only [] at hg;exact t.cell ((aC.cell (p:=⟨g,y,none⟩) hg).trans h) (by show g<_;omega)
   have b0:=kV x0;have b1:=kV x1;have b2:=kV x2;have b3:=kV y0;have b4:=kV y3;have b5:=kV a1;have b6:=kV a2;have b7:=kV a3;have b8:=kV u0;have b9:=kV u1;have ap:=kV u2;have aq:=kV u3;have au:=kV cU;have ak:=kV cV;have al:∀ t:BoxC (Below V.heap.size V),t.W.cell? ⟨wr.heap.size,0,none⟩=some (.int .i64 x.op):=fun t=>t.cell (h_ _ _ 0 _ _ _ bw) aD
   have av:∀ t:BoxC (Below V.heap.size V),t.W.cell? ⟨wr.heap.size,1,none⟩=some (.string (bstr x.name)):=fun t=>t.cell (h_ _ _ 1 _ _ _ bw) aD
   have aw:∀ t:BoxC (Below V.heap.size V),t.W.cell? ⟨wr.heap.size,2,none⟩=some (.int .i64 x.sort):=fun t=>t.cell (h_ _ _ 2 _ _ _ bw) aD
   have ax:∀ t:BoxC (Below V.heap.size V),t.W.cell? ⟨wr.heap.size,3,none⟩=some (.slice B2 x.args.length cx):=fun t=>t.cell (h_ _ _ 3 _ _ _ bw) aD
   obtain ⟨kx,bI⟩:=e_ (κ (srtT O x));obtain ⟨ka,bJ⟩:=e_ (κ (za:Int));obtain ⟨sm,bK⟩:∃ sm,decide (cmp x (qg6 u)=0)=sm:=⟨_,rfl⟩;rw [← bJ] at ak;have bL:∀ t:BoxC (Below V.heap.size V),HasTs kn lo t.W (.slice B2 x.args.length cx) x.args:=fun t=>cj.below n_ (aC.trans (t.h.mono (Nat.le_of_lt aD)))
   have ac:Hid (∀ t:BoxC (Below V.heap.size V),Calls Tryz.prog 143 #[.agg #[.slice A1 n c1,.slice A2 m2 c2,.slice (some ⟨g0,o0,none⟩) m3 c3],.agg #[.int .i64 x.op,.string (bstr x.name),.int .i64 x.sort,.slice B2 x.args.length cx]] t.W fun e w'=>e=.returned (.int .i64 (kx:Int))∧Below t.W.heap.size t.W w'):=z_ (fun t=>by
    rw [bI]
    exact be.out t.W x _ kn lo (aA.trans ((aC.trans (t.h.mono (Nat.le_of_lt aD))).mono aA.size)) (bL t) bf)
   have aa:Hid (∀ t:BoxC (Below V.heap.size V),Calls Tryz.prog 58 #[.agg #[.int .i64 x.op,.string (bstr x.name),.int .i64 x.sort,.slice B2 x.args.length cx],.agg #[.int .i64 uo,.string (bstr []),.int .i64 0,.slice none 0 0]] t.W fun e w'=>e=.returned (.bool sm)∧Below t.W.heap.size t.W w'):=z_ (fun t=>by
    have h1:=qli (n:=kn) (m:=0) (lo':=lo) x (qg6 u) (.slice B2 x.args.length cx) (.slice none 0 0) t.W (bL t) (HasR.nil _ _ _ (by unfold maxLen;omega) _) sm bK;rw [dd.out]
    exact h1)
   have af:Hid (∀ (y:TermM) (B3:Option Addr) (c9:Nat),HasTs kn lo wr (.slice B3 y.args.length c9) y.args→sizes y.args≤1048576→∀ t:BoxC (Below V.heap.size V),Calls Tryz.prog 82 #[.agg #[.int .i64 y.op,.string (bstr y.name),.int .i64 y.sort,.slice B3 y.args.length c9],.agg #[.int .i64 x.op,.string (bstr x.name),.int .i64 x.sort,.slice B2 x.args.length cx]] t.W fun e w'=>e=.returned (.int .i64 (cmp y x))∧Below t.W.heap.size t.W w'):=z_ (fun y B3 c9 hy _ t=>
    qhj y x _ _ t.W (hy.below n_ (aC.trans (t.h.mono (Nat.le_of_lt aD)))) (bL t))
   have am:Hid (r=true→kx=ka∧¬ (a=true∧x.op=(k:Int))∧¬ (ha=true∧sm=true)∧(b=true→0<p→cmp (L.getD (p-1) default) x≤0)):=z_ (fun dn=>by
    have h1:=HR.out.1 dn p hlt;rw [← cW.out,ci,← bI,← bJ] at h1;refine ⟨h1.1,h1.2.1,fun h2=>h1.2.2.1 ⟨?_,?_⟩,h1.2.2.2⟩
    ·have h3:=h2.1
     rw [bq.out] at h3;simpa using h3
    ·have h3:=h2.2
     rw [← bK] at h3
     exact of_decide_eq_true h3)
   have ag:Hid (kx=ka∧¬ (a=true∧x.op=(k:Int))∧¬ (ha=true∧sm=true)∧(b=true→0<p→cmp (L.getD (p-1) default) x≤0)→∀ i,i<p+1→κ (srtT O (L.getD i default))=κ (L0.getD (atS a i) 0)∧¬ (a=true∧(L.getD i default).op=(k:Int))∧¬ (u≠0∧cmp (L.getD i default) (qg6 u)=0)∧(b=true→0<i→cmp (L.getD (i-1) default) (L.getD i default)≤0)):=z_ (fun h1 i hi=>by
    by_cases e:i=p
    ·subst e
     rw [← cW.out,ci,← bI,← bJ];refine ⟨h1.1,h1.2.1,fun h2=>h1.2.2.1 ⟨?_,?_⟩,h1.2.2.2⟩
     ·rw [bq.out]
      simpa using h2.1
     ·rw [← bK]
      exact decide_eq_true h2.2
    ·exact bt.out i o_)
   have bM:Hid (0<p→sizes (L.getD (p-1) default).args≤1048576):=z_ (fun h0=>by
    have h9:=qah (l:=L) (j:=p-1) (by have:=bV.out;omega);have dy:=termro.qao (L.getD (p-1) default);have:=c8.out
    omega)
   have aQ:=z_ (aA.trans (aC.mono aA.size));have ah:=z_ (az.trans (aC.mono az.size));have aI:V0.heap.size≤V.heap.size:=o_;have aU:w.heap.size≤V.heap.size:=aQ.out.size;have nb:Nonempty (BoxC (Below V.heap.size V)):=⟨⟨_,Below.refl _ _⟩⟩;have i3:(0:Int)≤(p:Int):=o_;have i4:(p:Int)<(q:Int):=o_;have i5:(0:Int)<(dl:Int):=o_;have i6:(0:Int)≤(za:Int):=o_;have i7:(za:Int)<(n:Int):=o_;have aV:=cv.out p hlt;have dz:w.heap.size+2<wr.heap.size:=o_;have dp:w.heap.size+1<wr.heap.size:=o_;clear az aA aC bw bL cj bf ci bK bI bJ cU cV;cases a with
   | false=>
    have aM:wr.cell? ⟨gl,ol+p,none⟩=some (.int .i64 ((za:Nat):Int)):=by simpa [atS] using ai
    have an:=kV aM;have dq:p<ln:=by simpa [atS] using aV
    have i8:(p:Int)<(ln:Int):=o_;clear aM aV;have aH:¬ (false=true∧x.op=(k:Int)):=fun e=>by cases e.1
    by_cases ae:kx=ka
    ·have q1:((kx:Int)==(ka:Int))=true:=by rw [ae];simp
     have q2:(kx==ka)=true:=by rw [ae];simp
     have q3:decide (kx=ka)=true:=decide_eq_true ae;exact c59_
    ·exact c60_
   | true=>
    have aM:wr.cell? ⟨gl,ol,none⟩=some (.int .i64 ((za:Nat):Int)):=by simpa [atS] using ai
    have an:=kV aM;have dq:0<ln:=by simpa [atS] using aV
    have i8:(0:Int)<(ln:Int):=o_;clear aM aV;by_cases ae:kx=ka
    ·have q1:((kx:Int)==(ka:Int))=true:=by rw [ae];simp
     have q2:(kx==ka)=true:=by rw [ae];simp
     have q3:decide (kx=ka)=true:=decide_eq_true ae;obtain ⟨xo,cX⟩:=e_ (x.op);rw [← cX] at f0 hV al ac aa af am ag;clear cX;by_cases ba:xo=(k:Int)
     ·have dr:=z_ ba
      have s1:(xo==(k:Int))=true:=by rw [ba];simp
      have s2:decide (xo=(k:Int))=true:=decide_eq_true ba;clear ba;go_wp2_with fail
      rw [← hV];clear hV x0 x1 x2 y0 y3 a1 a2 a3 u0 u1 u2 u3 f0 f1 f2 f3 ai;refine qa1 (C:=Below V.heap.size V) k_ k_ b_.drew ?_;repeat (first|go_big_quiet_step ((go_at_call 143;exact (ac.out _).mono (fun _ _ h=>⟨h.1,BoxC.step _ h.2⟩)))|go_big_quiet_step ((go_at_call 58;exact (aa.out _).mono (fun _ _ h=>⟨h.1,BoxC.step _ h.2⟩))))
      refine wpQuiet_nil ?_;rintro w5 ⟨t5,rfl⟩
      have HF:Hid (r=false):=z_ (by cases aB:r with
       | false=>rfl
       | true=>exact absurd (am.out aB) (by intro hh;exact hh.2.1 ⟨by trivial,dr.out⟩))
      exact j18_
     ·have s1:(xo==(k:Int))=false:=by simp [ba]
      have s2:decide (xo=(k:Int))=false:=decide_eq_false ba;have aH:¬ (true=true∧xo=(k:Int)):=fun e=>ba e.2
      exact c59_
    ·exact c60_
  ·have d1:decide ((p:Int)<(q:Int))=false:=f_
   have d3:decide (p<q)=false:=decide_eq_false hlt;have HT:Hid (r=true):=z_ (HR.out.2 (fun i hi=>bt.out i o_));have dt:=z_ (bG.out.trans (az.mono bG.out.size));clear cd ce cf cg cP cQ ch az;go_wp2;go_ret;exact ⟨qa0 HT.out.symm,dt.out⟩
end Go.Proofs.YtiilamngcoegiaaGreat.formr
