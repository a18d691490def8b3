/- parts -/
import Derived.Test.YtiilamngcoegiaaGreatFormr
import Derived.Test.YtiilamngcoegiaaGreatPk20
import Derived.Test.YtiilamngcoegiaaGreatPk22
namespace Go.Proofs.YtiilamngcoegiaaGreat
open Go.ChangeShapes Go.WideShapes Go.ChangeAt Go.RowKit
namespace formf
open mem sortp sorti sigm sigs rowl trm terml termb termt termx termro termv frm gram gramn grami formnd formk formr
def qyb (P:List (List UInt8))(Q:List (Int×Int))(O:List OpM)(t:TermM):Prop:=qbu P O t∧(t.op≠-1→qg7 (κK P.length Q) O t.op.toNat t.args)
abbrev qau (P:List (List UInt8))(Q:List (Int×Int))(O:List OpM):TermM→Prop:=allN (qyb P Q O)
theorem qam (P:List (List UInt8))(Q:List (Int×Int))(O:List OpM)(t:TermM):qau P Q O t↔qbu P O t∧(∀ a∈t.args,qau P Q O a)∧(t.op≠-1→qg7 (κK P.length Q) O t.op.toNat t.args):=by
 unfold qau;rw [qbn,qyb];exact ⟨fun h=>⟨h.1.1,h.2,h.1.2⟩,fun h=>⟨⟨h.1,h.2.2⟩,h.2.1⟩⟩
theorem qch {P:List (List UInt8)}{O:List OpM}{t:TermM}(h:qbu P O t):qd8 P O t:=by
 unfold qbu at h;unfold qd8;split
 ·rename_i hv
  rw [if_pos hv] at h;exact h.2.1
 ·rename_i hv
  rw [if_neg hv] at h;exact h.1
def qAy (P:List (List UInt8))(Q:List (Int×Int))(O:List OpM)(n:Nat):Prop:=∀ (va vb vc:Value) (t:TermM) (v:Value) (w:World) (lo:Nat),HasG w va vb vc P Q O→HasTs n lo w v t.args→Bnd t→sizes t.args≤1048576→∀ r:Bool,(r=true↔qau P Q O t)→
 Calls Tryz.prog 84 #[.agg #[va,vb,vc],aggT t v] w fun e w'=>e=.returned (.bool r)∧Below w.heap.size w w'
set_option maxRecDepth 50000 in
set_option maxHeartbeats 8000000 in
theorem qjx (P:List (List UInt8))(Q:List (Int×Int))(O:List OpM)(aG:qad P Q O=true){N:Nat}(hS:∀ k,N=k+1→qAy P Q O k):qAy P Q O N:=by
 intro va vb vc t v w lo h ht hB hsz r hr;obtain ⟨nb,aq⟩:=x_ (qbu P O t);obtain ⟨rb,au⟩:=x_ (qg7 (κK P.length Q) O t.op.toNat t.args);rw [qam] at hr;have aH:t.args.length≤1048576:=by have:=qaq t.args;omega
 obtain ⟨B,cb,rfl,_⟩:=HasR.shape ht rfl;have av:Hid (∀ W,Below w.heap.size w W→Calls Tryz.prog 138 #[.agg #[va,vb,vc],aggT t (.slice B t.args.length cb)] W fun e w'=>e=.returned (.bool nb)∧Below W.heap.size W w'):=z_ (fun W hW=>qv7 P Q O aG va vb vc t _ W (h.below n_ hW) (ht.below n_ hW) hB aH nb aq)
 have aw:Hid (t.op≠-1→qbu P O t→(∀ a∈t.args,qau P Q O a)→∀ W,Below w.heap.size w W→Calls Tryz.prog 139 #[.agg #[va,vb,vc],aggT t (.slice B t.args.length cb)] W fun e w'=>e=.returned (.bool rb)∧Below W.heap.size W w'):=z_ (fun aT ad ae W hW=>by
  have h1:=ad;unfold qbu at h1;rw [if_neg aT] at h1
  exact qst P Q O aG va vb vc t _ W (h.below n_ hW) (ht.below n_ hW) hsz t.op.toNat o_ o_ (fun ha=>by
   have h2:=h1.2.2.2;rw [ha,if_neg (by simp)] at h2
   exact h2) (fun x hx=>qch ((qam P Q O x).1 (ae x hx)).1) rb au)
 have aI:Hid (∀ k,N=k+1→∀ (x:TermM) (vx:Value) (W:World),Below w.heap.size w W→HasTs k lo W vx x.args→Bnd x→sizes x.args≤1048576→∀ r:Bool,(r=true↔qau P Q O x)→Calls Tryz.prog 84 #[.agg #[va,vb,vc],aggT x vx] W fun e w'=>e=.returned (.bool r)∧Below W.heap.size W w'):=z_ (fun k e x vx W hW hx aU af r hr=>hS k e va vb vc x vx W lo (h.below n_ hW) hx aU af r hr);obtain ⟨A1,c1,A2,c2,A3,c3,rfl,rfl,rfl,_⟩:=h.shape;have aJ:=z_ ht;have aK:=z_ aq;have HR:=z_ hr;have aL:=z_ hsz;obtain ⟨L,hL⟩:=e_ (t.args);obtain ⟨q,hq⟩:=e_ (t.args.length);obtain ⟨to,ac⟩:=e_ (t.op);obtain ⟨tn,al⟩:=e_ (t.name);obtain ⟨ts,am⟩:=e_ (t.sort);obtain ⟨m1,ag⟩:=e_ (P.length);obtain ⟨m2,ah⟩:=e_ (Q.length);obtain ⟨m3,ai⟩:=e_ (O.length);have aV:Hid (rb=true↔qg7 (κK P.length Q) O to.toNat L):=z_ (by rw [ac,hL];exact au);have ax:Hid (q=L.length):=z_ (by rw [hq,hL]);unfold aggT at av aw ⊢;rw [← hq,← ac,← al,← am,← ag,← ah,← ai];rw [← hq,← ac,← al,← am,← ag,← ah,← ai] at av;rw [← hq,← hL,← ac,← al,← am,← ag,← ah,← ai] at aw;rw [← ag,← ah,← ai] at aI;rw [← hq,← hL] at aJ;rw [← hL,← ac] at HR;rw [← hL] at aL;have aW:q≤1048576:=o_;clear h ht hB hsz hr aq au aH hL hq ac al am ag ah ai hS;obtain ⟨W,hW⟩:=e_ ((w.alloc (.cells #[.slice A1 m1 c1,.slice A2 m2 c2,.slice A3 m3 c3] 46)).alloc (.cells #[.int .i64 to,.string (bstr tn),.int .i64 ts,.slice B q cb] 38));have aM:Below w.heap.size w W:=by
  rw [hW];exact v_
 have aN:Box34 w.heap.size (w.heap.size+1) (.slice A1 m1 c1) (.slice A2 m2 c2) (.slice A3 m3 c3) (.int .i64 to) (.string (bstr tn)) (.int .i64 ts) (.slice B q cb) W:=by
  rw [hW];exact ⟨box3 (qbh _ _ _),box4 (qa5 _ _ _ (by simp))⟩
 have aO:W.heap.size=w.heap.size+2:=by rw [hW];simp
 have HX:=z_ aN;have ay:=z_ aM;have HZ:=z_ aO;clear aM aN aO;go_enter Tryz.func84,Tryz.ntmps84
 go_wp2_with fail
 rw [← hW];clear hW;refine (av.out _ ay.out).mono ?_;rintro e w1 ⟨rfl,an⟩;have az:=z_ (ay.out.trans (an.mono ay.out.size));have aX:=z_ (Box34.below HX.out an);have a8:w.heap.size+2≤w1.heap.size:=by have:=an.size;have:=HZ.out;omega
 clear an;cases nb with
 | false=>
  have HF:Hid (r=false):=z_ (by cases aA:r with
   | false=>rfl
   | true=>exact absurd (aK.out.2 (HR.out.1 aA).1) (by simp))
  go_wp2;go_ret;exact ⟨qa0 HF.out.symm,az.out⟩
 | true=>
  have aB:Hid (qbu P O t):=z_ (aK.out.1 (by trivial));go_wp2;go_loopw [5] (fun v5 wr=>∃ p:Nat,v5=.int .i64 p∧p≤q∧Hid (∀ i,i<p→qau P Q O (L.getD i default))∧Hid (Below w1.heap.size w1 wr)) (fun i _=>q-(intOf i).toNat)
  case atStart=>exact ⟨0,rfl,y_,z_ (fun i hi=>absurd hi (Nat.not_lt_zero _)),z_ b_⟩
  case round=>
   obtain ⟨p,rfl,hp,aj,HB⟩:=hrel;have aa:=HB.out;have aY:w1.heap.size≤wr.heap.size:=aa.size;obtain ⟨⟨x0,x1,x2⟩,y0,y1,y2,y3⟩:=Box34.below aX.out aa;have ab:=az.out.trans (aa.mono az.out.size);have ao:=z_ ab;by_cases hlt:p<q
   ·have d1:decide ((p:Int)<(q:Int))=true:=d_
    have d3:decide (p<q)=true:=decide_eq_true hlt;obtain ⟨kn,g,o,B2,cx,aZ,rfl,_,hg,e0,e1,e2,e3,aC,aD⟩:=qaj aJ.out hlt;have f0:=(ab.cell (p:=⟨g,o+p*4,none⟩) hg).trans e0;have f1:=(ab.cell (p:=⟨g,o+p*4+1,none⟩) hg).trans e1;have f2:=(ab.cell (p:=⟨g,o+p*4+2,none⟩) hg).trans e2;have f3:=(ab.cell (p:=⟨g,o+p*4+3,none⟩) hg).trans e3;have af:sizes (L.getD p default).args≤1048576:=by
     have h9:=qah (l:=L) (j:=p) (by have:=ax.out;omega);have ba:=termro.qao (L.getD p default);have:=aL.out;omega
    obtain ⟨x,hx⟩:=e_ (L.getD p default);have aP:=z_ hx;rw [← hx] at f0 f1 f2 f3 aC aD af;obtain ⟨rx,aE⟩:=x_ (qau P Q O x)
    have ap:Hid (∀ t:BoxC (Below wr.heap.size wr),Calls Tryz.prog 84 #[.agg #[.slice A1 m1 c1,.slice A2 m2 c2,.slice A3 m3 c3],.agg #[.int .i64 x.op,.string (bstr x.name),.int .i64 x.sort,.slice B2 x.args.length cx]] t.W fun e w'=>e=.returned (.bool rx)∧Below t.W.heap.size t.W w'):=z_ (fun t=>by
     have aQ:=ab.trans (t.h.mono ab.size)
     exact aI.out kn aZ x _ t.W aQ (aC.below n_ aQ) aD af rx aE)
    have kV:∀ {g y:Nat} {v:Value},wr.cell? ⟨g,y,none⟩=some v→∀ t:BoxC (Below wr.heap.size wr),t.W.cell? ⟨g,y,none⟩=some v:=fun {g y v} h t=>t.cell h (l_ h)
    have b0:=kV x0;have b1:=kV x1;have b2:=kV x2;have b3:=kV y3;have b4:=kV f0;have b5:=kV f1;have b6:=kV f2;have b7:=kV f3;have nb:Nonempty (BoxC (Below wr.heap.size wr)):=⟨⟨_,Below.refl _ _⟩⟩;have i3:(0:Int)≤(p:Int):=o_;have i4:(p:Int)<(q:Int):=o_;have a2:w.heap.size≤wr.heap.size:=o_;have aR:=z_ aE;clear e0 e1 e2 e3 f0 f1 f2 f3 aC aD af hx aE ab aa kV x0 x1 x2 y0 y1 y2;cases rx with
    | false=>
     have HF:Hid (r=false):=z_ (by cases aA:r with
      | false=>rfl
      | true=>exact absurd (aR.out.2 ((HR.out.1 aA).2.1 x (by rw [aP.out,List.getD_eq_getElem?_getD,List.getElem?_eq_getElem (by have:=ax.out;omega)];exact List.getElem_mem _))) (by simp))
     go_wp2_with fail
     refine qa1 (C:=Below wr.heap.size wr) k_ k_ b_.drew ?_;repeat (go_big_quiet_step ((go_at_call 84;exact (ap.out _).mono (fun _ _ h=>⟨h.1,BoxC.step _ h.2⟩))))
     refine wpQuiet_nil ?_;rintro w5 ⟨t5,rfl⟩;have ak:=z_ (ao.out.trans (t5.h.mono a2));clear b0 b1 b2 b3 b4 b5 b6 b7 nb ap y3;go_wp2;go_ret;exact ⟨qa0 HF.out.symm,ak.out⟩
    | true=>
     have HA:Hid (∀ i,i<p+1→qau P Q O (L.getD i default)):=z_ (fun i hi=>by
      by_cases e:i=p
      ·subst e;rw [← aP.out];exact aR.out.1 (by trivial)
      ·exact aj.out i o_)
     go_wp2_with fail
     refine qa1 (C:=Below wr.heap.size wr) k_ k_ b_.drew ?_;repeat (go_big_quiet_step ((go_at_call 84;exact (ap.out _).mono (fun _ _ h=>⟨h.1,BoxC.step _ h.2⟩))))
     refine wpQuiet_nil ?_;rintro w5 ⟨t5,rfl⟩;have ak:=z_ (HB.out.trans (t5.h.mono aY));clear b0 b1 b2 b3 b4 b5 b6 b7 nb ap y3;go_wp2;go_roundw
     case measure=>simp [intOf];omega
     case rel=>exact ⟨p+1,by go_num,by omega,HA,ak⟩
   ·have d1:decide ((p:Int)<(q:Int))=false:=f_
    have d3:decide (p<q)=false:=decide_eq_false hlt
    have aF:Hid (∀ a∈L,qau P Q O a):=z_ (fun a ha=>by
     obtain ⟨i,hi,rfl⟩:=List.getElem_of_mem ha;have:=aj.out i (by have:=ax.out;omega);rw [List.getD_eq_getElem?_getD,List.getElem?_eq_getElem hi] at this
     exact this)
    by_cases hv:to=-1
    ·have HT:Hid (r=true):=z_ (HR.out.2 ⟨aB.out,aF.out,fun e=>absurd hv e⟩)
     subst hv;clear aa ab;go_wp2;go_ret;exact ⟨qa0 HT.out.symm,ao.out⟩
    ·have a6:Hid (r=rb):=z_ (by
      rw [Bool.eq_iff_iff,HR.out,aV.out]
      exact ⟨fun e=>e.2.2 hv,fun e=>⟨aB.out,aF.out,fun _=>e⟩⟩)
     have a7:=z_ (aw.out hv aB.out aF.out wr ab);have v1:(to==-1)=false:=by simp [hv]
     have v2:decide (to=-1)=false:=decide_eq_false hv;clear aa ab;go_wp2_with fail
     refine a7.out.mono ?_;rintro e w5 ⟨rfl,aS⟩;have ak:=z_ (ao.out.trans (aS.mono ao.out.size));clear aS x0 x1 x2 y0 y1 y2 y3;go_wp2;go_ret;exact ⟨qa0 a6.out.symm,ak.out⟩
theorem qr7 (P:List (List UInt8))(Q:List (Int×Int))(O:List OpM)(aa:qad P Q O=true):∀ n,qAy P Q O n
 | 0=>qjx P Q O aa (fun k h=>by omega)
 | n+1=>qjx P Q O aa (fun k h=>Nat.succ.inj h ▸ qr7 P Q O aa n)
end formf

namespace formm
open sortp sortf sigm trm trmv frm sigi sigk gram gramo graml gramk gramc gramn gramt formnd formk formr formf
section
variable {P:List (List UInt8)} {Q:List (Int×Int)} {O:List OpM}
theorem qAz (aa:qad P Q O=true){x y:Int}(hx:inN P.length x=true)(hy:inN P.length y=true):κU (qal P Q) x=κU (qal P Q) y↔κK P.length Q x=κK P.length Q y:=by
 have hS:=(qa9 aa).1;have e:∀ z,κU (qal P Q) z=κC P.length Q z:=fun z=>by unfold κU κC qal;rw [if_pos hS]
 rw [e,e];exact qqs (qax hS).2.2.1 x y hx hy
theorem qhb {k:Nat}(h:k<O.length):O.getD k default∈O:=by rw [List.getD_eq_getElem?_getD,List.getElem?_eq_getElem h];exact List.getElem_mem _
theorem qnf (aa:qad P Q O=true){k:Nat}(h:k<O.length):okD P.length (hd0 (O.getD k default).decls)=true:=by
 obtain ⟨_,_,_,hd,_⟩:=qa9 aa;exact (qak (hd _ (qhb h))).2.2.2
theorem qg8 (aa:qad P Q O=true):grM P Q O=⟨qal P Q,opsE O (shps (κU (qal P Q)) O)⟩:=by unfold grM;rw [if_pos aa]
theorem qlj (aa:qad P Q O=true):(qal P Q).length=P.length:=by rw [qgp,if_pos (qa9 aa).1]
theorem qr8 (aa:qad P Q O=true){k:Nat}(h:k<O.length):(grM P Q O).E.getD k default=(O.getD k default,k,shp (κU (qal P Q)) (hd0 (O.getD k default).decls)):=by
 rw [qg8 aa];show (opsE O _).getD k default=_;rw [qox O _ h,qfw _ O k h]
theorem qr9 (aa:qad P Q O=true){x:TermM}(h:qd8 P O x):inN P.length (srtT O x)=true:=by
 unfold qd8 at h;unfold srtT;split
 ·rename_i hv
  rw [if_pos hv] at h;exact decide_eq_true h
 ·rename_i hv
  rw [if_neg hv] at h;obtain ⟨k,hk⟩:∃ k:Nat,x.op=(k:Int):=⟨x.op.toNat,by omega⟩;rw [hk,Int.toNat_natCast];exact (qaf (qnf aa o_)).2.1
theorem qlk (aa:qad P Q O=true){x:TermM}(h:qd8 P O x):gKind (grM P Q O) x=κU (qal P Q) (srtT O x):=by
 have ab:=qr9 aa h;unfold qd8 at h;unfold gKind srtT at *;by_cases hv:x.op=-1
 ·rw [if_pos hv] at h ab ⊢
  rw [if_pos hv,qg8 aa];exact qAk (by rw [qlj aa];exact ab)
 ·rw [if_neg hv] at h ab ⊢
  rw [if_neg hv];obtain ⟨k,hk⟩:∃ k:Nat,x.op=(k:Int):=⟨x.op.toNat,by omega⟩;have ac:k<O.length:=o_;have hE:(grM P Q O).E.length=O.length:=by rw [qg8 aa];exact qg0 _ _
  rw [hE,if_pos h,hk,Int.toNat_natCast,qr8 aa ac];rfl
theorem qv8 (ab:qad P Q O=true){k i:Nat}(h:k<O.length)(hi:atS (O.getD k default).ass i<(hd0 (O.getD k default).decls).1.length):
  kAtS (O.getD k default).ass (shp (κU (qal P Q)) (hd0 (O.getD k default).decls)) i=κU (qal P Q) ((hd0 (O.getD k default).decls).1.getD (atS (O.getD k default).ass i) 0):=by
 have h3:=(qaf (qnf ab h)).1;cases ha:(O.getD k default).ass with
 | true=>
  rw [ha] at hi;have h0:0<(hd0 (O.getD k default).decls).1.length:=hi;show pl (κU (qal P Q)) (hd0 (O.getD k default).decls).1 0=_;rw [pl,if_pos h0];rfl
 | false=>
  rw [ha] at hi;have aa:i<(hd0 (O.getD k default).decls).1.length:=hi;match i,aa with
  | 0,aa=>
   show pl (κU (qal P Q)) (hd0 (O.getD k default).decls).1 0=_;rw [pl,if_pos aa];rfl
  | 1,aa=>
   show pl (κU (qal P Q)) (hd0 (O.getD k default).decls).1 1=_;rw [pl,if_pos aa];rfl
  | 2,aa=>
   show pl (κU (qal P Q)) (hd0 (O.getD k default).decls).1 2=_;rw [pl,if_pos aa];rfl
  | n+3,aa=>omega
theorem qp6 (ab:qad P Q O=true){k:Nat}(hk:k<O.length){a:TermM}(ha:qbu P O a)(hu:(O.getD k default).unt≠0)(ho:a.op=(O.getD k default).unt-1):a=qg6 (O.getD k default).unt:=by
 obtain ⟨_,_,_,_,hx⟩:=qa9 ab;have h1:=hx _ (qhb hk);simp only [axOk,qds,Bool.and_eq_true,Bool.or_eq_true,decide_eq_true_eq] at h1;obtain ⟨⟨h2,h3⟩,_⟩:=h1.2.resolve_left hu;obtain ⟨u,ac⟩:=e_ ((O.getD k default).unt);unfold qc2 at h3;rw [← ac] at hu ho h2 h3 ⊢;obtain ⟨j,hj⟩:∃ j:Nat,u=(j:Int)+1:=⟨(u-1).toNat,by omega⟩;have ad:j<O.length:=o_;rw [show u.toNat-1=j by omega] at h3;have h4:=hx _ (qhb ad);simp only [axOk,qd2,Bool.and_eq_true,Bool.or_eq_true,decide_eq_true_eq,Bool.not_eq_true'] at h4;have aa:(O.getD j default).ass=false:=by
  rcases h4.1 with h5|h5
  ·exact h5.1.1
  ·omega
 have ae:a.op=(j:Int):=o_;unfold qbu at ha;rw [if_neg o_,ae,Int.toNat_natCast,if_neg (by rw [aa];simp),h3] at ha;obtain ⟨_,q1,q2,q3⟩:=ha;cases a with
 | mk op nm st l=>
  have e1:op=u-1:=ho;have e2:nm=[]:=q1;have e3:st=0:=q2;have e4:l=[]:=List.eq_nil_of_length_eq_zero q3;rw [e1,e2,e3,e4,qg6,if_neg hu]
theorem qv9 (ab:qad P Q O=true){k:Nat}(hk:k<O.length)(L:List TermM)(hA:∀ a∈L,qbu P O a)(af:(O.getD k default).ass=false→L.length=ar (O.getD k default)):
  ((∀ i,i<L.length→gKind (grM P Q O) (L.getD i default)=kAtS (O.getD k default).ass (shp (κU (qal P Q)) (hd0 (O.getD k default).decls)) i)∧qsp (O.getD k default,k,shp (κU (qal P Q)) (hd0 (O.getD k default).decls)) L (decide (Srt L))=true)↔qg7 (κK P.length Q) O k L:=by
 obtain ⟨_,_,_,_,hx⟩:=qa9 ab;have h4:=hx _ (qhb hk);simp only [axOk,qd2,Bool.and_eq_true,Bool.or_eq_true,decide_eq_true_eq,Bool.not_eq_true'] at h4
 have ag:∀ i,i<L.length→atS (O.getD k default).ass i<(hd0 (O.getD k default).decls).1.length:=fun i hi=>by
  cases ha:(O.getD k default).ass with
  | false=>
   have h5:=af ha;show i<ar (O.getD k default);omega
  | true=>
   have h5:ar (O.getD k default)=2:=by
    rcases h4.1 with h5|h5
    ·rw [ha] at h5;exact absurd h5.1.1 (by simp)
    ·exact h5.1.1
   have h6:(hd0 (O.getD k default).decls).1.length=2:=h5;rw [h6];exact Nat.zero_lt_two
 have ac:∀ i,i<L.length→L.getD i default∈L:=fun i hi=>by rw [List.getD_eq_getElem?_getD,List.getElem?_eq_getElem hi];exact List.getElem_mem _
 have ad:∀ a∈L,∃ i,i<L.length∧L.getD i default=a:=fun a ha=>by
  obtain ⟨i,hi,e⟩:=List.getElem_of_mem ha;exact ⟨i,hi,by rw [List.getD_eq_getElem?_getD,List.getElem?_eq_getElem hi];exact e⟩
 have aa:∀ i,i<L.length→(gKind (grM P Q O) (L.getD i default)=kAtS (O.getD k default).ass (shp (κU (qal P Q)) (hd0 (O.getD k default).decls)) i↔κK P.length Q (srtT O (L.getD i default))=κK P.length Q ((hd0 (O.getD k default).decls).1.getD (atS (O.getD k default).ass i) 0)):=fun i hi=>by
  have hR:=qch (hA _ (ac i hi));rw [qlk ab hR,qv8 ab hk (ag i hi)];exact qAz ab (qr9 ab hR) ((qaf (qnf ab hk)).2.2 _ (ag i hi))
 have ae:qsp (O.getD k default,k,shp (κU (qal P Q)) (hd0 (O.getD k default).decls)) L (decide (Srt L))=true↔(∀ a∈L,¬ ((O.getD k default).unt≠0∧a.op=(O.getD k default).unt-1))∧(∀ a∈L,¬ ((O.getD k default).ass=true∧a.op=(k:Int)))∧((O.getD k default).com=true→Srt L):=by
  simp only [qsp,isUB,isAB,Bool.and_eq_true,Bool.not_eq_true',List.any_eq_false,Bool.or_eq_true,decide_eq_true_eq];constructor
  ·rintro ⟨⟨q1,q2⟩,q3⟩
   refine ⟨q1,q2,fun hc=>?_⟩;rcases q3 with q3|q3
   ·rw [hc] at q3;cases q3
   ·exact q3
  ·rintro ⟨q1,q2,q3⟩
   refine ⟨⟨q1,q2⟩,?_⟩;cases hc:(O.getD k default).com with
   | false=>exact .inl rfl
   | true=>exact .inr (q3 hc)
 rw [ae,qoy];unfold qg7 qp5;constructor
 ·rintro ⟨p1,p2,p3,p4⟩ i hi
  refine ⟨(aa i hi).1 (p1 i hi),p3 _ (ac i hi),fun hc=>p2 _ (ac i hi) ⟨hc.1,?_⟩,fun hc h0=>?_⟩
  ·have:=(qc5 _ _).1 hc.2
   rw [this,qg6,if_neg hc.1];rfl
  ·have:=p4 hc (i-1) o_
   rw [show i-1+1=i by omega] at this;exact this
 ·intro h
  refine ⟨fun i hi=>(aa i hi).2 (h i hi).1,fun a ha hc=>?_,fun a ha hc=>?_,fun hc i hi=>?_⟩
  ·obtain ⟨i,hi,e⟩:=ad a ha
   refine (h i hi).2.2.1 ⟨hc.1,?_⟩;rw [e];exact (qc5 _ _).2 (qp6 ab hk (hA a ha) hc.1 hc.2)
  ·obtain ⟨i,hi,e⟩:=ad a ha
   exact (h i hi).2.1 (by rw [e];exact hc)
  ·have:=(h (i+1) hi).2.2.2 hc o_
   rw [show i+1-1=i by omega] at this;exact this
theorem qyc (aa:qad P Q O=true)(t:TermM)(hA:∀ a∈t.args,qbu P O a):(t.args.length≤7∧qc0 (grM P Q O) t)↔qyb P Q O t:=by
 have hU:(grM P Q O).U.length=P.length:=by rw [qg8 aa];exact qlj aa
 have hE:(grM P Q O).E.length=O.length:=by rw [qg8 aa];exact qg0 _ _
 unfold qc0 qyb qbu;by_cases hv:t.op=-1
 ·rw [if_pos hv,if_pos hv]
  simp only [varB,Bool.and_eq_true,decide_eq_true_eq,hU];constructor
  ·rintro ⟨_,⟨q1,q2⟩,q3⟩
   exact ⟨⟨q1,q2,q3⟩,fun e=>absurd hv e⟩
  ·rintro ⟨⟨q1,q2,q3⟩,_⟩
   exact ⟨by omega,⟨q1,q2⟩,q3⟩
 ·rw [if_neg hv,if_neg hv]
  by_cases hr:0≤t.op∧t.op<O.length
  ·obtain ⟨k,hk⟩:∃ k:Nat,t.op=(k:Int):=⟨t.op.toNat,by omega⟩
   have ac:k<O.length:=o_;unfold CanP;rw [hE,hk,Int.toNat_natCast,qr8 aa ac];have h3:=(qaf (qnf aa ac)).1;have htk:qh9 (O.getD k default,k,shp (κU (qal P Q)) (hd0 (O.getD k default).decls)) t.args.length=true↔if (O.getD k default).ass=true then 2≤t.args.length else t.args.length=ar (O.getD k default):=by
    unfold qh9;split
    ·rw [decide_eq_true_iff]
    ·rw [decide_eq_true_iff];rfl
   rw [htk];have ab:=qv9 aa ac t.args hA;simp only [qd7,decide_eq_true_eq];cases ha:(O.getD k default).ass with
   | true=>
    rw [ha] at ab;simp only [if_true];constructor
    ·rintro ⟨q0,⟨q1,q2⟩,⟨_,q3,q4⟩,q5⟩
     exact ⟨⟨by omega,q1,q2,q3,q0⟩,fun _=>(ab (fun e=>by cases e)).1 ⟨q4,q5⟩⟩
    ·rintro ⟨⟨_,q1,q2,q3,q0⟩,q4⟩
     have q5:=(ab (fun e=>by cases e)).2 (q4 o_);exact ⟨q0,⟨q1,q2⟩,⟨by omega,q3,q5.1⟩,q5.2⟩
   | false=>
    rw [ha] at ab;simp only [Bool.false_eq_true,if_false];have ad:ar (O.getD k default)≤3:=h3;constructor
    ·rintro ⟨q0,⟨q1,q2⟩,⟨_,q3,q4⟩,q5⟩
     exact ⟨⟨by omega,q1,q2,q3⟩,fun _=>(ab (fun _=>q3)).1 ⟨q4,q5⟩⟩
    ·rintro ⟨⟨_,q1,q2,q3⟩,q4⟩
     have q5:=(ab (fun _=>q3)).2 (q4 o_);exact ⟨by omega,⟨q1,q2⟩,⟨by omega,q3,q5.1⟩,q5.2⟩
  ·constructor
   ·rintro ⟨_,_,⟨q,_⟩,_⟩
    rw [hE] at q;exact absurd q hr
   ·rintro ⟨⟨q,_⟩,_⟩
    exact absurd q hr
theorem qva (aa:qad P Q O=true):∀ t,(wide t∧allN (qc0 (grM P Q O)) t)↔qau P Q O t:=by
 refine TermM.ind (fun o n s l ih=>?_);unfold wide qau;rw [qgq,qgq,qgq];have hn:=fun hA=>qyc aa (.mk o n s l) hA
 constructor
 ·rintro ⟨⟨p1,p2⟩,p3,p4⟩
  have h1:∀ a∈l,qau P Q O a:=fun a ha=>(ih a ha).1 ⟨p2 a ha,p4 a ha⟩
  exact ⟨(hn (fun a ha=>((qam P Q O a).1 (h1 a ha)).1)).1 ⟨p1,p3⟩,h1⟩
 ·rintro ⟨p1,p2⟩
  have h1:=(hn (fun a ha=>((qam P Q O a).1 (p2 a ha)).1)).2 p1;exact ⟨⟨h1.1,fun a ha=>((ih a ha).2 (p2 a ha)).1⟩,h1.2,fun a ha=>((ih a ha).2 (p2 a ha)).2⟩
theorem qbl (t:TermM):qbx (grM P Q O) t↔qad P Q O=true∧(size t≤60∧depth t≤20)∧qau P Q O t:=by
 by_cases aa:qad P Q O=true
 ·rw [← qva aa t,qbx,LimT]
  exact ⟨fun h=>⟨aa,⟨h.1.1,h.1.2.1⟩,h.1.2.2,h.2⟩,fun h=>⟨⟨h.2.1.1,h.2.1.2,h.2.2.1⟩,h.2.2.2⟩⟩
 ·constructor
  ·rintro ⟨_,h⟩
   have h1:=((qbn _ t).1 h).1;have hg:grM P Q O=⟨[],[]⟩:=by unfold grM;rw [if_neg aa]
   rw [hg,qc0] at h1;split at h1
   ·simp only [varB,Bool.and_eq_true,decide_eq_true_eq,List.length_nil] at h1
    omega
   ·have:=h1.2.1.1
    simp only [List.length_nil] at this;omega
  ·intro h
   exact absurd h.1 aa
end
end formm

namespace formt
open mem sortp sorti sigm sigs sigb rowl trm terml termb termt termx gram gramn grami formlf formf
def qdp (P:List (List UInt8))(Q:List (Int×Int))(O:List OpM)(t:TermM):Prop:=qad P Q O=true∧(size t≤60∧depth t≤20)∧qau P Q O t
set_option maxRecDepth 50000 in
set_option maxHeartbeats 8000000 in
theorem qfe {N lo:Nat}(P:List (List UInt8))(Q:List (Int×Int))(O:List OpM)(va vb vc:Value)(t:TermM)(ve:Value)(w:World)(h:HasG w va vb vc P Q O)(ht:HasTs N lo w ve t.args)(hB:Bnd t)(hsz:sizes t.args≤1048576)(r:Bool)(hr:r=true↔qdp P Q O t):
  Calls Tryz.prog 37 #[.agg #[va,vb,vc],aggT t ve] w fun e w'=>e=.returned (.bool r)∧Below w.heap.size w w':=by
 obtain ⟨sb,aa⟩:∃ b,qad P Q O=b:=⟨_,rfl⟩;obtain ⟨fb,aj⟩:=x_ (qau P Q O t);have aq:=z_ (fun W (hW:Below w.heap.size w W)=>qkg P Q O va vb vc sb aa W (h.below n_ hW));have ak:=z_ (fun W (hW:Below w.heap.size w W)=>qnb t ve W (ht.below n_ hW) hsz);have al:Hid (sb=true→∀ W,Below w.heap.size w W→Calls Tryz.prog 84 #[.agg #[va,vb,vc],aggT t ve] W fun e w'=>e=.returned (.bool fb)∧Below W.heap.size W w'):=z_ (fun hs W hW=>qr7 P Q O (aa.trans hs) N va vb vc t ve W lo (h.below n_ hW) (ht.below n_ hW) hB hsz fb aj);obtain ⟨B,cb,rfl,_⟩:=HasR.shape ht rfl;obtain ⟨A1,c1,A2,c2,A3,c3,rfl,rfl,rfl,_⟩:=h.shape;have HR:Hid (r=true↔sb=true∧(size t≤60∧depth t≤20)∧fb=true):=z_ (by rw [hr,qdp,aa,aj]);unfold aggT at ak al ⊢;obtain ⟨q,hq⟩:=e_ (t.args.length);obtain ⟨tq,ab⟩:=e_ (t.op);obtain ⟨tn,ac⟩:=e_ (t.name);obtain ⟨ts,ad⟩:=e_ (t.sort);obtain ⟨m1,ae⟩:=e_ (P.length);obtain ⟨m2,af⟩:=e_ (Q.length);obtain ⟨m3,ag⟩:=e_ (O.length);obtain ⟨sm,am⟩:∃ p:Prop,p=(size t≤60∧depth t≤20):=⟨_,rfl⟩;rw [← hq,← ab,← ac,← ad,← ae,← af,← ag];rw [← hq,← ab,← ac,← ad,← am] at ak;rw [← hq,← ab,← ac,← ad,← ae,← af,← ag] at al;rw [← ae,← af,← ag] at aq;rw [← am] at HR;clear h ht hB hsz hr aa aj hq ab ac ad ae af ag am;obtain ⟨W,hW⟩:=e_ ((w.alloc (.cells #[.slice A1 m1 c1,.slice A2 m2 c2,.slice A3 m3 c3] 46)).alloc (.cells #[.int .i64 tq,.string (bstr tn),.int .i64 ts,.slice B q cb] 38));have au:Below w.heap.size w W:=by
  rw [hW];exact v_
 have av:Box34 w.heap.size (w.heap.size+1) (.slice A1 m1 c1) (.slice A2 m2 c2) (.slice A3 m3 c3) (.int .i64 tq) (.string (bstr tn)) (.int .i64 ts) (.slice B q cb) W:=by
  rw [hW];exact ⟨box3 (qbh _ _ _),box4 (qa5 _ _ _ (by simp))⟩
 have HX:=z_ av;have an:=z_ au;clear au av;go_enter Tryz.func37,Tryz.ntmps37
 go_wp2_with fail
 rw [← hW];clear hW;refine (aq.out _ an.out).mono ?_;rintro e w1 ⟨rfl,ao⟩;have ah:=z_ (an.out.trans (ao.mono an.out.size));have aw:=z_ (Box34.below HX.out ao);clear ao;cases sb with
 | false=>
  have HF:Hid (r=false):=z_ (by cases ap:r with
   | false=>rfl
   | true=>exact absurd (HR.out.1 ap).1 (by simp))
  go_wp2;go_ret;exact ⟨qa0 HF.out.symm,ah.out⟩
 | true=>
  obtain ⟨⟨x0,x1,x2⟩,y0,y1,y2,y3⟩:=aw.out;go_wp2_with fail
  refine (ak.out _ ah.out).mono ?_;rintro e w2 ⟨r2,rfl,ax,hb2⟩;have ai:=z_ (ah.out.trans (hb2.mono ah.out.size));have aA:=z_ (Box34.below aw.out hb2);have ay:=z_ ax;clear hb2 ax x0 x1 x2 y0 y1 y2 y3;cases r2 with
  | false=>
   have HF:Hid (r=false):=z_ (by cases ap:r with
    | false=>rfl
    | true=>exact absurd (ay.out.2 (HR.out.1 ap).2.1) (by simp))
   go_wp2;go_ret;exact ⟨qa0 HF.out.symm,ai.out⟩
  | true=>
   have HF:Hid (r=fb):=z_ (by
    rw [Bool.eq_iff_iff,HR.out]
    exact ⟨fun e=>e.2.2,fun e=>⟨by trivial,ay.out.1 (by trivial),e⟩⟩)
   obtain ⟨⟨x0,x1,x2⟩,y0,y1,y2,y3⟩:=aA.out;go_wp2_with fail
   refine (al.out (by trivial) _ ai.out).mono ?_;rintro e w3 ⟨rfl,az⟩;have aB:=z_ (ai.out.trans (az.mono ai.out.size));clear az x0 x1 x2 y0 y1 y2 y3;go_wp2;go_ret;exact ⟨qa0 HF.out.symm,aB.out⟩
end formt

namespace tsn
open mem split subs setm sortm sortp sorti rowl sigm sigs sigk trm terml termb termt termro termvr rowg gram gramo formnd formf formm tsa tsm tsi tsj tsk tsl
noncomputable def sortsT (U:List Nat)(O:List OpM)(t:TermM):Nat:=
 TermM.rec (motive_1:=fun _=>Nat) (motive_2:=fun _=>List Nat) (fun o _ s _ L=>if o=-1 then U.getD s.toNat 0 else sortsA U (O.getD o.toNat default).decls (O.getD o.toNat default).ass (O.getD o.toNat default).com L) [] (fun _ _ a l=>a::l) t
theorem qo2 (U:List Nat)(O:List OpM)(o:Int)(n:List UInt8)(s:Int)(l:List TermM):sortsT U O (.mk o n s l)=if o=-1 then U.getD s.toNat 0 else sortsA U (O.getD o.toNat default).decls (O.getD o.toNat default).ass (O.getD o.toNat default).com (l.map (sortsT U O)):=by
 have:∀ l:List TermM,(TermM.rec_1 (motive_1:=fun _=>Nat) (motive_2:=fun _=>List Nat) (fun o _ s _ L=>if o=-1 then U.getD s.toNat 0 else sortsA U (O.getD o.toNat default).decls (O.getD o.toNat default).ass (O.getD o.toNat default).com L) [] (fun _ _ a l=>a::l) l:List Nat)=l.map (sortsT U O):=by
  intro l;induction l with
  | nil=>rfl
  | cons a l ih=>rw [List.map_cons,← ih];rfl
 rw [← this];rfl
theorem qki (U:List Nat)(O:List OpM)(t:TermM):sortsT U O t=if t.op=-1 then U.getD t.sort.toNat 0 else sortsA U (O.getD t.op.toNat default).decls (O.getD t.op.toNat default).ass (O.getD t.op.toNat default).com (t.args.map (sortsT U O)):=by
 cases t with
 | mk o n s l=>exact qo2 U O o n s l
theorem qcr {_U:List Nat}{f:TermM→Nat}{l:List TermM}{n:Nat}(h:∀ a∈l,f a<2 ^ n)(i:Nat):(l.map f).getD i 0<2 ^ n:=by
 rw [List.getD_eq_getElem?_getD,List.getElem?_map];by_cases hi:i<l.length
 ·rw [List.getElem?_eq_getElem hi]
  exact h _ (List.getElem_mem hi)
 ·rw [List.getElem?_eq_none (Nat.le_of_not_lt hi)]
  exact Nat.two_pow_pos n
theorem qeg {U:List Nat}(hU:Lim U)(O:List OpM):∀ t,sortsT U O t<2 ^ U.length:=by
 refine TermM.ind (fun o n s l ih=>?_);rw [qo2];split
 ·exact hU.2 _
 ·exact qw2 hU _ _ _ (qcr (_U:=U) ih)
theorem qew {P:List (List UInt8)}{Q:List (Int×Int)}{O:List OpM}(ab:qad P Q O=true){t:TermM}(h:qbu P O t)(hv:t.op≠-1):
  t.op.toNat<O.length∧0≤t.op∧t.args.length≤7∧ar (O.getD t.op.toNat default)≤t.args.length∧(((O.getD t.op.toNat default).ass || (O.getD t.op.toNat default).com)=true→ar (O.getD t.op.toNat default)=2∧2≤t.args.length)∧((O.getD t.op.toNat default).ass=false→t.args.length=ar (O.getD t.op.toNat default)):=by
 unfold qbu at h;rw [if_neg hv] at h;obtain ⟨h1,_,_,h4⟩:=h;have hk:t.op.toNat<O.length:=o_;have ha:=qCe ab hk;have h3:ar (O.getD t.op.toNat default)≤3:=(qaf (qnf ab hk)).1;refine ⟨hk,h1.1,?_⟩;cases aa:(O.getD t.op.toNat default).ass with
 | true=>
  rw [aa,if_pos rfl] at h4;rw [aa] at ha;have h5:=ha rfl;exact ⟨h4.2,by omega,fun _=>⟨h5,h4.1⟩,fun e=>by cases e⟩
 | false=>
  rw [aa,if_neg (by simp)] at h4;rw [aa] at ha;exact ⟨by omega,by omega,fun hc=>⟨ha hc,by rw [h4,ha hc];exact Nat.le_refl _⟩,fun _=>h4⟩
theorem qCf (U:List Nat)(O:List OpM)(L:List TermM)(k:Nat)(h:k<L.length):(L.take (k+1)).map (sortsT U O)=(L.take k).map (sortsT U O)++[sortsT U O (L.getD k default)]:=by
 rw [List.take_succ_eq_append_getElem h,List.map_append];simp [List.getD,List.getElem?_eq_getElem h]
theorem qBf:(Tryz.prog.info? 176).map (fun i=>(i.zero,i.size,i.bytes))=some (some (.int .u16 0),1,2):=by kernel_rfl
abbrev SNod (x g o:Nat)(mm um:Option Nat)(Ao:Option Addr)(no co:Nat)(va:Value)(W w:World):Prop:=
 ((w.cell? ⟨x,0,none⟩=some (.map mm)∧w.cell? ⟨x,1,none⟩=some (.slice Ao no co)∧w.cell? ⟨x,2,none⟩=some (.map um))∧w.cell? ⟨g,o+3,none⟩=some va)∧Below W.heap.size W w
theorem SNod.of {x g o:Nat}{mm um:Option Nat}{Ao:Option Addr}{no co:Nat}{va:Value}{W w:World}(h:SNod x g o mm um Ao no co va W W)(hb:Below W.heap.size W w):SNod x g o mm um Ao no co va W w:=by
 have k:∀ {a:Addr} {v:Value},W.cell? a=some v→w.cell? a=some v:=fun {a v} h=>(hb.cell (p:=a) (l_ h)).trans h
 exact ⟨⟨⟨k h.1.1.1,k h.1.1.2.1,k h.1.1.2.2⟩,k h.1.2⟩,hb⟩
def NodC (P:List (List UInt8))(Q:List (Int×Int))(O:List OpM)(N:Nat):Prop:=∀ (mm um:Option Nat) (Ao:Option Addr) (no co:Nat) (t:TermM) (g o:Nat) (v:Value) (w:World) (lo:Nat),HasM w (.map mm) (.slice Ao no co) (grM P Q O)→MapU w (.map um) (clo P.length (prs Q))→
 w.cell? ⟨g,o,none⟩=some (.int .i64 t.op)→w.cell? ⟨g,o+2,none⟩=some (.int .i64 t.sort)→w.cell? ⟨g,o+3,none⟩=some v→HasTs N lo w v t.args→Bnd t→qau P Q O t→
 Calls Tryz.prog 189 #[.agg #[.map mm,.slice Ao no co,.map um],.pointer (some ⟨g,o,none⟩)] w fun e w'=>e=.returned (.int .u16 ((sortsT (clo P.length (prs Q)) O t:Nat):Int))∧Below w.heap.size w w'
theorem c87_ {p:Prop}(h:p:=by
 (try dsimp only);exact ae.out.of (by first|exact HB.out.drew|exact ao.out|exact ap.out _|exact az.out)
):p:=h
set_option maxRecDepth 50000 in
set_option maxHeartbeats 8000000 in
theorem qo3 (P:List (List UInt8))(Q:List (Int×Int))(O:List OpM)(ah:qad P Q O=true){N:Nat}(hS:∀ k,N=k+1→NodC P Q O k):NodC P Q O N:=by
 intro mm um Ao no co t g o v w lo hM aq t0 t2 t3 ht hB hF;have ak:=(qa9 ah).1;have ab:=qgx ak;have bH:=pow8 ab.1;have aD:=qc3 P.length (prs Q);obtain ⟨aa,ac,_⟩:=(qam P Q O t).1 hF;obtain ⟨B,cb,rfl,_⟩:=HasR.shape ht rfl;have aB:=(hM.e.len).1;rw [qBe ah] at aB;have hg:=l_ t0;simp only [] at hg;have au:=z_ (qki (clo P.length (prs Q)) O t);have aE:=qeg ab O t;obtain ⟨sv,aF⟩:=e_ (sortsT (clo P.length (prs Q)) O t);rw [← aF] at au aE ⊢;obtain ⟨W,hW⟩:=e_ (w.alloc (.cells #[.map mm,.slice Ao no co,.map um] 94));have af:=fr1_ hW;have hz:=fr3_ hW;have aG:SNod w.heap.size g o mm um Ao no co (.slice B t.args.length cb) W W:=by
  refine ⟨⟨?_,(af.cell (p:=⟨g,o+3,none⟩) hg).trans t3⟩,Below.refl _ _⟩;rw [hW];exact box3 (termt.qa5 _ _ _ rfl)
 have y0:=(af.cell (p:=⟨g,o,none⟩) hg).trans t0;have y2:=(af.cell (p:=⟨g,o+2,none⟩) hg).trans t2;have al:=z_ af;have ae:=z_ aG;have HZ:=z_ hz;have bm:=hB;obtain ⟨_,⟨q1,q2⟩,⟨q3,q4⟩⟩:=bm;by_cases hv:t.op=-1
 ·have bn:Hid (sv=(clo P.length (prs Q)).getD t.sort.toNat 0):=z_ (by rw [au.out,if_pos hv])
  unfold qbu at aa;rw [if_pos hv] at aa;have av:=z_ (fun W (hW:W.cell? ⟨g,o,none⟩=some (.int .i64 t.op))=>qca g o t.op W hW true (decide_eq_true hv))
  have aV:Hid (∀ q,(Instr.lookup 89 (.map um) (.int .i64 t.sort) false).run Tryz.prog (W.drewN q)=.ok (.int .u16 (sv:Int)) (W.drewN q)):=z_ (fun q=>by
   have:=(aq.below (af.trans ((qa3 (Below.refl W.heap.size W) q).mono af.size))).look (x:=t.sort) q3 q4;rw [this,bn.out];have e:t.sort=((t.sort.toNat:Nat):Int):=o_;rw [e,qgm]
   rfl)
  obtain ⟨to,aW⟩:=e_ (t.op);obtain ⟨ts,aX⟩:=e_ (t.sort);rw [← aW] at av y0;rw [← aX] at aV y2;have lk:=aV.out;obtain ⟨⟨z0,z1,z2⟩,z3⟩:=ae.out.1;clear hM aq t0 t2 t3 ht hB hF aa ac af aG aW aX hS au q1 q2 q3 q4 hv aF hz aB ak ah ab aD;go_enter Tryz.func189,Tryz.ntmps189
  go_wp2_with fail
  rw [← hW];clear hW;refine (av.out W y0).mono ?_;rintro e w1 ⟨rfl,rfl⟩;go_wp2_with fail
  go_quiet (fail)
  go_wp2;go_ret;exact ⟨rfl,qa3 al.out _⟩
 ·obtain ⟨hk,h0,h7,aH,aC,aY⟩:=qew ah aa hv
  have av:=z_ (fun W (hW:W.cell? ⟨g,o,none⟩=some (.int .i64 t.op))=>qca g o t.op W hW false (decide_eq_false hv));have am:Hid (sv=sortsA (clo P.length (prs Q)) (O.getD t.op.toNat default).decls (O.getD t.op.toNat default).ass (O.getD t.op.toNat default).com (t.args.map (sortsT (clo P.length (prs Q)) O))):=z_ (by rw [au.out,if_neg hv]);obtain ⟨k,aI⟩:∃ k:Nat,t.op=(k:Int):=⟨t.op.toNat,by omega⟩;rw [aI,Int.toNat_natCast] at hk aH aC aY am;obtain ⟨ge,oe,A2,c2,hA,bI,hcs,aJ,_,_⟩:=qn3 hM.e (j:=k) (by rw [aB];exact hk);rw [show ((grM P Q O).E.getD k default).1=O.getD k default from qA2 ah hk] at aJ hcs
  have aZ:Hid (∀ (x:OpE),x=(grM P Q O).E.getD k default→∀ (va:Value) W',Below w.heap.size w W'→Has W' va (u16s (t.args.map (sortsT (clo P.length (prs Q)) O)))→Calls Tryz.prog 225 #[.agg #[.map mm,.slice Ao no co,.map um],aggE x.1.name A2 (O.getD k default).decls.length c2 x.1.ass x.1.com x.1.unt x.2.1 x.2.2.1 x.2.2.2.1 x.2.2.2.2.1 x.2.2.2.2.2.1 x.2.2.2.2.2.2,va] W' fun e w'=>e=.returned (.int .u16 (sv:Int))∧Below W'.heap.size W' w'):=z_ (fun x hx va W' ad bo=>by
   have e1:x.1=O.getD k default:=by rw [hx];exact qA2 ah hk
   have a2:(t.args.map (sortsT (clo P.length (prs Q)) O)).length=t.args.length:=List.length_map _;have:=qiy (clo P.length (prs Q)) ab mm um Ao no co x.1.name A2 (O.getD k default).decls.length c2 x.1.ass x.1.com x.1.unt x.2.1 x.2.2.1 x.2.2.2.1 x.2.2.2.2.1 x.2.2.2.2.2.1 x.2.2.2.2.2.2 (O.getD k default).decls (t.args.map (sortsT (clo P.length (prs Q)) O)) (ar (O.getD k default)) (by rw [aD];exact qz6 ah hk) (fun h=>by rw [e1] at h;rw [a2];exact ⟨(aC h).1,(aC h).2,h7⟩) (by rw [a2];exact aH) (qcr (_U:=[]) (fun a _=>qeg ab O a)) va W' (aq.below ad) (aJ.below qa7 n_ ad) bo;rw [e1,← am.out] at this;rw [e1]
   exact this)
  have bp:Hid (∀ kn,N=kn+1→∀ (x:TermM) (gx ox:Nat) (vx:Value) (W':World),Below w.heap.size w W'→W'.cell? ⟨gx,ox,none⟩=some (.int .i64 x.op)→W'.cell? ⟨gx,ox+2,none⟩=some (.int .i64 x.sort)→W'.cell? ⟨gx,ox+3,none⟩=some vx→HasTs kn lo W' vx x.args→Bnd x→qau P Q O x→Calls Tryz.prog 189 #[.agg #[.map mm,.slice Ao no co,.map um],.pointer (some ⟨gx,ox,none⟩)] W' fun e w'=>e=.returned (.int .u16 ((sortsT (clo P.length (prs Q)) O x:Nat):Int))∧Below W'.heap.size W' w'):=z_ (fun kn e x gx ox vx W' ad k0 k2 k3 hx bq br=>hS kn e mm um Ao no co x gx ox vx W' lo (hM.below ad) (aq.below ad) k0 k2 k3 hx bq br);obtain ⟨x,hx⟩:=e_ ((grM P Q O).E.getD k default);have ag:=z_ (aZ.out x hx);rw [← hx] at hcs;obtain ⟨i0,hi,a6,a7,a8⟩:=info_parts qBf;have ba:=z_ ht;have bb:=z_ ac;have bc:=z_ (qCf (clo P.length (prs Q)) O t.args);have bs:=z_ (qeg ab O);obtain ⟨L,hL⟩:=e_ (t.args);obtain ⟨q,hq⟩:=e_ (t.args.length);have aK:Hid (q=L.length):=z_ (by rw [hq,hL]);rw [← hL] at bb ag bc;rw [← hq,← hL] at ba;rw [← hq] at ae h7;rw [aI] at y0 av;obtain ⟨dl,bd⟩:=e_ ((O.getD k default).decls.length);rw [← bd] at ag hcs;obtain ⟨⟨nm,ds,a,b,u⟩,i,s0,s1,s2,s3,s4⟩:=x;simp only [] at ag;subst hA;have kW:∀ {a:Addr} {v:Value},w.cell? a=some v→W.cell? a=some v:=fun {a v} h=>(af.cell (p:=a) (l_ h)).trans h
  have e0:W.cell? ⟨ge,oe+k*11,none⟩=some (.string (bstr nm)):=kW (hcs 0 o_);have e1:W.cell? ⟨ge,oe+k*11+1,none⟩=some (.slice A2 dl c2):=kW (hcs 1 o_);have e2:W.cell? ⟨ge,oe+k*11+2,none⟩=some (.bool a):=kW (hcs 2 o_);have e3:W.cell? ⟨ge,oe+k*11+3,none⟩=some (.bool b):=kW (hcs 3 o_);have e4:W.cell? ⟨ge,oe+k*11+4,none⟩=some (.int .i64 u):=kW (hcs 4 o_);have e5:W.cell? ⟨ge,oe+k*11+5,none⟩=some (.int .i64 (i:Int)):=kW (hcs 5 o_);have e6:W.cell? ⟨ge,oe+k*11+6,none⟩=some (.int .i64 (s0:Int)):=kW (hcs 6 o_);have e7:W.cell? ⟨ge,oe+k*11+7,none⟩=some (.int .u16 (s1:Int)):=kW (hcs 7 o_);have e8:W.cell? ⟨ge,oe+k*11+8,none⟩=some (.int .u16 (s2:Int)):=kW (hcs 8 o_);have e9:W.cell? ⟨ge,oe+k*11+9,none⟩=some (.int .u16 (s3:Int)):=kW (hcs 9 o_);have aw:W.cell? ⟨ge,oe+k*11+10,none⟩=some (.int .u16 (s4:Int)):=kW (hcs 10 o_);have HE:=z_ (And.intro y0 (And.intro e0 (And.intro e1 (And.intro e2 (And.intro e3 (And.intro e4 (And.intro e5 (And.intro e6 (And.intro e7 (And.intro e8 (And.intro e9 aw)))))))))));have bt:k<no:=o_;clear hM aq t0 t2 t3 ht hB hF aa ac af aG hS au am aZ q1 q2 q3 q4 hv aF hz aB ak ah ab aD aI hcs aJ hx hL hq bd hk h0 aH aC aY kW y2 e0 e1 e2 e3 e4 e5 e6 e7 e8 e9 aw;obtain ⟨⟨z0,z1,z2⟩,z3⟩:=ae.out.1;go_enter Tryz.func189,Tryz.ntmps189
  go_wp2_with fail
  rw [← hW];clear hW;refine (av.out W y0).mono ?_;rintro e w1 ⟨rfl,rfl⟩;go_wp2_with (at_make;refine wpList_make_own _ rfl _ _ 269 rfl W.heap.size 176 i0 (.int .u16 0) 1 Tryz.underlying269 hi a6 a7 _ _ _ q rfl rfl rfl (by rw [a8];omega) (by unfold maxLen;omega) n_ ?_)
  intro w1 hown ai;have be:Below W.heap.size W w1:=(Below.refl W.heap.size W).grown ai n_ (by intro k hk;cases hk);have aL:=z_ be;have ax:=z_ hown;clear ai hown be;have bu:=(ae.out.of aL.out).1.2;clear z0 z1 z2 z3 y0;go_wp2;clear bu;go_loopw [5,6,27] (fun v5 _ bv wr=>∃ p:Nat,bv=.int .i64 p∧p≤q∧Hid (wr.ownsRow W.heap.size 176 1 v5 p (u16s ((L.take p).map (sortsT (clo P.length (prs Q)) O))))∧Hid (Below W.heap.size W wr)) (fun _ _ i _=>q-(intOf i).toNat)
  case atStart=>exact ⟨0,rfl,y_,z_ (by simpa [u16s] using ax.out),aL⟩
  case round=>
   obtain ⟨p,rfl,hp,HO,HB⟩:=hrel;clear ax aL;have hsz:=HB.out.size;by_cases hlt:p<q
   ·obtain ⟨kn,gx,ox,B2,cx,bw,rfl,_,aM,f0,_,f2,f3,aN,aO⟩:=qaj ba.out hlt
    have bf:=al.out.trans (HB.out.mono al.out.size);have bx:=z_ bf;have ay:L.getD p default∈L:=by rw [List.getD_eq_getElem?_getD,List.getElem?_eq_getElem (by have:=aK.out;omega)];exact List.getElem_mem _
    have aP:=bb.out _ ay;have an:=z_ (bc.out p (by have:=aK.out;omega));have bg:=bs.out (L.getD p default);obtain ⟨x,hx⟩:=e_ (L.getD p default);rw [← hx] at f0 f2 f3 aN aO aP an bg;have bh:Hid (∀ W',Below w.heap.size w W'→Calls Tryz.prog 189 #[.agg #[.map mm,.slice (some ⟨ge,oe,none⟩) no co,.map um],.pointer (some ⟨gx,ox+p*4,none⟩)] W' fun e w'=>e=.returned (.int .u16 ((sortsT (clo P.length (prs Q)) O x:Nat):Int))∧Below W'.heap.size W' w'):=z_ (fun W' ad=>bp.out kn bw x gx (ox+p*4) (.slice B2 x.args.length cx) W' ad ((ad.cell (p:=⟨gx,ox+p*4,none⟩) aM).trans f0) ((ad.cell (p:=⟨gx,ox+p*4+2,none⟩) aM).trans f2) ((ad.cell (p:=⟨gx,ox+p*4+3,none⟩) aM).trans f3) (aN.below n_ ad) aO aP);obtain ⟨xv,bi⟩:=e_ (sortsT (clo P.length (prs Q)) O x);rw [← bi] at bh an bg;have bJ:=z_ (ae.out.of HB.out);have i1:(0:Int)≤(p:Int):=o_;have i2:(p:Int)<(q:Int):=o_;clear f0 f2 f3 aN aO aP ay hx bi bf;go_wp2_with fail
    refine wp_region_noPanic ?_;refine wp_region_held_drew (S:=(SNod w.heap.size g o mm um (some ⟨ge,oe,none⟩) no co (.slice (some ⟨gx,ox,none⟩) q cb) W)) k_ ?_ (fun aQ=>?_)
    ·exact ae.out.of (by first|exact HB.out.drew|exact ao.out|exact ap.out _|exact az.out)
    refine t_k 0 ?_;refine t_k 1 ?_;refine t_k 2 ?_;refine t_k 3 ?_;refine t_k 4 ?_;refine t_k 5 ?_;refine t_k 6 ?_;refine t_k 7 ?_;refine r_d [8] ?_;refine c_s (fun K hK=>?_) ?_
    ·(go_simp;refine (bh.out _ bx.out.drew).mono ?_;rintro e w2 ⟨rfl,hb2⟩;have ao:Hid (Below W.heap.size W w2):=z_ (HB.out.drew.trans (hb2.mono hsz));have bj:=z_ (qa2 HO.out (show Below wr.heap.size wr w2 from b_.drew.trans hb2));clear hb2;have ap:Hid (∀ ob,Below W.heap.size W (w2.alloc ob)):=z_ (fun ob=>ao.out.alloc ao.out.size ob);have bz:Hid (∀ ob,Below w2.heap.size w2 (w2.alloc ob)):=z_ (fun ob=>b_.alloc n_ ob);have bk:Hid (∀ ob,W.heap.size≤(w2.alloc ob).heap.size):=z_ (fun ob=>(ap.out ob).size);(try dsimp only))
     refine k_o hK ?_ (fun aR=>?_)
     ·exact c87_
     clear hK K aQ;refine r_d [9] ?_;refine c_s (fun K hK=>?_) ?_
     ·go_simp
      refine k_o hK ?_ (fun aS=>?_)
      ·exact c87_
      clear hK K aR;refine r_d [10] ?_;refine c_s (fun K hK=>?_) ?_
      ·(refine qbb (by rfl) _ _ _ (by rfl) W.heap.size 176 i0 (.int .u16 0) 1 2 Tryz.underlying269 hi a6 a7 a8 rfl o_ _ p _ (by rfl) (qa2 bj.out (bz.out _)) ⟨w2.heap.size,0,none⟩ 1 1 [.int .u16 (xv:Int)] (by rfl) o_ (by rfl) (qfg _ _ _) (qgc _ rfl) (by unfold maxLen;omega) o_ (bk.out _) ?_;intro g4 aT w5 aj aA bA aU;have az:Hid (Below W.heap.size W w5):=z_ ((ap.out _).grown aA (bk.out _) (qb4 bj.out));clear aA bA aU)
       refine k_o hK ?_ (fun bB=>?_)
       ·exact c87_
       clear hK K aS;refine t_k 11 ?_;refine wpAnyH_done k_ ?_ _;refine NoPanic.normal ?_;have bC:Hid (w5.ownsRow W.heap.size 176 1 (.slice (some ⟨g4,0,none⟩) (p+1) aT) (p+1) (u16s ((L.take (p+1)).map (sortsT (clo P.length (prs Q)) O)))):=z_ (by rw [an.out,qw3];exact aj);clear aj;go_wp2;go_roundw
       case rel=>exact ⟨p+1,by go_num,by omega,bC,az⟩
       case measure=>simp [intOf];omega
      exact a_l
     exact a_l
    exact a_l
   ·obtain rfl:p=q:=o_
    have bD:Hid ((L.take p).map (sortsT (clo P.length (prs Q)) O)=L.map (sortsT (clo P.length (prs Q)) O)):=z_ (by rw [aK.out,List.take_length]);have ho:=HO.out;rw [bD.out] at ho;obtain ⟨Ar,cr,rfl,_⟩:=qae ho;have bE:=z_ (Has.of_own ho);have bl:=z_ (fun (t:BoxC (Below wr.heap.size wr))=>ag.out (.slice Ar p cr) t.W (al.out.trans ((HB.out.trans (t.h.mono hsz)).mono al.out.size)) (bE.out.below n_ t.h));obtain ⟨⟨⟨x0,x1,x2⟩,_⟩,_⟩:=ae.out.of HB.out;obtain ⟨y0,e0,e1,e2,e3,e4,e5,e6,e7,e8,e9,aw⟩:=HE.out
    have kr:∀ {g y:Nat} {v:Value},W.cell? ⟨g,y,none⟩=some v→∀ t:BoxC (Below wr.heap.size wr),t.W.cell? ⟨g,y,none⟩=some v:=fun {g y v} h t=>by
     have h1:=(HB.out.cell (p:=⟨g,y,none⟩) (l_ h)).trans h;exact t.cell h1 (l_ h1)
    have kx:∀ {g y:Nat} {v:Value},wr.cell? ⟨g,y,none⟩=some v→∀ t:BoxC (Below wr.heap.size wr),t.W.cell? ⟨g,y,none⟩=some v:=fun {g y v} h t=>t.cell h (l_ h)
    have r0:=kx x0;have r1:=kx x1;have r2:=kx x2;have ry:=kr y0;have g0:=kr e0;have g1:=kr e1;have g2:=kr e2;have g3:=kr e3;have g4:=kr e4;have g5:=kr e5;have g6:=kr e6;have g7:=kr e7;have g8:=kr e8;have g9:=kr e9;have bF:=kr aw;have nb:Nonempty (BoxC (Below wr.heap.size wr)):=⟨⟨_,Below.refl _ _⟩⟩;have i1:(0:Int)≤(k:Int):=o_;have i2:(k:Int)<(no:Int):=o_;have bG:Hid (∀ t:BoxC (Below wr.heap.size wr),Below w.heap.size w t.W):=z_ (fun t=>al.out.trans ((HB.out.trans (t.h.mono hsz)).mono al.out.size));clear kr kx x0 x1 x2 y0 e0 e1 e2 e3 e4 e5 e6 e7 e8 e9 aw ho;go_wp2_with fail
    refine qa1 (C:=Below wr.heap.size wr) k_ k_ b_.drew ?_;repeat (go_big_quiet_step ((go_at_call 225;exact (bl.out _).mono (fun _ _ h=>⟨h.1,BoxC.step _ h.2⟩))))
    refine wpQuiet_nil ?_;rintro w5 ⟨t5,rfl⟩;clear r0 r1 r2 ry g0 g1 g2 g3 g4 g5 g6 g7 g8 g9 bF nb bl;go_wp2;go_ret;exact ⟨rfl,bG.out t5⟩
theorem qs2 (P:List (List UInt8))(Q:List (Int×Int))(O:List OpM)(aa:qad P Q O=true):∀ n,NodC P Q O n
 | 0=>qo3 P Q O aa (fun k h=>by omega)
 | n+1=>qo3 P Q O aa (fun k h=>Nat.succ.inj h ▸ qs2 P Q O aa n)
end tsn

namespace tso
open mem dec split strl subs sortn setm sets sortm sortp sorti sortg rowl sigm sigs sigk trm trmv terml termb termt termx termro termvr rowg gram gramo gramk gramc gramn gramt formnd formk formr formf formt formm frm grami tsa tsm tsi tsj tsk tsl tsn
noncomputable def sortsZ (P:List (List UInt8))(Q:List (Int×Int))(O:List OpM)(t:TermM)(z:Bool):Nat:=if z=true then sortsT (clo P.length (prs Q)) O t else 0
set_option maxRecDepth 50000 in
set_option maxHeartbeats 8000000 in
theorem qpq {N lo:Nat}(P:List (List UInt8))(Q:List (Int×Int))(O:List OpM)(mm um:Option Nat)(A:Option Addr)(no c:Nat)(t:TermM)(ve:Value)(w:World)(hM:HasM w (.map mm) (.slice A no c) (grM P Q O))(hU:MapU w (.map um) (ordU P Q))(ht:HasTs N lo w ve t.args)(hB:Bnd t)(hsz:sizes t.args≤1048576)(z:Bool)(hz:z=true↔qdp P Q O t):
  Calls Tryz.prog 152 #[.agg #[.map mm,.slice A no c,.map um],aggT t ve] w fun e w'=>e=.returned (.int .u16 ((sortsZ P Q O t z:Nat):Int))∧Below w.heap.size w w':=by
 have al:=(hM.e.len).1
 have ae:Hid (∀ W,Below w.heap.size w W→Calls Tryz.prog 46 #[.agg #[.map mm,.slice A no c],aggT t ve] W fun e w'=>e=.returned (.bool z)∧Below W.heap.size W w'):=z_ (fun W hW=>by
  refine (qjv (grM P Q O) (qp2 P Q O) (.map mm) A no c t ve W (hM.below hW) al (ht.below n_ hW) hB hsz).mono ?_;rintro e w' ⟨r,rfl,hr,hb⟩;have:r=z:=by
   rw [Bool.eq_iff_iff,hr,hz,qdp];exact qbl t
  exact ⟨by rw [this],hb⟩)
 obtain ⟨B,cb,rfl,_⟩:=HasR.shape ht rfl
 have af:Hid (z=true→∀ W (g o:Nat),Below w.heap.size w W→W.cell? ⟨g,o,none⟩=some (.int .i64 t.op)→W.cell? ⟨g,o+2,none⟩=some (.int .i64 t.sort)→W.cell? ⟨g,o+3,none⟩=some (.slice B t.args.length cb)→Calls Tryz.prog 189 #[.agg #[.map mm,.slice A no c,.map um],.pointer (some ⟨g,o,none⟩)] W fun e w'=>e=.returned (.int .u16 ((sortsT (clo P.length (prs Q)) O t:Nat):Int))∧Below W.heap.size W w'):=z_ (fun aq W g o hW h0 h2 h3=>by
  have hs:=hz.1 aq;have ag:=(qa9 hs.1).1
  exact qs2 P Q O hs.1 N mm um A no c t g o _ W lo (hM.below hW) ((ql5 ag) ▸ (hU.below hW)) h0 h2 h3 (ht.below n_ hW) hB hs.2.2)
 have aa:Hid (z=true→sortsZ P Q O t z=sortsT (clo P.length (prs Q)) O t):=z_ (fun h=>by rw [sortsZ,if_pos h]);have ab:Hid (z=false→sortsZ P Q O t z=0):=z_ (fun h=>by rw [sortsZ,if_neg (by rw [h];simp)]);obtain ⟨sz,ac⟩:=e_ (sortsZ P Q O t z);rw [← ac] at aa ab ⊢;obtain ⟨sv,am⟩:=e_ (sortsT (clo P.length (prs Q)) O t);rw [← am] at aa af;unfold aggT at ae ⊢;obtain ⟨q,hq⟩:=e_ (t.args.length);obtain ⟨to,ah⟩:=e_ (t.op);obtain ⟨tn,an⟩:=e_ (t.name);obtain ⟨ts,ai⟩:=e_ (t.sort);rw [← hq,← ah,← an,← ai] at ae ⊢;rw [← hq,← ah,← ai] at af;clear hM hU ht hB hsz hz hq ah an ai al ac am;obtain ⟨W,hW⟩:=e_ ((w.alloc (.cells #[.map mm,.slice A no c,.map um] 94)).alloc (.cells #[.int .i64 to,.string (bstr tn),.int .i64 ts,.slice B q cb] 38));have ao:Below w.heap.size w W:=by
  rw [hW];exact v_
 have ap:Box34 w.heap.size (w.heap.size+1) (.map mm) (.slice A no c) (.map um) (.int .i64 to) (.string (bstr tn)) (.int .i64 ts) (.slice B q cb) W:=by
  rw [hW];exact ⟨tsl.box3 (tsl.qbh _ _ _),box4 (termt.qa5 _ _ _ (by simp))⟩
 have HX:=z_ ap;have aj:=z_ ao;obtain ⟨⟨x0,x1,x2⟩,y0,y1,y2,y3⟩:=ap;clear ao;go_enter Tryz.func152,Tryz.ntmps152
 go_wp2_with fail
 rw [← hW];clear hW;go_wp2_with fail
 refine (ae.out _ aj.out).mono ?_;rintro e w1 ⟨rfl,ak⟩;have ad:=z_ (aj.out.trans (ak.mono aj.out.size));have au:=z_ (Box34.below HX.out ak);clear ak x0 x1 x2 y0 y1 y2 y3;obtain ⟨⟨x0,x1,x2⟩,y0,y1,y2,y3⟩:=au.out;cases z with
 | false=>
  have HQ:Hid (sz=0):=z_ (ab.out (by trivial));go_wp2;go_ret;exact ⟨qaa (by rw [HQ.out];rfl),ad.out⟩
 | true=>
  have HQ:Hid (sz=sv):=z_ (aa.out (by trivial));go_wp2_with fail
  refine (af.out (by trivial) w1 (w.heap.size+1) 0 ad.out y0 y2 y3).mono ?_;rintro e w2 ⟨rfl,hb2⟩;have av:=z_ (ad.out.trans (hb2.mono ad.out.size));clear hb2;go_wp2;go_ret;exact ⟨qaa (by rw [HQ.out]),av.out⟩
end tso
end Go.Proofs.YtiilamngcoegiaaGreat
