/- parts -/
import Derived.Test.YtiilamngcoegiaaGreatQPk06
namespace Go.Proofs.YtiilamngcoegiaaGreat
open Go.ChangeShapes Go.WideShapes Go.ChangeAt Go.RowKit
variable {O:List sigm.OpM}{P:List (List UInt8)}{Q:List (Int×Int)}{lo k n:Nat}{x:Int}
namespace sigl
open mem subs setm sets sortm sortp sorti sortu sortg rowl sigm sigs sigi sigj
theorem qcb (l:List UInt8)(D:List (List Int×Int))(hD:1≤D.length)(v:Value)(a b:Bool)(u:Int)(w:World)(h:HasD lo w v D):
  Calls Tryz.prog 141 #[.agg #[.string (bstr l),v,.bool a,.bool b,.int .i64 u]] w fun e w'=>e=.returned (.int .i64 ((hd0 D).1.length:Int))∧Below w.heap.size w w':=by
 obtain ⟨A,c,rfl,h⟩:=HasR.shape h rfl;obtain ⟨g,o,A2,c2,rfl,_,hg,aa,ab,hh,_,_⟩:=qbb h (j:=0) o_;have hd:D.getD 0 default=hd0 D:=rfl;rw [hd,show o+0*2=o by omega] at aa;rw [hd] at hh;have hl:=hh.has.len.2;have ac:=h.len.2.1;obtain ⟨m,hm⟩:=e_ ((hd0 D).1.length);rw [← hm] at aa hl ⊢;obtain ⟨n,hn⟩:=e_ (D.length);rw [← hn] at hD ac ⊢;clear h hh hd hm ab hn;go_enter Tryz.func141,Tryz.ntmps141
 go_wp2;go_ret;exact ⟨rfl,b_.alloc n_ _⟩
theorem qi2{κ:Int→Nat}{l m:List Int}{y:Int}:kD κ (l,x)=kD κ (m,y)↔l.length=m.length∧(∀ q,q<l.length→κ (l.getD q 0)=κ (m.getD q 0))∧κ x=κ y:=by
 simp only [kD,Prod.mk.injEq];constructor
 ·rintro ⟨h1,h2⟩
  have hl:l.length=m.length:=by have:=congrArg List.length h1;simpa using this
  refine ⟨hl,fun q hq=>?_,h2⟩;have h3:(l.map κ)[q]? =(m.map κ)[q]? := by rw [h1]
  simp only [List.getElem?_map,List.getElem?_eq_getElem hq,List.getElem?_eq_getElem (show q<m.length by omega),Option.map_some,Option.some.injEq] at h3;simpa [List.getD,List.getElem?_eq_getElem hq,List.getElem?_eq_getElem (show q<m.length by omega)] using h3
 ·rintro ⟨hl,h1,h2⟩
  refine ⟨List.ext_getElem (by simpa using hl) (fun q aa ab=>?_),h2⟩;have hq:q<l.length:=by simpa using aa
  have:=h1 q hq;simpa [List.getD,List.getElem?_eq_getElem hq,List.getElem?_eq_getElem (show q<m.length by omega)] using this
theorem qB4:inI x 0 ((n:Int)-1)=inN n x:=by
 simp only [inI,inN,decide_eq_decide];omega
theorem j14_{p:Prop}(h:p:=by
 go_enter Tryz.func133,Tryz.ntmps133
 go_wp2;go_ret;exact ⟨qa0 ac.out.symm,(b_.alloc n_ _).alloc (by simp) _⟩
):p:=h
theorem c58_{p:Prop}(h:p:=by
 have ac:Hid (r=false):=z_ (by rw [← HR.out,qaf];have:=HN.out;simp;omega);clear hD;exact j14_
):p:=h
theorem j15_{p:Prop}(h:p:=by
 go_wp2;go_ret;exact ⟨qa0 ac.out.symm,by first|exact ag.out|exact qa3 ag.out _⟩
):p:=h
theorem c59_{p:Prop}(h:p:=by
 go_wp2;go_quiet ((go_at_call 128;exact (aT.out _).mono (fun _ _ h=>⟨h.1,_,h.2.symm⟩)))
 exact j15_
):p:=h
theorem c60_{p:Prop}(h:p:=by
 go_wp2;go_ret;exact ⟨qa0 ac.out.symm,(aa.out.trans (ab.mono aa.out.size)).alloc (by have:=aa.out.size;omega) _⟩
):p:=h
set_option maxRecDepth 20000 in
set_option maxHeartbeats 8000000 in
theorem qpb (P:List (List UInt8))(Q:List (Int×Int))(aU:okS P Q=true)(va vb:Value)(C:Option Addr)(oc cc:Nat)(nm:List UInt8)(D:List (List Int×Int))(vd:Value)(a b:Bool)(u:Int)(r:Bool)(hr:qaf P.length (κK P.length Q) D=r)(w:World)(hS:HasS w va vb P Q)(hD:HasD lo w vd D):
  Calls Tryz.prog 133 #[.agg #[va,vb,.slice C oc cc],.agg #[.string (bstr nm),vd,.bool a,.bool b,.int .i64 u]] w fun e w'=>e=.returned (.bool r)∧Below w.heap.size w w':=by
 obtain ⟨p1,p2,p3,p4,p5⟩:=qb2 aU;have aV:=z_ (fun W (hW:Below w.heap.size w W)=>qd1 P Q p1 p2 o_ p3 (qB3 aU) va vb W (hS.below n_ hW));have aW:(kin P.length (prs Q)).length=P.length:=qir _ _;obtain ⟨n,hn⟩:=e_ (P.length);have bP:=z_ hn;obtain ⟨A,ca,B,cb,rfl,rfl,bQ,bR,_⟩:=hS.shape;rw [← hn] at hr aV aW p1 p2 p3 ⊢;obtain ⟨K,hK⟩:=e_ (kin n (prs Q));have hκ:∀ x,κK n Q x=K.getD x.toNat 0:=fun x=>by rw [κK,hK]
 rw [← hK] at aV aW;obtain ⟨κ,bg⟩:=e_ (κK n Q);rw [← bg] at hr hκ;have am:=z_ hκ;clear hS aU p3 p4 p5 hn hK bg hκ;obtain ⟨dn,aX⟩:=e_ (D.length);obtain ⟨E,ce,rfl,hD⟩:=HasR.shape hD aX.symm;have bS:=hD.len.2.1;have HN:=z_ aX;have HR:=z_ hr;clear aX hr;by_cases bT:dn<1
 ·exact c58_
 by_cases bU:4<dn
 ·exact c58_
 obtain ⟨g,o,A2,c2,rfl,_,hg,al,aq,hh,aE,aF⟩:=qbb hD (j:=0) o_;have hd:D.getD 0 default=hd0 D:=rfl;rw [hd,show o+0*2=o by omega] at al aq;rw [hd] at hh aE aF;have bh:=hh.has.len.2;obtain ⟨L0,aY⟩:=e_ ((hd0 D).1);obtain ⟨x0,aG⟩:=e_ ((hd0 D).2);have aI:Hid (hd0 D=(L0,x0)):=z_ (by rw [aY,aG]);rw [← aY] at al hh bh;rw [← aG] at aq;obtain ⟨m,hm⟩:=e_ (L0.length);rw [← hm] at al hh bh;have HM:=z_ hm;have bq:=z_ hh.has;have aZ:=z_ hD;clear hd aY aG hh aE aF hm hD;by_cases bV:3<m
 ·have ac:Hid (r=false):=z_ (by
   rw [← HR.out];refine qdw (j:=0) Ac_ (.inl ?_);have e:D.getD 0 default=hd0 D:=rfl;rw [e,aI.out,okD];have:=HM.out
   simp;omega)
  exact j14_
 go_enter Tryz.func133,Tryz.ntmps133
 go_wp2_with fail
 refine (aV.out _ ((b_.alloc n_ _).alloc (by simp) _)).mono ?_;rintro e w1 ⟨kv,rfl,bi,aQ⟩;obtain ⟨KA,kc,rfl,bj⟩:=(Has.of_own bi).shape (n:=n) (by rw [qau,qag];exact aW);have ah:Below w.heap.size w w1:=((b_.alloc n_ _).alloc (by simp) _).trans (aQ.mono (by simp;omega));have e1:w1.cell? ⟨w.heap.size+1,1,none⟩=some (.slice (some ⟨g,o,none⟩) dn ce):=by rw [aQ.cell (p:=⟨w.heap.size+1,1,none⟩) (by simp)];simp
 have br:w.heap.size+1<w1.heap.size:=by have:=aQ.size;simp at this;omega
 have bs:=z_ bj;clear bi aQ bj;rw [← ah.cell (p:=⟨g,o,none⟩) hg] at al;rw [← ah.cell (p:=⟨g,o+1,none⟩) hg] at aq;go_wp2_with fail
 generalize aJ:w1.alloc (.cells #[.slice A2 m c2,.int .i64 x0] 199)=W3
 have an:Below w1.heap.size w1 W3:=by rw [← aJ];exact b_.alloc n_ _
 have bW:W3.heap.size=w1.heap.size+1:=by rw [← aJ];simp
 have ao:=ah.trans (an.mono ah.size);have f0:W3.cell? ⟨w1.heap.size,0,none⟩=some (.slice A2 m c2):=by rw [← aJ];simp
 have f1:W3.cell? ⟨w1.heap.size,1,none⟩=some (.int .i64 x0):=by rw [← aJ];simp
 have E1:W3.cell? ⟨w.heap.size+1,1,none⟩=some (.slice (some ⟨g,o,none⟩) dn ce):=(an.cell (by exact br)).trans e1;have bt:=z_ (bs.out.below n_ an);have bu:=z_ (bq.out.below n_ ao);have bv:=z_ (aZ.out.below qa6 n_ ao);have aa:=z_ ao;clear al aq e1 aJ an ao ah;go_loopw [7] (fun i wr=>∃ k:Nat,k≤dn∧i=.int .i64 k∧Hid (∀ j,j<k→okD n (D.getD j default)=true∧kD κ (D.getD j default)=kD κ (hd0 D))∧Below W3.heap.size W3 wr) (fun i _=>dn-(intOf i).toNat)
 case atStart=>exact ⟨0,y_,rfl,z_ (fun j hj=>by omega),Below.refl _ _⟩
 case round=>
  obtain ⟨k,hk,rfl,ax,ab⟩:=hrel;have a6:=ab.size;have bX:w1.heap.size<wr.heap.size:=o_;have bw:w.heap.size+1<wr.heap.size:=o_;have bx:wr.cell? ⟨w.heap.size+1,1,none⟩=some (.slice (some ⟨g,o,none⟩) dn ce):=(ab.cell (by show w.heap.size+1<W3.heap.size;omega)).trans E1;have bz:wr.cell? ⟨w1.heap.size,0,none⟩=some (.slice A2 m c2):=(ab.cell (by show w1.heap.size<W3.heap.size;omega)).trans f0;have bA:wr.cell? ⟨w1.heap.size,1,none⟩=some (.int .i64 x0):=(ab.cell (by show w1.heap.size<W3.heap.size;omega)).trans f1;by_cases bB:k<dn
  ·obtain ⟨g',o',A3,c3,au,_,bk,al,aq,hh,aE,aF⟩:=qbb bv.out bB
   simp only [Option.some.injEq,Addr.mk.injEq,and_true] at au;obtain ⟨rfl,rfl⟩:=au;rw [← ab.cell (p:=⟨g,o+k*2,none⟩) bk] at al;rw [← ab.cell (p:=⟨g,o+k*2+1,none⟩) bk] at aq;have ae:Hid (okD n (D.getD k default)=false∨¬ kD κ (D.getD k default)=kD κ (hd0 D)→r=false):=z_ (fun hb=>by rw [← HR.out];exact qdw Ac_ hb)
   have ai:Hid (okD n (D.getD k default)=true→kD κ (D.getD k default)=kD κ (hd0 D)→∀ j,j<k+1→okD n (D.getD j default)=true∧kD κ (D.getD j default)=kD κ (hd0 D)):=z_ (fun h1 h2 j hj=>by
    by_cases e:j=k
    ·subst e;exact ⟨h1,h2⟩
    ·exact ax.out j o_)
   have aK:Hid (k=0∨okD n (L0,x0)=true):=z_ (by
    by_cases e:k=0
    ·exact .inl e
    ·have:=(ax.out 0 o_).1
     have e2:D.getD 0 default=hd0 D:=rfl;rw [e2,aI.out] at this
     exact .inr this)
   have ay:Hid (k=0→D.getD k default=(L0,x0)):=z_ (fun e=>by subst e;rw [← aI.out];rfl);rw [aI.out] at ae ai;obtain ⟨⟨l,x⟩,hd⟩:∃ d,d=D.getD k default:=⟨_,rfl⟩;rw [← hd] at al aq hh aE aF ae ai ay;have bC:=hh.has.len.2;obtain ⟨m2,a7⟩:=e_ (l.length);rw [← a7] at al hh bC;have av:=z_ a7;have bD:=z_ hh.has;have HI:=z_ (And.intro aE aF);clear hh aE aF hd a7;by_cases hlen:m2=m
   ·subst hlen
    have aL:=z_ (fun (y:Int) r hr W=>qcc y 0 ((n:Int)-1) r hr W);simp only [qB4] at aL;cases aH:inN n x with
    | false=>
     have ac:=z_ (ae.out (.inl (by simp [okD,aH])));have a8:=z_ (fun W=>aL.out x false aH W);clear aH;go_wp2_with fail
     refine (a8.out _).mono ?_;rintro e w2 ⟨rfl,rfl⟩;exact c60_
    | true=>
     have a8:=z_ (fun W=>aL.out x true aH W);have az:=z_ aH;clear aH;go_wp2_with fail
     refine (a8.out _).mono ?_;rintro e w2 ⟨rfl,rfl⟩;go_wp2_with fail
     generalize aM:wr.alloc (.cells #[.slice A3 m2 c3,.int .i64 x] 199)=W8
     have ad:Below W3.heap.size W3 W8:=by rw [← aM];exact ab.alloc a6 _
     have bY:W8.heap.size=wr.heap.size+1:=by rw [← aM];simp
     have h0:W8.cell? ⟨wr.heap.size,0,none⟩=some (.slice A3 m2 c3):=by rw [← aM];simp
     have h1:W8.cell? ⟨wr.heap.size,1,none⟩=some (.int .i64 x):=by rw [← aM];simp
     have F0:W8.cell? ⟨w1.heap.size,0,none⟩=some (.slice A2 m2 c2):=(ad.cell (by show w1.heap.size<W3.heap.size;omega)).trans f0;have F1:W8.cell? ⟨w1.heap.size,1,none⟩=some (.int .i64 x0):=(ad.cell (by show w1.heap.size<W3.heap.size;omega)).trans f1;have aR:=z_ (bt.out.below n_ ad);have bE:=z_ (bu.out.below n_ ad);have bF:=z_ (bD.out.below n_ ad);have aA:=z_ ad;have bl:W3.heap.size≤W8.heap.size:=ad.size;clear aM ad bx bz bA al aq;obtain ⟨wo,rfl⟩:∃ wo,wo=wr:=⟨wr,rfl⟩;go_loopw [9] (fun i wr=>∃ q:Nat,q≤m2∧i=.int .i64 q∧Hid (∀ j,j<q→inN n (l.getD j 0)=true∧κ (l.getD j 0)=κ (L0.getD j 0))∧Below W8.heap.size W8 wr) (fun i _=>m2-(intOf i).toNat)
     case atStart=>exact ⟨0,y_,rfl,z_ (fun j hj=>by omega),Below.refl _ _⟩
     case round=>
      obtain ⟨q,hq,rfl,ba,af⟩:=hrel;have bZ:wr.cell? ⟨wo.heap.size,0,none⟩=some (.slice A3 m2 c3):=(af.cell (by show wo.heap.size<W8.heap.size;omega)).trans h0;have b0:wr.cell? ⟨wo.heap.size,1,none⟩=some (.int .i64 x):=(af.cell (by show wo.heap.size<W8.heap.size;omega)).trans h1;have b1:wr.cell? ⟨w1.heap.size,0,none⟩=some (.slice A2 m2 c2):=(af.cell (by show w1.heap.size<W8.heap.size;omega)).trans F0;have b2:wr.cell? ⟨w1.heap.size,1,none⟩=some (.int .i64 x0):=(af.cell (by show w1.heap.size<W8.heap.size;omega)).trans F1;have ag:Hid (Below w.heap.size w wr):=z_ ((aa.out.trans (aA.out.mono aa.out.size)).trans (af.mono (by have:=aa.out.size;omega)));by_cases bm:q<m2
      ·obtain ⟨gl,ol,rfl,bG,bn⟩:=bF.out.cellAt bm
       obtain ⟨gm,om,rfl,bH,hcm⟩:=bE.out.cellAt bm;rw [qak l q (by have:=av.out;omega),← af.cell (p:=⟨gl,ol+q,none⟩) bG] at bn;rw [qak L0 q Af_,← af.cell (p:=⟨gm,om+q,none⟩) bH] at hcm
       have bb:Hid (inN n (l.getD q 0)=true→inN n (L0.getD q 0)=true):=z_ (fun hy=>by
        by_cases e:k=0
        ·have e2:=ay.out e
         rw [Prod.mk.injEq] at e2;rw [← e2.1];exact hy
        ·have h3:=aK.out
         rcases h3 with h3|h3
         ·exact absurd h3 e
         ·exact (qaj h3).2.2 q (by have:=HM.out;show q<L0.length;omega))
       have aS:Hid (inN n (l.getD q 0)=false∨¬ κ (l.getD q 0)=κ (L0.getD q 0)→r=false):=z_ (fun hb=>by
        rcases hb with hb|hb
        ·exact ae.out (.inl (quv (by have:=av.out;omega) hb))
        ·exact ae.out (.inr (fun e=>hb ((qi2.1 e).2.1 q (by have:=av.out;omega)))))
       have aB:Hid (inN n (l.getD q 0)=true→κ (l.getD q 0)=κ (L0.getD q 0)→∀ j,j<q+1→inN n (l.getD j 0)=true∧κ (l.getD j 0)=κ (L0.getD j 0)):=z_ (fun a1 a2 j hj=>by
        by_cases e:j=q
        ·subst e;exact ⟨a1,a2⟩
        ·exact ba.out j o_)
       obtain ⟨y,hy⟩:=e_ (l.getD q 0);obtain ⟨z,hz⟩:=e_ (L0.getD q 0);rw [← hy] at bn bb aS aB;rw [← hz] at hcm bb aS aB;clear hy hz;cases aw:inN n y with
       | false=>
        have ac:=z_ (aS.out (.inl aw));have aT:=z_ (fun W=>aL.out y false aw W);clear aw;exact c59_
       | true=>
        have aT:=z_ (fun W=>aL.out y true aw W);have bo:=bb.out aw;have HY:=z_ aw;have bc:0≤y∧y<n:=by simpa [inN] using aw
        have bd:0≤z∧z<n:=by simpa [inN] using bo
        obtain ⟨yn,rfl⟩:∃ yn:Nat,y=(yn:Int):=⟨y.toNat,by omega⟩;obtain ⟨zn,rfl⟩:∃ zn:Nat,z=(zn:Int):=⟨z.toNat,by omega⟩;obtain ⟨gk,ok,rfl,aN,aO⟩:=aR.out.cellAt (j:=yn) o_;obtain ⟨bI,bJ,au,_,aP⟩:=aR.out.cellAt (j:=zn) o_;simp only [Option.some.injEq,Addr.mk.injEq,and_true] at au;obtain ⟨rfl,rfl⟩:=au;rw [qak _ yn Ao_,qav,← af.cell (p:=⟨gk,ok+yn,none⟩) aN] at aO;rw [qak _ zn Ao_,qav,← af.cell (p:=⟨gk,ok+zn,none⟩) aN] at aP;have aC:Hid (κ (yn:Int)=K.getD yn 0):=z_ (by rw [am.out];rfl);have aD:Hid (κ (zn:Int)=K.getD zn 0):=z_ (by rw [am.out];rfl);obtain ⟨ky,aj⟩:=e_ (K.getD yn 0);obtain ⟨kz,ak⟩:=e_ (K.getD zn 0);rw [← aj] at aO aC;rw [← ak] at aP aD;have bK:yn<n:=o_;have bL:zn<n:=o_;clear aw bo bc bd aj ak;by_cases he:ky=kz
        ·subst he
         have HP:=z_ (aB.out HY.out (by rw [aC.out,aD.out]));go_wp2;go_quiet ((go_at_call 128;exact (aT.out _).mono (fun _ _ h=>⟨h.1,_,h.2.symm⟩)))
         go_wp2;go_roundw
         case rel=>exact ⟨q+1,by omega,by go_num,HP,by first|exact af|exact qa3 af _⟩
         case measure=>simp [intOf];omega
        ·have bp:((ky:Int) != (kz:Int))=true:=by simp;omega
         have ac:=z_ (aS.out (.inr (by rw [aC.out,aD.out];exact he)));clear he;exact c59_
      ·obtain rfl:q=m2:=o_
       have aG:inN n x0=true:=by
        by_cases e:k=0
        ·have e2:=ay.out e
         rw [Prod.mk.injEq] at e2;rw [← e2.2];exact az.out
        ·rcases aK.out with h3|h3
         ·exact absurd h3 e
         ·exact (qaj h3).2.1
       have bM:0≤x∧x<n:=by simpa [inN] using az.out
       have be:0≤x0∧x0<n:=by simpa [inN] using aG
       have bf:Hid (okD n (l,x)=true):=z_ (qqu (by have:=av.out;omega) az.out (fun j hj=>(ba.out j (by have:=av.out;omega)).1));have bN:Hid (κ x=κ x0→kD κ (l,x)=kD κ (L0,x0)):=z_ (fun e=>qi2.2 ⟨by have:=av.out;have:=HM.out;omega,fun j hj=>(ba.out j (by have:=av.out;omega)).2,e⟩);have bO:Hid (¬ κ x=κ x0→r=false):=z_ (fun hb=>ae.out (.inr (fun e=>hb (qi2.1 e).2.2)));obtain ⟨xn,rfl⟩:∃ xn:Nat,x=(xn:Int):=⟨x.toNat,by omega⟩;obtain ⟨ap,rfl⟩:∃ ap:Nat,x0=(ap:Int):=⟨x0.toNat,by omega⟩;obtain ⟨gk,ok,rfl,aN,aO⟩:=aR.out.cellAt (j:=xn) o_;obtain ⟨bI,bJ,au,_,aP⟩:=aR.out.cellAt (j:=ap) o_;simp only [Option.some.injEq,Addr.mk.injEq,and_true] at au;obtain ⟨rfl,rfl⟩:=au;rw [qak _ xn Ao_,qav,← af.cell (p:=⟨gk,ok+xn,none⟩) aN] at aO;rw [qak _ ap Ao_,qav,← af.cell (p:=⟨gk,ok+ap,none⟩) aN] at aP;have aC:Hid (κ (xn:Int)=K.getD xn 0):=z_ (by rw [am.out];rfl);have aD:Hid (κ (ap:Int)=K.getD ap 0):=z_ (by rw [am.out];rfl);obtain ⟨ky,aj⟩:=e_ (K.getD xn 0);obtain ⟨kz,ak⟩:=e_ (K.getD ap 0);rw [← aj] at aO aC;rw [← ak] at aP aD;have bK:xn<n:=o_;have bL:ap<n:=o_;clear aG bM be aj ak;by_cases he:ky=kz
       ·subst he
        have HG:=z_ (ai.out bf.out (bN.out (by rw [aC.out,aD.out])));go_wp2;go_quiet (fail)
        go_wp2;go_roundw
        case rel=>exact ⟨k+1,by omega,by go_num,(by rw [aI.out];exact HG),by first|exact aA.out.trans (af.mono bl)|exact qa3 (aA.out.trans (af.mono bl)) _⟩
        case measure=>simp [intOf];omega
       ·have bp:((ky:Int) != (kz:Int))=true:=by simp;omega
        have ac:=z_ (bO.out (by rw [aC.out,aD.out];exact he));clear he;go_wp2;go_quiet (fail)
        exact j15_
   ·have ac:=z_ (ae.out (.inr (fun e=>hlen (by have:=(qi2.1 e).1;have:=HM.out;have:=av.out;omega))))
    have bp:((m2:Int) != (m:Int))=true:=by simp;omega
    clear hlen;exact c60_
  ·obtain rfl:k=dn:=o_
   have ac:Hid (r=true):=z_ (by rw [← HR.out];exact qhg Ac_ Ac_ (fun j hj=>ax.out j Ac_));go_wp2;go_ret;exact ⟨qa0 ac.out.symm,aa.out.trans (ab.mono aa.out.size)⟩
end sigl

namespace siga
set_option maxRecDepth 100000
open mem subs setm sets sortm sortp sorti sortu sortg rowl sigm sigs sigl
def axP (κ:Int→Nat)(a b:Bool)(u:Int)(L:List Int)(x0:Int)(m eL:Nat)(ex:Int):Bool:=
 ((!a&&!b&&decide (u=0)) || (decide (L.length=2)&&decide (κ (L.getD 0 0)=κ (L.getD 1 0))&&((!a&&decide (u=0)) || decide (κ (L.getD 0 0)=κ x0))))&&(decide (u=0) || (decide (0≤u∧u≤m)&&decide (eL=0)&&decide (κ ex=κ x0)))
theorem qCl (κ:Int→Nat)(O:List OpM)(o:OpM):axOk κ O o=axP κ o.ass o.com o.unt (hd0 o.decls).1 (hd0 o.decls).2 O.length (hd0 (qc7 O o).decls).1.length (hd0 (qc7 O o).decls).2:=rfl
theorem j23_{p:Prop}(h:p:=by
 have aI:((f5:Int)==(f0:Int))=false:=by simp;omega
 have ad:Hid (r=false):=z_ (by rw [← af.out,aq.out,aE.out,bf.out];simp [bd.out.1,h5]);clear h5;go_wp2;go_ret;exact ⟨qa0 ad.out.symm,av⟩
):p:=h
theorem j24_{p:Prop}(h:p:=by
 have ad:=z_ (cp.out aw);have aU:=z_ (fun W=>bH.out false aw W);clear aw;go_wp2_with fail
 refine (aU.out _).mono ?_;rintro e w2 ⟨rfl,rfl⟩;go_wp2;go_ret;exact ⟨qa0 ad.out.symm,ag⟩
):p:=h
theorem j25_{p:Prop}(h:p:=by
 have aI:((aO:Int)==0)=false:=by simp;omega
 have ad:Hid (r=false):=z_ (by rw [← af.out,aq.out];simp [bd.out.1,aQ]);clear aQ;go_wp2;go_ret;exact ⟨qa0 ad.out.symm,av⟩
):p:=h
theorem j26_{p:Prop}(h:p:=by
 subst h5;have ad:Hid (r=true):=z_ (by rw [← af.out,aq.out,aE.out,bf.out];simp [ab,bd.out.2]);go_wp2;go_ret;exact ⟨qa0 ad.out.symm,av⟩
):p:=h
theorem j27_{p:Prop}(h:p:=by
 go_wp2;go_quiet (fail)
 go_wp2;go_ret;exact ⟨qa0 ad.out.symm,by first|exact qa3 (ac.out.alloc o_ _) _|exact (ac.out.alloc o_ _)⟩
):p:=h
theorem j28_{p:Prop}(h:p:=by
 have aI:((ln:Int) != 2)=true:=by simp;omega
 have ad:=z_ (cq.out aH);clear aH;go_wp2;go_ret;exact ⟨qa0 ad.out.symm,ag⟩
):p:=h
theorem c90_{p:Prop}(h:p:=by
 go_enter Tryz.func134,Tryz.ntmps134
 go_wp2_with fail
 refine (co.out _ ((b_.alloc n_ _).alloc (by simp) _)).mono ?_;rintro e w1 ⟨rfl,ay⟩;have ag:Below w.heap.size w w1:=((b_.alloc n_ _).alloc (by simp) _).trans (ay.mono (by simp;omega));have aG:w.heap.size+1<w1.heap.size:=by have:=ay.size;simp at this;omega
 have aT:w.heap.size<w1.heap.size:=o_;have k0:w1.heap[w.heap.size]? =some (.cells #[.slice A n ca,.slice B Q.length cb,.slice (some ⟨g,o,none⟩) m cc] 46 (0,0)):=by rw [ay.block _ (by simp;omega),Below.heap_alloc _ _ _ (by simp)];exact qa5 _ _ _ rfl
 have k1:w1.heap[w.heap.size+1]? =some (.cells #[.string (bstr nm),.slice A2 dn c2,.bool false,.bool bb,.int .i64 u] 124 (0,0)):=by rw [b2.out,ay.block _ (by simp)];exact qa5 _ _ _ (by simp)
 rw [b2.out] at k1;have s0:w1.cell? ⟨w.heap.size,0,none⟩=some (.slice A n ca):=h_ w1 _ 0 _ _ _ k0;have s1:w1.cell? ⟨w.heap.size,1,none⟩=some (.slice B Q.length cb):=h_ w1 _ 1 _ _ _ k0;have s2:w1.cell? ⟨w.heap.size,2,none⟩=some (.slice (some ⟨g,o,none⟩) m cc):=h_ w1 _ 2 _ _ _ k0;have o1:w1.cell? ⟨w.heap.size+1,1,none⟩=some (.slice A2 dn c2):=h_ w1 _ 1 _ _ _ k1;have o2:w1.cell? ⟨w.heap.size+1,2,none⟩=some (.bool false):=h_ w1 _ 2 _ _ _ k1;have o4:w1.cell? ⟨w.heap.size+1,4,none⟩=some (.int .i64 u):=h_ w1 _ 4 _ _ _ k1;clear ay k0 k1;by_cases aH:¬ ln=2
 ·exact j28_
 obtain rfl:ln=2:=Decidable.not_not.1 aH;clear aH;cases aw:inI u 0 (m:Int) with
 | false=>
  exact j24_
 | true=>
  have aU:=z_ (fun W=>bH.out true aw W);have bh:=z_ aw;clear aw;go_wp2_with fail
  refine (aU.out _).mono ?_;rintro e w2 ⟨rfl,rfl⟩;go_wp2_with fail
  refine (bI.out _ ag).mono ?_;rintro e w2 ⟨kv,rfl,bi,ai⟩;obtain ⟨KA,kc,rfl,az⟩:=(Has.of_own bi).shape (n:=n) (by rw [qau,qag];exact bJ);have aj:=ag.trans (ai.mono ag.size);have bj:w.heap.size+1<w2.heap.size:=w_ aG ai.size;have t2:w2.cell? ⟨w.heap.size,2,none⟩=some (.slice (some ⟨g,o,none⟩) m cc):=(ai.cell (by exact aT)).trans s2;have q1:w2.cell? ⟨w.heap.size+1,1,none⟩=some (.slice A2 dn c2):=(ai.cell (by exact aG)).trans o1;have q2:w2.cell? ⟨w.heap.size+1,2,none⟩=some (.bool false):=(ai.cell (by exact aG)).trans o2;have q4:w2.cell? ⟨w.heap.size+1,4,none⟩=some (.int .i64 u):=(ai.cell (by exact aG)).trans o4;have bk:HasD 0 w2 (.slice A2 dn c2) D:=b9.out.below qa6 n_ aj;obtain ⟨gd,od,A3,c3,rfl,_,cz,d0,d1,aA,_,_⟩:=qbb bk (j:=0) o_;clear bk;have ak:D.getD 0 default=(L,x0):=aS.out;rw [ak,show od+0*2=od by omega] at d0 d1;rw [ak] at aA;have ab:L.length=2:=b8.out.symm;rw [show ((L,x0):List Int×Int).1.length=2 from ab] at d0 aA;obtain ⟨gl,ol,rfl,cA,al⟩:=aA.has.cellAt (j:=0) o_;obtain ⟨cB,cC,ae,_,am⟩:=aA.has.cellAt (j:=1) o_;simp only [Option.some.injEq,Addr.mk.injEq,and_true] at ae;obtain ⟨rfl,rfl⟩:=ae;rw [qak _ 0 (by show 0<L.length;omega),Nat.add_zero] at al;rw [qak _ 1 (by show 1<L.length;omega)] at am;have r0:=ax.out.2.2 0 o_;have r1:=ax.out.2.2 1 o_;have r2:=ax.out.2.1;have af:=z_ HR.out;unfold axP at af;obtain ⟨y0,aJ⟩:=e_ (L.getD 0 0);obtain ⟨y1,aK⟩:=e_ (L.getD 1 0);rw [show ((L,x0):List Int×Int).1.getD 0 0=y0 from aJ.symm] at al;rw [show ((L,x0):List Int×Int).1.getD 1 0=y1 from aK.symm] at am;rw [← aJ,← aK] at af;rw [← aJ] at r0;rw [← aK] at r1;rw [show ((L,x0):List Int×Int).2=x0 from rfl] at d1;have bN:0≤y0∧y0<n:=by simpa [inN] using r0
  have bO:0≤y1∧y1<n:=by simpa [inN] using r1
  have bl:0≤x0∧x0<n:=by simpa [inN] using r2
  obtain ⟨z0,rfl⟩:∃ z:Nat,y0=(z:Int):=⟨y0.toNat,by omega⟩;obtain ⟨z1,rfl⟩:∃ z:Nat,y1=(z:Int):=⟨y1.toNat,by omega⟩;obtain ⟨zx,aL⟩:∃ z:Nat,x0=(z:Int):=⟨x0.toNat,by omega⟩;rw [aL] at d1 bl;obtain ⟨gk,ok,rfl,bP,aV⟩:=az.cellAt (j:=z0) o_;obtain ⟨bm,bn,ae,_,aW⟩:=az.cellAt (j:=z1) o_;simp only [Option.some.injEq,Addr.mk.injEq,and_true] at ae;obtain ⟨rfl,rfl⟩:=ae;obtain ⟨bm,bn,ae,_,aX⟩:=az.cellAt (j:=zx) o_;simp only [Option.some.injEq,Addr.mk.injEq,and_true] at ae;obtain ⟨rfl,rfl⟩:=ae;rw [qak _ z0 Ao_,qav] at aV;rw [qak _ z1 Ao_,qav] at aW;rw [qak _ zx Ao_,qav] at aX;have bQ:=z_ az;have bR:Hid (κ (z0:Int)=K.getD z0 0):=z_ (by rw [ah.out];rfl);have bS:Hid (κ (z1:Int)=K.getD z1 0):=z_ (by rw [ah.out];rfl);have bT:Hid (κ x0=K.getD zx 0):=z_ (by rw [ah.out,aL];rfl);rw [bR.out,bS.out,bT.out] at af;obtain ⟨f0,bo⟩:=e_ (K.getD z0 0);obtain ⟨f1,bp⟩:=e_ (K.getD z1 0);obtain ⟨fx,aY⟩:=e_ (K.getD zx 0);rw [← bo] at aV af;rw [← bp] at aW af;rw [← aY] at aX af;have l0:z0<n:=o_;have l1:z1<n:=o_;have lx:zx<n:=o_;have cD:=z_ aY;have cE:=z_ aL;clear bo bp aY r0 r1 r2 bN bO bl aJ aK az bi ai aA ak s0 s1 s2 o1 o2 o4 aL;have ac:=z_ aj;by_cases aZ:¬ f0=f1
  ·have aI:((f0:Int) != (f1:Int))=true:=by simp;omega
   have ad:Hid (r=false):=z_ (by rw [← af.out];simp [ab,aZ,ct.out]);exact j27_
  obtain rfl:f0=f1:=Decidable.not_not.1 aZ;clear aZ;by_cases aR:u=0
  ·have ad:Hid (r=true):=z_ (by rw [← af.out];simp [ab,aR])
   subst aR;exact j27_
  have cF:0<u:=by have:=bh.out;simp [inI] at this;omega
  by_cases a6:¬ f0=fx
  ·have aI:((f0:Int) != (fx:Int))=true:=by simp;omega
   have ad:Hid (r=false):=z_ (by rw [← af.out];simp [ab,a6,aR]);exact j27_
  obtain rfl:f0=fx:=Decidable.not_not.1 a6;clear a6;have cG:u≤m:=by have:=bh.out;simp [inI] at this;omega
  obtain ⟨k,rfl⟩:∃ k:Nat,u=(k:Int)+1:=⟨(u-1).toNat,by omega⟩;have a7:k<m:=o_;have bU:((k:Int)+1==0)=false:=by simp;omega
  obtain ⟨g5,o5,A5,c5,ae,_,aB,e0,e1,e2,e3,e4,aC,_,_⟩:=qcm (bK.out _ aj) a7;simp only [Option.some.injEq,Addr.mk.injEq,and_true] at ae;obtain ⟨rfl,rfl⟩:=ae;have HU:=b4.out k a7 rfl;have aM:=z_ (qap (b3.out k a7));have aN:=z_ (And.intro b6.out b7.out);rw [HU] at aN;obtain ⟨⟨bV,D5,a5,b5,u5⟩,bq⟩:∃ d,d=O.getD k default:=⟨_,rfl⟩;rw [← bq] at e0 e1 e2 e3 e4 aC aM aN;have an:=z_ (fun W (hW:Below w2.heap.size w2 W)=>qcb bV D5 aM.out.1 _ a5 b5 u5 W (aC.below qa6 n_ hW));have aD:=z_ aC;have a8:=aC.len.2.1;have bW:1≤D5.length:=aM.out.1;obtain ⟨ba,ao⟩:=e_ (D5.length);have br:w2.cell? ⟨g,o+k*5+1,none⟩=some (.slice A5 ba c5):=by rw [ao];exact e1
  rw [show D5.length=ba from ao.symm] at aD a8 an bW;have bc:=z_ (qaj aM.out.2.2.2);obtain ⟨aO,ap⟩:=e_ ((hd0 D5).1.length);obtain ⟨x5,aP⟩:=e_ ((hd0 D5).2);have aq:Hid (eL=aO):=z_ (by rw [ap];exact aN.out.1);have aE:Hid (ex=x5):=z_ (by rw [aP];exact aN.out.2);have bs:inN n x5=true:=by rw [aP];exact bc.out.2.1
  rw [← ap] at an;have bX:=z_ aP;have bY:0≤x5∧x5<n:=by simpa [inN] using bs
  clear bq aC ao e1 bs ap aP HU;go_wp2;go_quiet (fail)
  generalize bt:((w2.alloc (.cells #[.slice (some ⟨gl,ol,none⟩) 2 c3,.int .i64 (zx:Int)] 199)).drewN nq)=W8
  have aa:Below w2.heap.size w2 W8:=by rw [← bt];exact qa3 (b_.alloc n_ _) _
  have T2:W8.cell? ⟨w.heap.size,2,none⟩=some (.slice (some ⟨g,o,none⟩) m cc):=(aa.cell (by show w.heap.size<w2.heap.size;omega)).trans t2;have Q2:W8.cell? ⟨w.heap.size+1,2,none⟩=some (.bool false):=(aa.cell (by exact bj)).trans q2;have Q4:W8.cell? ⟨w.heap.size+1,4,none⟩=some (.int .i64 ((k:Int)+1)):=(aa.cell (by exact bj)).trans q4;have E0:W8.cell? ⟨g,o+k*5,none⟩=_:=(aa.cell (by exact aB)).trans e0;have E1:W8.cell? ⟨g,o+k*5+1,none⟩=_:=(aa.cell (by exact aB)).trans br;have E2:W8.cell? ⟨g,o+k*5+2,none⟩=_:=(aa.cell (by exact aB)).trans e2;have E3:W8.cell? ⟨g,o+k*5+3,none⟩=_:=(aa.cell (by exact aB)).trans e3;have E4:W8.cell? ⟨g,o+k*5+4,none⟩=_:=(aa.cell (by exact aB)).trans e4;clear bt t2 q1 q2 q4 e0 br e2 e3 e4 bD bC bE bF bG d0 d1 al am aV aW aX;have bu:¬ (k:Int)+1=0:=o_;have bv:0≤(k:Int)+1∧(k:Int)+1≤m:=o_;have bd:=z_ (And.intro bu bv);clear bu bv;go_wp2_with fail
  refine (an.out _ (aa.alloc aa.size _)).mono ?_;rintro e w3 ⟨rfl,be⟩;have au:Below w2.heap.size w2 w3:=(aa.alloc aa.size _).trans (be.mono An_);have av:=ac.out.trans (au.mono ac.out.size);have y1:w3.cell? ⟨W8.heap.size,1,none⟩=some (.slice A5 ba c5):=by rw [be.cell (p:=⟨W8.heap.size,1,none⟩) (by simp)];simp
  clear be;by_cases aQ:¬ aO=0
  ·exact j25_
  obtain rfl:aO=0:=Decidable.not_not.1 aQ;clear aQ;obtain ⟨gz,oz,A6,c6,rfl,_,cH,bZ,b0,_,_,_⟩:=qbb (aD.out.below qa6 n_ au) (j:=0) o_;have aF:(D5.getD 0 default).2=x5:=bX.out.symm;rw [aF,show oz+0*2=oz by omega] at b0;rw [show oz+0*2=oz by omega] at bZ;obtain ⟨z5,rfl⟩:∃ z:Nat,x5=(z:Int):=⟨x5.toNat,by omega⟩;obtain ⟨bm,bn,ae,_,bw⟩:=bQ.out.cellAt (j:=z5) o_;simp only [Option.some.injEq,Addr.mk.injEq,and_true] at ae;obtain ⟨rfl,rfl⟩:=ae;rw [qak _ z5 Ao_,qav,← au.cell (p:=⟨gk,ok+z5,none⟩) bP] at bw;have bf:Hid (κ (z5:Int)=K.getD z5 0):=z_ (by rw [ah.out];rfl);obtain ⟨f5,bx⟩:=e_ (K.getD z5 0);rw [← bx] at bw bf;have l5:z5<n:=o_;clear bx aF;by_cases h5:f5=f0
  ·exact j26_
  ·exact j23_
):p:=h
theorem c91_{p:Prop}(h:p:=by
 exact j27_
):p:=h
set_option maxRecDepth 100000 in
set_option maxHeartbeats 8000000 in
theorem qo9 (P:List (List UInt8))(Q:List (Int×Int))(cd:okS P Q=true)(O:List OpM)(hO:∀ o∈O,qaf P.length (κK P.length Q) o.decls=true)(va vb vc:Value)(i:Nat)(hi:i<O.length)(r:Bool)(hr:axOk (κK P.length Q) O (O.getD i default)=r)(w:World)(h:HasG w va vb vc P Q O):
  Calls Tryz.prog 134 #[.agg #[va,vb,vc],.int .i64 (i:Int)] w fun e w'=>e=.returned (.bool r)∧Below w.heap.size w w':=by
 obtain ⟨p1,p2,p3,p4,p5⟩:=qb2 cd;have bI:=z_ (fun W (hW:Below w.heap.size w W)=>qd1 P Q p1 p2 o_ p3 (qB3 cd) va vb W (h.below n_ hW).s);have bJ:(kin P.length (prs Q)).length=P.length:=qir _ _;obtain ⟨A,ca,B,cb,C,cc,rfl,rfl,rfl,cI,cu,cJ,h'⟩:=h.shape;have bK:=z_ (fun W (hW:Below w.heap.size w W)=>(h'.below n_ hW).o);obtain ⟨n,hn⟩:=e_ (P.length);rw [← hn] at hr bI bJ hO cI ⊢;obtain ⟨K,hK⟩:=e_ (kin n (prs Q));have hκ:∀ x,κK n Q x=K.getD x.toNat 0:=fun x=>by rw [κK,hK]
 rw [← hK] at bI bJ;obtain ⟨κ,cv⟩:=e_ (κK n Q);rw [← cv] at hr hκ hO;have ah:=z_ hκ;obtain ⟨m,hm⟩:=e_ (O.length);rw [← hm] at cJ hi bK ⊢;have cK:=z_ hm;have b3:Hid (∀ k,k<m→qaf n κ (O.getD k default).decls=true):=z_ (fun k hk=>hO _ (by rw [List.getD_eq_getElem?_getD,List.getElem?_eq_getElem o_];exact List.getElem_mem _));clear h h' cd p1 p2 p3 p4 p5 hn hK cv hκ hm hO;obtain ⟨g,o,A2,c2,rfl,_,hg,ce,cf,cg,ch,ci,hh,cw,bg⟩:=qcm (bK.out w b_) hi;have cj:=z_ (qap (b3.out i hi));have b4:Hid (∀ k,k<m→(O.getD i default).unt=(k:Int)+1→qc7 O (O.getD i default)=O.getD k default):=z_ (fun k _ e=>by rw [qc7,e];congr 1);rw [qCl] at hr;obtain ⟨eL,ck⟩:=e_ ((hd0 (qc7 O (O.getD i default)).decls).1.length);obtain ⟨ex,cl⟩:=e_ ((hd0 (qc7 O (O.getD i default)).decls).2);rw [← ck,← cl,← cK.out] at hr;have b6:=z_ ck;have b7:=z_ cl;clear ck cl;obtain ⟨⟨nm,D,a,b,u⟩,hd⟩:∃ d,d=O.getD i default:=⟨_,rfl⟩;rw [← hd] at ce cf cg ch ci hh cw bg cj hr b4 b6 b7;have cx:-9223372036854775808≤u:=bg.1;have cy:=bg.2;have cm:=hr;obtain ⟨L,hL⟩:=e_ ((hd0 D).1);obtain ⟨x0,cn⟩:=e_ ((hd0 D).2);have aS:Hid (hd0 D=(L,x0)):=z_ (by rw [hL,cn]);rw [← hL,← cn] at cm;have HR:=z_ cm;have bz:=cj.out.1;have bA:=z_ (fun W (hW:Below w.heap.size w W)=>qcb nm D bz _ a b u W (hh.below qa6 n_ hW));rw [aS.out] at bA
 have ax:Hid (L.length≤3∧inN n x0=true∧∀ k,k<L.length→inN n (L.getD k 0)=true):=z_ (by
  have:=cj.out.2.2.2;have e:=aS.out;have h2:okD n (L,x0)=true:=by rw [← e];exact this
  exact qaj h2)
 obtain ⟨ln,bB⟩:=e_ (L.length);have b8:=z_ bB;obtain ⟨dn,bL⟩:=e_ (D.length);have bC:w.cell? ⟨g,o+i*5+1,none⟩=some (.slice A2 dn c2):=by rw [bL];exact cf
 have co:Hid (∀ W,Below w.heap.size w W→Calls Tryz.prog 141 #[.agg #[.string (bstr nm),.slice A2 dn c2,.bool a,.bool b,.int .i64 u]] W fun e w'=>e=.returned (.int .i64 (ln:Int))∧Below W.heap.size W w'):=
  z_ (fun W hW=>by rw [bL,bB];exact bA.out W hW)
 have cM:1≤dn:=by rw [bL];exact bz
 have b9:Hid (HasD 0 w (.slice A2 dn c2) D):=z_ (by rw [bL];exact hh);have cN:=b9.out.len.2.1;have bD:=ce;have bE:=cg;have bF:=ch;have bG:=ci;have bH:=z_ (fun r hr W=>qcc u 0 (m:Int) r hr W)
 have cp:Hid (inI u 0 (m:Int)=false→r=false):=z_ (fun aw=>by
  rw [← HR.out,axP];have bM:¬ (0≤u∧u≤m):=by simpa [inI] using aw
  have aR:¬ u=0:=fun e=>bM o_
  simp [bM,aR])
 clear hh ce cf cg ch ci hd bL bg cw hr cm bz bA bB hL cn;by_cases hA:a=false∧b=false∧u=0
 ·obtain ⟨rfl,rfl,rfl⟩:=hA
  have ad:Hid (r=true):=z_ (by rw [← HR.out,axP];simp);go_enter Tryz.func134,Tryz.ntmps134
  go_wp2;go_ret;exact ⟨qa0 ad.out.symm,(b_.alloc n_ _).alloc (by simp) _⟩
 have cq:Hid (¬ ln=2→r=false):=z_ (fun hl=>by
  have cu:¬ L.length=2:=by rw [← b8.out];exact hl
  have cL:(!a&&!b&&decide (u=0))=false:=by cases a<;>cases b<;>simp_all
  rw [← HR.out,axP,cL]
  simp [cu])
 cases a with
 | true=>
  clear hA;go_enter Tryz.func134,Tryz.ntmps134
  go_wp2_with fail
  refine (co.out _ ((b_.alloc n_ _).alloc (by simp) _)).mono ?_;rintro e w1 ⟨rfl,ay⟩;have ag:Below w.heap.size w w1:=((b_.alloc n_ _).alloc (by simp) _).trans (ay.mono (by simp;omega));have aG:w.heap.size+1<w1.heap.size:=by have:=ay.size;simp at this;omega
  have aT:w.heap.size<w1.heap.size:=o_;have k0:w1.heap[w.heap.size]? =some (.cells #[.slice A n ca,.slice B Q.length cb,.slice (some ⟨g,o,none⟩) m cc] 46 (0,0)):=by rw [ay.block _ (by simp;omega),Below.heap_alloc _ _ _ (by simp)];exact qa5 _ _ _ rfl
  have k1:w1.heap[w.heap.size+1]? =some (.cells #[.string (bstr nm),.slice A2 dn c2,.bool true,.bool b,.int .i64 u] 124 (0,0)):=by rw [ay.block _ (by simp)];exact qa5 _ _ _ (by simp)
  have s0:=h_ w1 _ 0 _ _ _ k0;have s1:=h_ w1 _ 1 _ _ _ k0;have s2:=h_ w1 _ 2 _ _ _ k0;have o1:=h_ w1 _ 1 _ _ _ k1;have o2:=h_ w1 _ 2 _ _ _ k1;have o4:=h_ w1 _ 4 _ _ _ k1;clear ay k0 k1;by_cases aH:¬ ln=2
  ·exact j28_
  obtain rfl:ln=2:=Decidable.not_not.1 aH;clear aH;cases aw:inI u 0 (m:Int) with
  | false=>
   exact j24_
  | true=>
   have aU:=z_ (fun W=>bH.out true aw W);have bh:=z_ aw;clear aw;go_wp2_with fail
   refine (aU.out _).mono ?_;rintro e w2 ⟨rfl,rfl⟩;go_wp2_with fail
   refine (bI.out _ ag).mono ?_;rintro e w2 ⟨kv,rfl,bi,ai⟩;obtain ⟨KA,kc,rfl,az⟩:=(Has.of_own bi).shape (n:=n) (by rw [qau,qag];exact bJ);have aj:=ag.trans (ai.mono ag.size);have bj:w.heap.size+1<w2.heap.size:=w_ aG ai.size;have t2:w2.cell? ⟨w.heap.size,2,none⟩=some (.slice (some ⟨g,o,none⟩) m cc):=(ai.cell (by exact aT)).trans s2;have q1:w2.cell? ⟨w.heap.size+1,1,none⟩=some (.slice A2 dn c2):=(ai.cell (by exact aG)).trans o1;have q2:w2.cell? ⟨w.heap.size+1,2,none⟩=some (.bool true):=(ai.cell (by exact aG)).trans o2;have q4:w2.cell? ⟨w.heap.size+1,4,none⟩=some (.int .i64 u):=(ai.cell (by exact aG)).trans o4;have bk:=b9.out.below qa6 n_ aj;obtain ⟨gd,od,A3,c3,rfl,_,cz,d0,d1,aA,_,_⟩:=qbb bk (j:=0) o_;clear bk;have ak:D.getD 0 default=(L,x0):=aS.out;rw [ak,show od+0*2=od by omega] at d0 d1;rw [ak] at aA;have ab:L.length=2:=b8.out.symm;rw [show ((L,x0):List Int×Int).1.length=2 from ab] at d0 aA;obtain ⟨gl,ol,rfl,cA,al⟩:=aA.has.cellAt (j:=0) o_;obtain ⟨cB,cC,ae,_,am⟩:=aA.has.cellAt (j:=1) o_;simp only [Option.some.injEq,Addr.mk.injEq,and_true] at ae;obtain ⟨rfl,rfl⟩:=ae;rw [qak _ 0 (by show 0<L.length;omega),Nat.add_zero] at al;rw [qak _ 1 (by show 1<L.length;omega)] at am;have r0:=ax.out.2.2 0 o_;have r1:=ax.out.2.2 1 o_;have r2:=ax.out.2.1;have af:=z_ HR.out;unfold axP at af;obtain ⟨y0,aJ⟩:=e_ (L.getD 0 0);obtain ⟨y1,aK⟩:=e_ (L.getD 1 0);rw [show ((L,x0):List Int×Int).1.getD 0 0=y0 from aJ.symm] at al;rw [show ((L,x0):List Int×Int).1.getD 1 0=y1 from aK.symm] at am;rw [← aJ,← aK] at af;rw [← aJ] at r0;rw [← aK] at r1;rw [show ((L,x0):List Int×Int).2=x0 from rfl] at d1;have bN:0≤y0∧y0<n:=by simpa [inN] using r0
   have bO:0≤y1∧y1<n:=by simpa [inN] using r1
   have bl:0≤x0∧x0<n:=by simpa [inN] using r2
   obtain ⟨z0,rfl⟩:∃ z:Nat,y0=(z:Int):=⟨y0.toNat,by omega⟩;obtain ⟨z1,rfl⟩:∃ z:Nat,y1=(z:Int):=⟨y1.toNat,by omega⟩;obtain ⟨zx,aL⟩:∃ z:Nat,x0=(z:Int):=⟨x0.toNat,by omega⟩;rw [aL] at d1 bl;obtain ⟨gk,ok,rfl,bP,aV⟩:=az.cellAt (j:=z0) o_;obtain ⟨bm,bn,ae,_,aW⟩:=az.cellAt (j:=z1) o_;simp only [Option.some.injEq,Addr.mk.injEq,and_true] at ae;obtain ⟨rfl,rfl⟩:=ae;obtain ⟨bm,bn,ae,_,aX⟩:=az.cellAt (j:=zx) o_;simp only [Option.some.injEq,Addr.mk.injEq,and_true] at ae;obtain ⟨rfl,rfl⟩:=ae;rw [qak _ z0 Ao_,qav] at aV;rw [qak _ z1 Ao_,qav] at aW;rw [qak _ zx Ao_,qav] at aX;have bQ:=z_ az;have bR:Hid (κ (z0:Int)=K.getD z0 0):=z_ (by rw [ah.out];rfl);have bS:Hid (κ (z1:Int)=K.getD z1 0):=z_ (by rw [ah.out];rfl);have bT:Hid (κ x0=K.getD zx 0):=z_ (by rw [ah.out,aL];rfl);rw [bR.out,bS.out,bT.out] at af;obtain ⟨f0,bo⟩:=e_ (K.getD z0 0);obtain ⟨f1,bp⟩:=e_ (K.getD z1 0);obtain ⟨fx,aY⟩:=e_ (K.getD zx 0);rw [← bo] at aV af;rw [← bp] at aW af;rw [← aY] at aX af;have l0:z0<n:=o_;have l1:z1<n:=o_;have lx:zx<n:=o_;have cD:=z_ aY;have cE:=z_ aL;clear bo bp aY r0 r1 r2 bN bO bl aJ aK az bi ai aA ak s0 s1 s2 o1 o2 o4 aL;have ac:=z_ aj;by_cases aZ:¬ f0=f1
   ·have aI:((f0:Int) != (f1:Int))=true:=by simp;omega
    have ad:Hid (r=false):=z_ (by rw [← af.out];simp [ab,aZ]);exact c91_
   obtain rfl:f0=f1:=Decidable.not_not.1 aZ;clear aZ;by_cases a6:¬ f0=fx
   ·have aI:((f0:Int) != (fx:Int))=true:=by simp;omega
    have ad:Hid (r=false):=z_ (by rw [← af.out];simp [ab,a6]);exact c91_
   obtain rfl:f0=fx:=Decidable.not_not.1 a6;clear a6;by_cases aR:u=0
   ·have ad:Hid (r=true):=z_ (by rw [← af.out];simp [ab,aR])
    subst aR;exact c91_
   have cF:0<u:=by have:=bh.out;simp [inI] at this;omega
   have cG:u≤m:=by have:=bh.out;simp [inI] at this;omega
   obtain ⟨k,rfl⟩:∃ k:Nat,u=(k:Int)+1:=⟨(u-1).toNat,by omega⟩;have a7:k<m:=o_;have bU:((k:Int)+1==0)=false:=by simp;omega
   obtain ⟨g5,o5,A5,c5,ae,_,aB,e0,e1,e2,e3,e4,aC,_,_⟩:=qcm (bK.out _ aj) a7;simp only [Option.some.injEq,Addr.mk.injEq,and_true] at ae;obtain ⟨rfl,rfl⟩:=ae;have HU:=b4.out k a7 rfl;have aM:=z_ (qap (b3.out k a7));have aN:=z_ (And.intro b6.out b7.out);rw [HU] at aN;obtain ⟨⟨bV,D5,a5,b5,u5⟩,bq⟩:∃ d,d=O.getD k default:=⟨_,rfl⟩;rw [← bq] at e0 e1 e2 e3 e4 aC aM aN;have an:=z_ (fun W (hW:Below w2.heap.size w2 W)=>qcb bV D5 aM.out.1 _ a5 b5 u5 W (aC.below qa6 n_ hW));have aD:=z_ aC;have a8:=aC.len.2.1;have bW:1≤D5.length:=aM.out.1;obtain ⟨ba,ao⟩:=e_ (D5.length);have br:w2.cell? ⟨g,o+k*5+1,none⟩=some (.slice A5 ba c5):=by rw [ao];exact e1
   rw [show D5.length=ba from ao.symm] at aD a8 an bW;have bc:=z_ (qaj aM.out.2.2.2);obtain ⟨aO,ap⟩:=e_ ((hd0 D5).1.length);obtain ⟨x5,aP⟩:=e_ ((hd0 D5).2);have aq:Hid (eL=aO):=z_ (by rw [ap];exact aN.out.1);have aE:Hid (ex=x5):=z_ (by rw [aP];exact aN.out.2);have bs:inN n x5=true:=by rw [aP];exact bc.out.2.1
   rw [← ap] at an;have bX:=z_ aP;have bY:0≤x5∧x5<n:=by simpa [inN] using bs
   clear bq aC ao e1 bs ap aP HU;go_wp2;go_quiet (fail)
   generalize bt:((w2.alloc (.cells #[.slice (some ⟨gl,ol,none⟩) 2 c3,.int .i64 (zx:Int)] 199)).drewN nq)=W8
   have aa:Below w2.heap.size w2 W8:=by rw [← bt];exact qa3 (b_.alloc n_ _) _
   have T2:W8.cell? ⟨w.heap.size,2,none⟩=some (.slice (some ⟨g,o,none⟩) m cc):=(aa.cell (by show w.heap.size<w2.heap.size;omega)).trans t2;have Q2:W8.cell? ⟨w.heap.size+1,2,none⟩=some (.bool true):=(aa.cell (by exact bj)).trans q2;have Q4:W8.cell? ⟨w.heap.size+1,4,none⟩=some (.int .i64 ((k:Int)+1)):=(aa.cell (by exact bj)).trans q4;have E0:W8.cell? ⟨g,o+k*5,none⟩=_:=(aa.cell (by exact aB)).trans e0;have E1:W8.cell? ⟨g,o+k*5+1,none⟩=_:=(aa.cell (by exact aB)).trans br;have E2:W8.cell? ⟨g,o+k*5+2,none⟩=_:=(aa.cell (by exact aB)).trans e2;have E3:W8.cell? ⟨g,o+k*5+3,none⟩=_:=(aa.cell (by exact aB)).trans e3;have E4:W8.cell? ⟨g,o+k*5+4,none⟩=_:=(aa.cell (by exact aB)).trans e4;clear bt t2 q1 q2 q4 e0 br e2 e3 e4 bD bC bE bF bG d0 d1 al am aV aW aX;have bu:¬ (k:Int)+1=0:=o_;have bv:0≤(k:Int)+1∧(k:Int)+1≤m:=o_;have bd:=z_ (And.intro bu bv);clear bu bv;go_wp2_with fail
   refine (an.out _ (aa.alloc aa.size _)).mono ?_;rintro e w3 ⟨rfl,be⟩;have au:Below w2.heap.size w2 w3:=(aa.alloc aa.size _).trans (be.mono An_);have av:=ac.out.trans (au.mono ac.out.size);have y1:w3.cell? ⟨W8.heap.size,1,none⟩=some (.slice A5 ba c5):=by rw [be.cell (p:=⟨W8.heap.size,1,none⟩) (by simp)];simp
   clear be;by_cases aQ:¬ aO=0
   ·exact j25_
   obtain rfl:aO=0:=Decidable.not_not.1 aQ;clear aQ;obtain ⟨gz,oz,A6,c6,rfl,_,cH,bZ,b0,_,_,_⟩:=qbb (aD.out.below qa6 n_ au) (j:=0) o_;have aF:(D5.getD 0 default).2=x5:=bX.out.symm;rw [aF,show oz+0*2=oz by omega] at b0;rw [show oz+0*2=oz by omega] at bZ;obtain ⟨z5,rfl⟩:∃ z:Nat,x5=(z:Int):=⟨x5.toNat,by omega⟩;obtain ⟨bm,bn,ae,_,bw⟩:=bQ.out.cellAt (j:=z5) o_;simp only [Option.some.injEq,Addr.mk.injEq,and_true] at ae;obtain ⟨rfl,rfl⟩:=ae;rw [qak _ z5 Ao_,qav,← au.cell (p:=⟨gk,ok+z5,none⟩) bP] at bw;have bf:Hid (κ (z5:Int)=K.getD z5 0):=z_ (by rw [ah.out];rfl);obtain ⟨f5,bx⟩:=e_ (K.getD z5 0);rw [← bx] at bw bf;have l5:z5<n:=o_;clear bx aF;by_cases h5:f5=f0
   ·exact j26_
   ·exact j23_
 | false=>
  cases b with
  | true=>
   obtain ⟨bb,b1⟩:=e_ (true);have b2:=z_ b1;have ct:Hid True:=z_ trivial;clear hA b1;exact c90_
  | false=>
   have hu:¬ u=0:=fun e=>hA ⟨rfl,rfl,e⟩
   have cO:(u==0)=false:=by simpa using hu
   have ct:=z_ hu;obtain ⟨bb,b1⟩:=e_ (false);have b2:=z_ b1;clear hA hu b1;exact c90_
end siga

namespace sigb
open mem subs sortn sortp sorti sorts rowl sigm sigs sigl siga sigr sigv
theorem qpw (h:okS P Q=false):qah P Q O=false:=by rw [qah,h];rfl
theorem qww (h:14<O.length):qah P Q O=false:=by
 have:¬ O.length≤14:=o_;simp [qah,qf6,this]
theorem qkv (hk:k<O.length)(h:qb3 (O.getD k default).name=false∨(O.getD k default).name∈(nms O).take k):qah P Q O=false:=by
 have:qb5 (nms O) O.length=false:=qfe _ k _ hk (by rw [qit O k hk];exact h);simp [qah,qf6,this]
theorem c92_{p:Prop}(h:p:=by
 rw [List.all_eq_false];refine ⟨O[k],List.getElem_mem hk,?_⟩;have e:O.getD k default=O[k]:=by simp [List.getD,List.getElem?_eq_getElem hk]
 rw [← e,h];simp
):p:=h
theorem qpx (hk:k<O.length)(h:qaf P.length (κK P.length Q) (O.getD k default).decls=false):qah P Q O=false:=by
 have:(O.all fun o=>qaf P.length (κK P.length Q) o.decls)=false:=by
  exact c92_
 simp [qah,qf6,this]
theorem qzg (hk:k<O.length)(h:axOk (κK P.length Q) O (O.getD k default)=false):qah P Q O=false:=by
 have:O.all (axOk (κK P.length Q) O)=false:=by
  exact c92_
 simp [qah,qf6,this]
theorem qwx{f:OpM→Bool}(h:∀ k,k<O.length→f (O.getD k default)=true):∀ o∈O,f o=true:=by
 intro o ho;obtain ⟨k,hk,rfl⟩:=List.getElem_of_mem ho;have:=h k hk;simpa [List.getD,List.getElem?_eq_getElem hk] using this
theorem qtk (h1:okS P Q=true)(h2:O.length≤14)(h3:qb5 (nms O) O.length=true)(h4:∀ o∈O,qaf P.length (κK P.length Q) o.decls=true)(h5:∀ o∈O,axOk (κK P.length Q) O o=true):qah P Q O=true:=by
 simp only [qah,qf6,Bool.and_eq_true,List.all_eq_true,decide_eq_true_eq];exact ⟨h1,⟨⟨h2,h3⟩,h4⟩,h5⟩
set_option maxRecDepth 100000 in
set_option maxHeartbeats 8000000 in
theorem qkw (P:List (List UInt8))(Q:List (Int×Int))(O:List OpM)(va vb vc:Value)(r:Bool)(hr:qah P Q O=r)(w:World)(h:HasG w va vb vc P Q O):
  Calls Tryz.prog 79 #[.agg #[va,vb,vc]] w fun e w'=>e=.returned (.bool r)∧Below w.heap.size w w':=by
 have aW:=z_ (fun r hr W (hW:Below w.heap.size w W)=>qnm P Q va vb r hr W (h.below n_ hW).s);obtain ⟨A,ca,B,cb,C,cc,rfl,rfl,rfl,br,bs,bj,h'⟩:=h.shape;have aX:=z_ (fun W (hW:Below w.heap.size w W)=>h'.below n_ hW);have bt:=z_ (qiy h'.o);obtain ⟨n,hn⟩:=e_ (O.length);have HN:=z_ hn;rw [← hn] at bj aX ⊢;have HR:=z_ hr;clear h h' hn hr;cases ap:okS P Q with
 | false=>
  have ad:Hid (r=false):=z_ (by rw [← HR.out];exact qpw ap);have HS:=z_ (aW.out false ap);clear ap;go_enter Tryz.func79,Tryz.ntmps79
  go_wp2_with fail
  refine (HS.out _ (b_.alloc n_ _)).mono ?_;rintro e w1 ⟨rfl,ak⟩;go_wp2;go_ret;exact ⟨qa0 ad.out.symm,(b_.alloc n_ _).trans (ak.mono (by simp))⟩
 | true=>
  have HS:=z_ (aW.out true ap);have aK:=z_ ap;clear ap;go_enter Tryz.func79,Tryz.ntmps79
  go_wp2_with fail
  refine (HS.out _ (b_.alloc n_ _)).mono ?_;rintro e w1 ⟨rfl,ak⟩;have ag:Below w.heap.size w w1:=(b_.alloc n_ _).trans (ak.mono (by simp));have aL:w.heap.size<w1.heap.size:=by have:=ak.size;simp at this;omega
  have s0:w1.cell? ⟨w.heap.size,0,none⟩=some (.slice A P.length ca):=by rw [ak.cell (p:=⟨w.heap.size,0,none⟩) (by simp)];simp
  have s1:w1.cell? ⟨w.heap.size,1,none⟩=some (.slice B Q.length cb):=by rw [ak.cell (p:=⟨w.heap.size,1,none⟩) (by simp)];simp
  have s2:w1.cell? ⟨w.heap.size,2,none⟩=some (.slice C n cc):=by rw [ak.cell (p:=⟨w.heap.size,2,none⟩) (by simp)];simp
  have aA:=z_ (aX.out _ ag);clear ak;by_cases bk:14<n
  ·have ad:Hid (r=false):=z_ (by rw [← HR.out];exact qww Ac_)
   go_wp2;go_ret;exact ⟨qa0 ad.out.symm,ag⟩
  have ab:=z_ ag;clear ag;go_wp2_with fail
  go_loopw [3] (fun i wr=>∃ k:Nat,k≤n∧i=.int .i64 k∧Hid (qb5 (nms O) k=true∧∀ j,j<k→qaf P.length (κK P.length Q) (O.getD j default).decls=true)∧Below w1.heap.size w1 wr) (fun i _=>n-(intOf i).toNat)
  case atStart=>exact ⟨0,y_,rfl,z_ ⟨rfl,fun j hj=>by omega⟩,Below.refl _ _⟩
  case round=>
   obtain ⟨k,hk,rfl,ah,aa⟩:=hrel;have ai:=aa.size;have af:w.heap.size<wr.heap.size:=o_;have aB:wr.cell? ⟨w.heap.size,0,none⟩=some (.slice A P.length ca):=(aa.cell (by exact aL)).trans s0;have aC:wr.cell? ⟨w.heap.size,1,none⟩=some (.slice B Q.length cb):=(aa.cell (by exact aL)).trans s1;have aD:wr.cell? ⟨w.heap.size,2,none⟩=some (.slice C n cc):=(aa.cell (by exact aL)).trans s2;by_cases bl:k<n
   ·obtain ⟨g,o,A2,c2,rfl,_,hg,aw,aE,aF,aG,aH,hh,aM,aN⟩:=qcm aA.out.o bl
    have kw:∀ x,w1.cell? ⟨g,x,none⟩=wr.cell? ⟨g,x,none⟩:=fun x=>(aa.cell (p:=⟨g,x,none⟩) hg).symm
    rw [kw] at aw aE aF aG aH;have am:g<wr.heap.size:=o_;have aY:Hid (qb3 (O.getD k default).name=false→r=false):=z_ (fun hb=>by rw [← HR.out];exact qkv Ac_ (.inl hb));have aZ:Hid (qaf P.length (κK P.length Q) (O.getD k default).decls=false→r=false):=z_ (fun hb=>by rw [← HR.out];exact qpx Ac_ hb);have a6:Hid ((O.getD k default).name∈(nms O).take k→r=false):=z_ (fun hb=>by rw [← HR.out];exact qkv Ac_ (.inr hb))
    have al:Hid (qb3 (O.getD k default).name=true→qaf P.length (κK P.length Q) (O.getD k default).decls=true→(O.getD k default).name ∉ (nms O).take k→
      qb5 (nms O) (k+1)=true∧∀ j,j<k+1→qaf P.length (κK P.length Q) (O.getD j default).decls=true):=z_ (fun h1 h2 h3=>by
     refine ⟨?_,fun j hj=>?_⟩
     ·rw [qed,ah.out.1,qit O k Ac_,h1,decide_eq_false h3];rfl
     ·by_cases e:j=k
      ·subst e;exact h2
      ·exact ah.out.2 j o_)
    obtain ⟨⟨nm,D,a,b,u⟩,hd⟩:∃ d,d=O.getD k default:=⟨_,rfl⟩;rw [← hd] at aw aE aF aG aH hh aM aY aZ a6 al;have a7:=z_ (fun r hr W=>qfs nm aM r hr W)
    have ax:Hid (∀ r W,qaf P.length (κK P.length Q) D=r→Below w1.heap.size w1 W→Calls Tryz.prog 133 #[.agg #[.slice A P.length ca,.slice B Q.length cb,.slice (some ⟨g,o,none⟩) n cc],.agg #[.string (bstr nm),.slice A2 D.length c2,.bool a,.bool b,.int .i64 u]] W fun e w'=>e=.returned (.bool r)∧Below W.heap.size W w'):=
     z_ (fun r W hr hW=>qpb P Q aK.out _ _ _ n cc nm D _ a b u r hr W (aA.out.below n_ hW).s (hh.below qa6 n_ hW))
    obtain ⟨dn,aO⟩:=e_ (D.length);rw [← aO] at ax;have ay:wr.cell? ⟨g,o+k*5+1,none⟩=some (.slice A2 dn c2):=by rw [aO];exact aE
    clear hh hd kw aM aN aO aE;cases aq:qb3 nm with
    | false=>
     have ad:=z_ (aY.out aq);have aP:=z_ (fun W=>a7.out false aq W);clear aq;go_wp2;go_quiet ((go_at_call 132;exact (aP.out _).mono (fun _ _ h=>⟨h.1,_,h.2.symm⟩)))
     go_wp2;go_ret;exact ⟨qa0 ad.out.symm,by first|exact qa3 (ab.out.trans (aa.mono ab.out.size)) _|exact ab.out.trans (aa.mono ab.out.size)⟩
    | true=>
     have aP:=z_ (fun W=>a7.out true aq W);have aQ:=z_ aq;clear aq;obtain ⟨q,hq⟩:∃ q,qaf P.length (κK P.length Q) D=q:=⟨_,rfl⟩;have bm:=z_ (fun W hW=>ax.out q W hq hW);have HQ:=z_ hq;clear hq;go_wp2_with fail
     obtain ⟨wo,rfl⟩:∃ wo,wo=wr:=⟨wr,rfl⟩;refine qa1 (C:=fun w'=>Below wo.heap.size wo w') k_ k_ b_.drew ?_;have nb:Nonempty (BoxC fun w'=>Below wo.heap.size wo w'):=⟨⟨_,Below.refl _ _⟩⟩;have r0:∀ t:BoxC (fun w'=>Below wo.heap.size wo w'),t.W.cell? ⟨w.heap.size,0,none⟩=some (.slice A P.length ca):=fun t=>(t.h.cell (by exact af)).trans aB
     have r1:∀ t:BoxC (fun w'=>Below wo.heap.size wo w'),t.W.cell? ⟨w.heap.size,1,none⟩=some (.slice B Q.length cb):=fun t=>(t.h.cell (by exact af)).trans aC
     have r2:∀ t:BoxC (fun w'=>Below wo.heap.size wo w'),t.W.cell? ⟨w.heap.size,2,none⟩=some (.slice (some ⟨g,o,none⟩) n cc):=fun t=>(t.h.cell (by exact af)).trans aD
     have r3:∀ t:BoxC (fun w'=>Below wo.heap.size wo w'),t.W.cell? ⟨g,o+k*5,none⟩=some (.string (bstr nm)):=fun t=>(t.h.cell (by exact am)).trans aw
     have r4:∀ t:BoxC (fun w'=>Below wo.heap.size wo w'),t.W.cell? ⟨g,o+k*5+1,none⟩=some (.slice A2 dn c2):=fun t=>(t.h.cell (by exact am)).trans ay
     have r5:∀ t:BoxC (fun w'=>Below wo.heap.size wo w'),t.W.cell? ⟨g,o+k*5+2,none⟩=some (.bool a):=fun t=>(t.h.cell (by exact am)).trans aF
     have r6:∀ t:BoxC (fun w'=>Below wo.heap.size wo w'),t.W.cell? ⟨g,o+k*5+3,none⟩=some (.bool b):=fun t=>(t.h.cell (by exact am)).trans aG
     have r7:∀ t:BoxC (fun w'=>Below wo.heap.size wo w'),t.W.cell? ⟨g,o+k*5+4,none⟩=some (.int .i64 u):=fun t=>(t.h.cell (by exact am)).trans aH
     repeat (go_big_quiet_step (first
      | (go_at_call 132;exact (aP.out _).mono (fun _ _ h=>⟨h.1,_,by first|exact h.2|exact h.2.symm⟩))
      | (go_at_call 133;exact (bm.out _ (aa.trans (Below.mono (BoxC.h _) ai))).mono (fun _ _ h=>⟨h.1,⟨_,Below.trans (BoxC.h _) (h.2.mono (Below.size (BoxC.h _)))⟩,rfl⟩))))
     refine wpQuiet_nil ?_;rintro w5 ⟨⟨W8,au⟩,a8⟩;have aR:w5=W8:=a8;subst aR;clear a8 r0 r1 r2 r3 r4 r5 r6 r7 nb;have aj:=aa.trans (au.mono ai);have aS:w1.heap.size≤w5.heap.size:=aj.size;have S0:w5.cell? ⟨w.heap.size,0,none⟩=some (.slice A P.length ca):=(au.cell (by exact af)).trans aB;have S1:w5.cell? ⟨w.heap.size,1,none⟩=some (.slice B Q.length cb):=(au.cell (by exact af)).trans aC;have S2:w5.cell? ⟨w.heap.size,2,none⟩=some (.slice (some ⟨g,o,none⟩) n cc):=(au.cell (by exact af)).trans aD;have C0:w5.cell? ⟨g,o+k*5,none⟩=some (.string (bstr nm)):=(au.cell (by exact am)).trans aw;have az:=z_ aj;have ae:=z_ (ab.out.trans (aj.mono ab.out.size));clear aB aC aD aw ay aF aG aH au aj aa am af ai s0 s1 s2;cases q with
     | false=>
      have ad:=z_ (aZ.out HQ.out);go_wp2;go_ret;exact ⟨qa0 ad.out.symm,ae.out⟩
     | true=>
      go_wp2_with fail
      go_loopw [4] (fun i wr=>∃ q:Nat,q≤k∧i=.int .i64 q∧Hid (nm ∉ (nms O).take q)∧Below w5.heap.size w5 wr) (fun i _=>k-(intOf i).toNat)
      case atStart=>exact ⟨0,y_,rfl,z_ (by simp),Below.refl _ _⟩
      case round=>
       obtain ⟨q,hq,rfl,ba,ac⟩:=hrel;have bn:w.heap.size<w5.heap.size:=o_;have bb:g<w5.heap.size:=o_;have T2:wr.cell? ⟨w.heap.size,2,none⟩=some (.slice (some ⟨g,o,none⟩) n cc):=(ac.cell (by exact bn)).trans S2;have D0:wr.cell? ⟨g,o+k*5,none⟩=some (.string (bstr nm)):=(ac.cell (by exact bb)).trans C0;by_cases aI:q<k
       ·obtain ⟨g',o',A6,c6,bc,_,bo,e0,_,_,_,_,_,_,_⟩:=qcm aA.out.o (j:=q) o_
        simp only [Option.some.injEq,Addr.mk.injEq,and_true] at bc;obtain ⟨rfl,rfl⟩:=bc;rw [← az.out.cell (p:=⟨g,o+q*5,none⟩) bo,← ac.cell (p:=⟨g,o+q*5,none⟩) bb] at e0;have bd:Hid (¬ (O.getD q default).name=nm→nm ∉ (nms O).take (q+1)):=z_ (fun hx=>qy5 (by rw [qlg];have:=HN.out;omega) ba.out (by rw [qit O q Ac_];exact hx))
        have be:Hid ((O.getD q default).name=nm→r=false):=z_ (fun hx=>a6.out (by
         rw [← hx,← qit O q Ac_];have bf:q<(nms O).length:=by rw [qlg];have:=HN.out;omega
         rw [List.getD_eq_getElem?_getD,List.getElem?_eq_getElem bf,List.mem_iff_getElem?]
         exact ⟨q,by rw [List.getElem?_take,if_pos aI,List.getElem?_eq_getElem bf];rfl⟩))
        obtain ⟨x,hx⟩:=e_ ((O.getD q default).name);rw [← hx] at e0 bd be;clear hx;by_cases aJ:x=nm
        ·subst aJ
         have ad:=z_ (be.out rfl);go_wp2;go_quiet (fail)
         go_wp2;go_ret;exact ⟨qa0 ad.out.symm,by first|exact qa3 (ae.out.trans (ac.mono ae.out.size)) _|exact ae.out.trans (ac.mono ae.out.size)⟩
        ·have bu:((bstr x).toList==(bstr nm).toList)=false:=by rw [qfc];simpa using aJ
         have bp:=z_ (bd.out aJ);clear aJ;go_wp2;go_quiet (fail)
         go_wp2;go_roundw
         case rel=>exact ⟨q+1,by omega,by go_num,bp,by first|exact ac|exact qa3 ac _⟩
         case measure=>simp [intOf];omega
       ·obtain rfl:q=k:=o_
        have HG:=z_ (al.out aQ.out HQ.out ba.out);go_wp2;go_roundw
        case rel=>exact ⟨q+1,by omega,by go_num,HG,az.out.trans (ac.mono aS)⟩
        case measure=>simp [intOf];omega
   ·obtain rfl:k=n:=o_
    have bg:Hid (∀ o∈O,qaf P.length (κK P.length Q) o.decls=true):=z_ (qwx (f:=fun o=>qaf P.length (κK P.length Q) o.decls) (fun j hj=>ah.out.2 j Ac_));have aT:Hid (qb5 (nms O) O.length=true):=z_ (by rw [← HN.out];exact ah.out.1)
    have bh:Hid (∀ (i:Nat) (W:World) (q:Bool),i<k→axOk (κK P.length Q) O (O.getD i default)=q→Below w1.heap.size w1 W→Calls Tryz.prog 134 #[.agg #[.slice A P.length ca,.slice B Q.length cb,.slice C k cc],.int .i64 (i:Int)] W fun e w'=>e=.returned (.bool q)∧Below W.heap.size W w'):=
     z_ (fun i W q hi hq hW=>qo9 P Q aK.out O bg.out _ _ _ i Ac_ q hq W (aA.out.below n_ hW))
    have aU:=z_ aa;obtain ⟨wo,rfl⟩:∃ wo,wo=wr:=⟨wr,rfl⟩;clear s0 s1 s2;go_wp2_with fail
    go_loopw [5] (fun i wr=>∃ q:Nat,q≤k∧i=.int .i64 q∧Hid (∀ j,j<q→axOk (κK P.length Q) O (O.getD j default)=true)∧Below wo.heap.size wo wr) (fun i _=>k-(intOf i).toNat)
    case atStart=>exact ⟨0,y_,rfl,z_ (fun j hj=>by omega),Below.refl _ _⟩
    case round=>
     obtain ⟨q,hq,rfl,bi,ac⟩:=hrel;have T0:wr.cell? ⟨w.heap.size,0,none⟩=some (.slice A P.length ca):=(ac.cell (by exact af)).trans aB;have T1:wr.cell? ⟨w.heap.size,1,none⟩=some (.slice B Q.length cb):=(ac.cell (by exact af)).trans aC;have T2:wr.cell? ⟨w.heap.size,2,none⟩=some (.slice C k cc):=(ac.cell (by exact af)).trans aD;have an:=aU.out.trans (ac.mono ai);have ao:=z_ (ab.out.trans (an.mono ab.out.size));by_cases aI:q<k
     ·cases av:axOk (κK P.length Q) O (O.getD q default) with
      | false=>
       have ad:Hid (r=false):=z_ (by rw [← HR.out];exact qzg Ac_ av);have HC:=z_ (bh.out q wr false aI av an);clear av;go_wp2_with fail
       refine HC.out.mono ?_;rintro e w6 ⟨rfl,aV⟩;go_wp2;go_ret;exact ⟨qa0 ad.out.symm,ao.out.trans (aV.mono ao.out.size)⟩
      | true=>
       have HC:=z_ (bh.out q wr true aI av an);have bq:=z_ av;clear av;go_wp2_with fail
       refine HC.out.mono ?_;rintro e w6 ⟨rfl,aV⟩;go_wp2;go_roundw
       case rel=>
        refine ⟨q+1,by omega,by go_num,z_ (fun j hj=>?_),ac.trans (aV.mono ac.size)⟩;by_cases e:j=q
        ·subst e;exact bq.out
        ·exact bi.out j o_
       case measure=>simp [intOf];omega
     ·obtain rfl:q=k:=o_
      have ad:Hid (r=true):=z_ (by
       rw [← HR.out]
       exact qtk aK.out Ac_ aT.out bg.out (qwx (f:=axOk (κK P.length Q) O) (fun j hj=>bi.out j Ac_)))
      go_wp2;go_ret;exact ⟨qa0 ad.out.symm,ao.out⟩
end sigb

namespace sigu
open mem join subs sortp sorti rowl sigm sigs sigt
theorem qom{w:World}{g cap base:Nat}{e:TypeId}{xs:List Value}(h:w.ownsRow base e 5 (.slice (some ⟨g,0,none⟩) n cap) n xs)(j:Nat)(u0 u1 u2 u3 u4:Value):
  (((((w.setCell ⟨g,j,none⟩ u0).setCell ⟨g,j+1,none⟩ u1).setCell ⟨g,j+2,none⟩ u2).setCell ⟨g,j+3,none⟩ u3).setCell ⟨g,j+4,none⟩ u4).ownsRow base e 5 (.slice (some ⟨g,0,none⟩) n cap) n (((((xs.set j u0).set (j+1) u1).set (j+2) u2).set (j+3) u3).set (j+4) u4):=
 qa4 (qa4 (qa4 (qa4 (qa4 h j u0) (j+1) u1) (j+2) u2) (j+3) u3) (j+4) u4
theorem qC4:(Tryz.prog.info? 124).map (fun i=>(i.zero,i.size,i.bytes))=some (some (.agg #[.string { data:=#[] },.slice none 0 0,.bool false,.bool false,.int .i64 0]),5,56):=by kernel_rfl
set_option maxHeartbeats 1000000 in
theorem qxf (O:List OpM)(hO:SmO O)(v:Value)(w:World)(h:HasO lo w v O):
  Calls Tryz.prog 41 #[v] w fun e w'=>∃ v',e=.returned v'∧HasO w.heap.size w' v' O∧Below w.heap.size w w':=by
 obtain ⟨n,hn⟩:=e_ (O.length);obtain ⟨A,c,rfl,h⟩:=HasR.shape h hn.symm;obtain ⟨i0,hi,au,av,aw⟩:=info_parts qC4;have aA:n≤1048576:=by have:=hO.1;omega
 have HH:=z_ h;have HN:=z_ hn;have HD:=z_ hO.2;clear h hn hO;go_enter Tryz.func41,Tryz.ntmps41
 go_wp2_with (at_make;refine wpList_make_full _ rfl _ _ 44 rfl w.heap.size 124 i0 _ 5 Tryz.underlying44 hi au av _ _ _ _ n rfl rfl rfl rfl (by rw [aw];omega) Aa_ n_ ?_)
 intro w1 hown ac;have ae:w.heap.size<w1.heap.size:=by
  rcases hown.2 with ⟨hv,_⟩|⟨g,cap,cur,hv,hb,hg,_⟩
  ·cases hv
  ·have:=(q_ hg);omega
 go_wp2
 go_loopw [4] (fun i wr=>∃ (j:Nat) (ys:List Value),j≤n∧i=.int .i64 j∧wr.ownsRow w.heap.size 124 5 (.slice (some ⟨w.heap.size,0,none⟩) n n) n ys∧
   Hid (∀ i,i<j→∃ cs,(∀ q,q<5→ys[i*5+q]? =some (cs.getD q undef))∧RO (w.heap.size+1) wr cs (O.getD i default))∧w.heap.size<wr.heap.size∧Below w.heap.size w wr) (fun i _=>n-(intOf i).toNat)
 case atStart=>exact ⟨0,_,y_,rfl,hown,z_ (fun i hi=>by omega),ae,b_.grown ac n_ (by intro k h;cases h)⟩
 case round=>
  obtain ⟨j,ys,hj,rfl,hown,HY,hsz,aa⟩:=hrel;by_cases ax:j<n
  ·obtain ⟨g,o,A2,c2,rfl,_,hg,aj,ak,al,am,an,hh,af,ag⟩:=qcm HH.out ax
   have hL:=HD.out j Ac_;rw [← aa.cell (p:=⟨g,o+j*5,none⟩) hg] at aj;rw [← aa.cell (p:=⟨g,o+j*5+1,none⟩) hg] at ak;rw [← aa.cell (p:=⟨g,o+j*5+2,none⟩) hg] at al;rw [← aa.cell (p:=⟨g,o+j*5+3,none⟩) hg] at am;rw [← aa.cell (p:=⟨g,o+j*5+4,none⟩) hg] at an;have ah:=hh.below qa6 n_ aa;obtain ⟨⟨nm,D,a,b,u⟩,hd⟩:∃ d,d=O.getD j default:=⟨_,rfl⟩;rw [← hd] at aj ak al am an ah hL af ag;have HL:=z_ ah;have HX:=z_ hd;have HI:=z_ (And.intro af ag);have ad:=z_ hown;have ay:=z_ hL;clear hh ah hd hown ag af hL;go_wp2_with fail
   refine (qy8 nm D ay.out _ a b u _ HL.out).mono ?_;rintro e w2 ⟨v2,rfl,ao,ai⟩;obtain ⟨A3,c3,rfl,ap⟩:=HasR.shape ao rfl;have ab:=z_ (own_below ad.out ai);have HV:=z_ ap;have aq:=z_ ai;obtain ⟨⟨v0,aB⟩,aC⟩:=qaa ab.out (i:=j*5) o_;obtain ⟨⟨v1,aD⟩,aE⟩:=qaa ab.out (i:=j*5+1) o_;obtain ⟨⟨v2,aF⟩,aG⟩:=qaa ab.out (i:=j*5+2) o_;obtain ⟨⟨v3,aH⟩,aI⟩:=qaa ab.out (i:=j*5+3) o_;obtain ⟨⟨v4,aJ⟩,aK⟩:=qaa ab.out (i:=j*5+4) o_;clear ao ap;go_wp2;go_roundw
   case rel=>
    refine ⟨j+1,_,by omega,by go_num,qom ab.out (j*5) _ _ _ _ _,z_ ?_,by simp [World.setCell];have:=ai.size;omega,?_⟩
    ·have hlen:ys.length=n*5:=by have:=ad.out.1;omega
     intro i hi;by_cases az:i=j
     ·subst az
      refine ⟨[.string (bstr nm),.slice A3 D.length c3,.bool a,.bool b,.int .i64 u],qxi o_,_,by rw [← HX.out],?_,?_⟩
      ·rw [← HX.out]
       repeat (refine HasR.kept qa6 ?_ (Kept.set (by simp) _))
       exact HV.out.mono qa6 o_
      ·rw [← HX.out];exact HI.out
     ·obtain ⟨cs,h1,h2⟩:=HY.out i o_
      refine ⟨cs,fun q hq=>?_,?_⟩
      ·rw [qxh o_];exact h1 q hq
      ·repeat (refine qcx.kept ?_ (Kept.set (by simp) _))
       exact qcx.kept h2 (Kept.below aq.out n_)
    ·repeat (refine Below.setCell ?_ (by simp) _)
     exact aa.trans (aq.out.mono aa.size)
   case measure=>simp [intOf];omega
  ·obtain rfl:j=n:=o_
   have HW:Hid (HasO w.heap.size wr (.slice (some ⟨w.heap.size,0,none⟩) j j) O):=z_ (HasR.of_own hown HN.out.symm (fun i hi=>by
    obtain ⟨cs,h1,h2⟩:=HY.out i hi
    exact ⟨cs,h1,qcx.mono h2 o_⟩))
   clear hown;go_wp2;go_ret;exact ⟨_,rfl,HW.out,aa⟩
theorem qjn (P:List (List UInt8))(Q:List (Int×Int))(O:List OpM)(hS:(Small P∧Q.length≤1048576)∧SmO O)(va vb vc:Value)(w:World)(h:HasG w va vb vc P Q O):
  Calls Tryz.prog 11 #[.agg #[va,vb,vc]] w fun e w'=>∃ v1 v2 v3,e=.returned (.agg #[v1,v2,v3])∧HasG w' v1 v2 v3 P Q O∧Below w.heap.size w w':=by
 obtain ⟨A,ca,B,cb,C,cc,rfl,rfl,rfl,ax,ay,ao,h'⟩:=h.shape;have ap:=z_ (fun W (hW:Below w.heap.size w W)=>qou P hS.1.1.1 Q hS.1.2 _ _ W (h'.below n_ hW).s.a (h'.below n_ hW).s.b);have ai:=z_ (fun W (hW:Below w.heap.size w W)=>qxf O hS.2 _ W (h'.below n_ hW).o);have aj:=z_ h'.s;obtain ⟨n,hn⟩:=e_ (O.length);have HN:=z_ hn;rw [← hn] at ai ao ⊢;clear h h' hn hS;go_enter Tryz.func11,Tryz.ntmps11
 go_wp2_with fail
 refine (ap.out _ ?_).mono ?_
 ·exact v_
 rintro e w1 ⟨v1,v2,rfl,ad,ae,ac⟩;obtain ⟨A1,c1,rfl,_⟩:=qaz ad;obtain ⟨A2,c2,rfl,_⟩:=qaz ae;have aq:=z_ (qhy ad (base':=w.heap.size+1+1+1) (by simp));have au:=z_ (qhy ae (base':=w.heap.size+1+1+1) (by simp));have ak:w1.heap[w.heap.size+1]? =some (.cells #[.slice none 0 0,.slice none 0 0,.slice none 0 0] 46 (0,0)):=by rw [ac.block _ (by simp)];exact (Below.heap_alloc _ _ _ (by simp)).trans (qa5 _ _ _ (by simp))
 have av:=z_ ak;have al:Below w.heap.size w w1:=(((b_.alloc n_ _).alloc (by simp) _).alloc (by simp;omega) _).trans (ac.mono (by simp;omega));obtain ⟨az,aA⟩:=qml ac;have hz:w.heap.size+2<w1.heap.size:=by have:=ac.size;simp at this;omega
 clear ad ae ak ac;go_wp2_with fail
 refine (ai.out _ ?_).mono ?_
 ·exact (al.setCell (by simp;omega) _).setCell (by simp;omega) _
 rintro e w2 ⟨v3,rfl,am,aa⟩;obtain ⟨A3,c3,rfl,an⟩:=HasR.shape am HN.out.symm;have aw:=z_ (an.mono qcx (lo':=w.heap.size+1+1+1) (by simp [World.setCell];omega));have ab:w2.heap[w.heap.size+1]? =some (.cells #[.slice none 0 0,.slice none 0 0,.slice none 0 0] 46 (0,0)):=by
  rw [aa.block _ (by simp [World.setCell];omega),Below.heap_setCell _ _ _ _ (by simp),Below.heap_setCell _ _ _ _ (by simp)];exact av.out
 have d0:w2.cell? ⟨w.heap.size+1,0,none⟩=some (.slice none 0 0):=h_ w2 _ 0 _ _ _ ab;have d1:w2.cell? ⟨w.heap.size+1,1,none⟩=some (.slice none 0 0):=h_ w2 _ 1 _ _ _ ab;have d2:w2.cell? ⟨w.heap.size+1,2,none⟩=some (.slice none 0 0):=h_ w2 _ 2 _ _ _ ab;have e0:=g_ w2 _ 0 _ _ ab;have e1:=g_ w2 _ 1 _ _ ab;have e2:=g_ w2 _ 2 _ _ ab;have af:=z_ (own_below (qb8 (qb8 aq.out (qax (g:=w.heap.size+1+1) (World.grownBy.refl _ _) 0 (.slice A1 P.length c1)) (by simp)) (qax (g:=w.heap.size+1+1) (World.grownBy.refl _ _) 1 (.slice A2 Q.length c2)) (by simp)) aa);have ag:=z_ (own_below (qb8 (qb8 au.out (qax (g:=w.heap.size+1+1) (World.grownBy.refl _ _) 0 (.slice A1 P.length c1)) (by simp)) (qax (g:=w.heap.size+1+1) (World.grownBy.refl _ _) 1 (.slice A2 Q.length c2)) (by simp)) aa);have ah:Below w.heap.size w w2:=by
  refine Below.trans ?_ (aa.mono ?_)
  ·exact (al.setCell (by simp;omega) _).setCell (by simp;omega) _
  ·simp [World.setCell];omega
 obtain ⟨aB,aC⟩:=qml aa;have aD:w.heap.size+2<w2.heap.size:=by have:=aa.size;simp [World.setCell] at this;omega
 clear am an ab aa;go_wp2;refine bodyPost_ret (v:=.agg #[.slice A1 P.length c1,.slice A2 Q.length c2,.slice A3 n c3]) (by simp [results,Tryz.results11,go_sem,d0,d1,d2]) rfl ⟨_,_,_,rfl,⟨⟨?_,?_,aj.out.short,aj.out.in64⟩,?_⟩,?_⟩
 ·refine Has.of_own (base:=w.heap.size+1+1+1) (n:=P.length) (e:=9) ?_
  repeat (refine qb8 ?_ (qax (World.grownBy.refl _ _) _ _) (by simp))
  exact af.out
 ·refine HasP.of_own (base:=w.heap.size+1+1+1) (n:=Q.length) (e:=201) ?_
  repeat (refine qb8 ?_ (qax (World.grownBy.refl _ _) _ _) (by simp))
  exact ag.out
 ·refine HasR.mono qcx (lo:=w.heap.size+1+1+1) ?_ y_
  repeat (refine HasR.kept qcx ?_ (Kept.set (by simp) _))
  exact aw.out
 ·repeat (refine Below.setCell ?_ Ab_ _)
  exact ah
end sigu
end Go.Proofs.YtiilamngcoegiaaGreat
