
import Derived.Test.YtiilamngcoegiaaGreatPk12
namespace Go.Proofs.YtiilamngcoegiaaGreat.siga
set_option maxRecDepth 100000
open Go.ChangeShapes Go.WideShapes Go.ChangeAt Go.RowKit
open mem subs setm sets sortm sortp sorti sortu sortg rowl sigm sigs sigl
def axP (κ:Int→Nat)(a b:Bool)(u:Int)(L:List Int)(x0:Int)(m eL:Nat)(ex:Int):Bool:=
 ((!a&&!b&&decide (u=0)) || (decide (L.length=2)&&decide (κ (L.getD 0 0)=κ (L.getD 1 0))&&((!a&&decide (u=0)) || decide (κ (L.getD 0 0)=κ x0))))&&(decide (u=0) || (decide (0≤u∧u≤m)&&decide (eL=0)&&decide (κ ex=κ x0)))
theorem qCc (κ:Int→Nat)(O:List OpM)(o:OpM):axOk κ O o=axP κ o.ass o.com o.unt (hd0 o.decls).1 (hd0 o.decls).2 O.length (hd0 (qc2 O o).decls).1.length (hd0 (qc2 O o).decls).2:=rfl
theorem j23_ {p:Prop}(h:p:=by
 have aH:((f5:Int)==(f0:Int))=false:=by simp;omega
 have ad:Hid (r=false):=z_ (by rw [← af.out,ap.out,aD.out,bd.out];simp [ba.out.1,h5]);clear h5;go_wp2;go_ret;exact ⟨qa0 ad.out.symm,au⟩
):p:=h
theorem j24_ {p:Prop}(h:p:=by
 have ad:=z_ (cn.out av);have aT:=z_ (fun W=>bF.out false av W);clear av;go_wp2_with fail
 refine (aT.out _).mono ?_;rintro e w2 ⟨rfl,rfl⟩;go_wp2;go_ret;exact ⟨qa0 ad.out.symm,ag⟩
):p:=h
theorem j25_ {p:Prop}(h:p:=by
 have aH:((aN:Int)==0)=false:=by simp;omega
 have ad:Hid (r=false):=z_ (by rw [← af.out,ap.out];simp [ba.out.1,aP]);clear aP;go_wp2;go_ret;exact ⟨qa0 ad.out.symm,au⟩
):p:=h
theorem j26_ {p:Prop}(h:p:=by
 subst h5;have ad:Hid (r=true):=z_ (by rw [← af.out,ap.out,aD.out,bd.out];simp [ab,ba.out.2]);go_wp2;go_ret;exact ⟨qa0 ad.out.symm,au⟩
):p:=h
theorem j27_ {p:Prop}(h:p:=by
 go_wp2;go_quiet (fail)
 go_wp2;go_ret;exact ⟨qa0 ad.out.symm,by first|exact qa3 (ac.out.alloc o_ _) _|exact (ac.out.alloc o_ _)⟩
):p:=h
theorem j28_ {p:Prop}(h:p:=by
 have aH:((ln:Int) != 2)=true:=by simp;omega
 have ad:=z_ (co.out aG);clear aG;go_wp2;go_ret;exact ⟨qa0 ad.out.symm,ag⟩
):p:=h
theorem c83_ {p:Prop}(h:p:=by
 go_enter Tryz.func134,Tryz.ntmps134
 go_wp2_with fail
 refine (cm.out _ ((b_.alloc n_ _).alloc (by simp) _)).mono ?_;rintro e w1 ⟨rfl,ax⟩;have ag:Below w.heap.size w w1:=((b_.alloc n_ _).alloc (by simp) _).trans (ax.mono (by simp;omega));have aF:w.heap.size+1<w1.heap.size:=by have:=ax.size;simp at this;omega
 have aS:w.heap.size<w1.heap.size:=o_;have k0:w1.heap[w.heap.size]? =some (.cells #[.slice A n ca,.slice B Q.length cb,.slice (some ⟨g,o,none⟩) m cc] 46 (0,0)):=by rw [ax.block _ (by simp;omega),Below.heap_alloc _ _ _ (by simp)];exact qa5 _ _ _ rfl
 have k1:w1.heap[w.heap.size+1]? =some (.cells #[.string (bstr nm),.slice A2 dn c2,.bool false,.bool bb,.int .i64 u] 124 (0,0)):=by rw [b0.out,ax.block _ (by simp)];exact qa5 _ _ _ (by simp)
 rw [b0.out] at k1;have s0:w1.cell? ⟨w.heap.size,0,none⟩=some (.slice A n ca):=h_ w1 _ 0 _ _ _ k0;have s1:w1.cell? ⟨w.heap.size,1,none⟩=some (.slice B Q.length cb):=h_ w1 _ 1 _ _ _ k0;have s2:w1.cell? ⟨w.heap.size,2,none⟩=some (.slice (some ⟨g,o,none⟩) m cc):=h_ w1 _ 2 _ _ _ k0;have o1:w1.cell? ⟨w.heap.size+1,1,none⟩=some (.slice A2 dn c2):=h_ w1 _ 1 _ _ _ k1;have o2:w1.cell? ⟨w.heap.size+1,2,none⟩=some (.bool false):=h_ w1 _ 2 _ _ _ k1;have o4:w1.cell? ⟨w.heap.size+1,4,none⟩=some (.int .i64 u):=h_ w1 _ 4 _ _ _ k1;clear ax k0 k1;by_cases aG:¬ ln=2
 ·exact j28_
 obtain rfl:ln=2:=Decidable.not_not.1 aG;clear aG;cases av:inI u 0 (m:Int) with
 | false=>
  exact j24_
 | true=>
  have aT:=z_ (fun W=>bF.out true av W);have bf:=z_ av;clear av;go_wp2_with fail
  refine (aT.out _).mono ?_;rintro e w2 ⟨rfl,rfl⟩;go_wp2_with fail
  refine (bG.out _ ag).mono ?_;rintro e w2 ⟨kv,rfl,bg,hb2⟩;obtain ⟨KA,kc,rfl,ay⟩:=(Has.of_own bg).shape (n:=n) (by rw [qas,qac];exact bH);have ai:=ag.trans (hb2.mono ag.size);have bh:w.heap.size+1<w2.heap.size:=w_ aF hb2.size;have t2:w2.cell? ⟨w.heap.size,2,none⟩=some (.slice (some ⟨g,o,none⟩) m cc):=(hb2.cell (by exact aS)).trans s2;have q1:w2.cell? ⟨w.heap.size+1,1,none⟩=some (.slice A2 dn c2):=(hb2.cell (by exact aF)).trans o1;have q2:w2.cell? ⟨w.heap.size+1,2,none⟩=some (.bool false):=(hb2.cell (by exact aF)).trans o2;have q4:w2.cell? ⟨w.heap.size+1,4,none⟩=some (.int .i64 u):=(hb2.cell (by exact aF)).trans o4;have bi:HasD 0 w2 (.slice A2 dn c2) D:=b7.out.below qa7 n_ ai;obtain ⟨gd,od,A3,c3,rfl,_,cx,d0,d1,az,_,_⟩:=qba bi (j:=0) o_;clear bi;have aj:D.getD 0 default=(L,x0):=aR.out;rw [aj,show od+0*2=od by omega] at d0 d1;rw [aj] at az;have ab:L.length=2:=b6.out.symm;rw [show ((L,x0):List Int×Int).1.length=2 from ab] at d0 az;obtain ⟨gl,ol,rfl,cy,ak⟩:=az.has.cellAt (j:=0) o_;obtain ⟨cz,cA,ae,_,al⟩:=az.has.cellAt (j:=1) o_;simp only [Option.some.injEq,Addr.mk.injEq,and_true] at ae;obtain ⟨rfl,rfl⟩:=ae;rw [qag _ 0 (by show 0<L.length;omega),Nat.add_zero] at ak;rw [qag _ 1 (by show 1<L.length;omega)] at al;have r0:=aw.out.2.2 0 o_;have r1:=aw.out.2.2 1 o_;have r2:=aw.out.2.1;have af:=z_ HR.out;unfold axP at af;obtain ⟨y0,aI⟩:=e_ (L.getD 0 0);obtain ⟨y1,aJ⟩:=e_ (L.getD 1 0);rw [show ((L,x0):List Int×Int).1.getD 0 0=y0 from aI.symm] at ak;rw [show ((L,x0):List Int×Int).1.getD 1 0=y1 from aJ.symm] at al;rw [← aI,← aJ] at af;rw [← aI] at r0;rw [← aJ] at r1;rw [show ((L,x0):List Int×Int).2=x0 from rfl] at d1;have bL:0≤y0∧y0<n:=by simpa [inN] using r0
  have bM:0≤y1∧y1<n:=by simpa [inN] using r1
  have bj:0≤x0∧x0<n:=by simpa [inN] using r2
  obtain ⟨z0,rfl⟩:∃ z:Nat,y0=(z:Int):=⟨y0.toNat,by omega⟩;obtain ⟨z1,rfl⟩:∃ z:Nat,y1=(z:Int):=⟨y1.toNat,by omega⟩;obtain ⟨zx,aK⟩:∃ z:Nat,x0=(z:Int):=⟨x0.toNat,by omega⟩;rw [aK] at d1 bj;obtain ⟨gk,ok,rfl,bN,aU⟩:=ay.cellAt (j:=z0) o_;obtain ⟨bk,bl,ae,_,aV⟩:=ay.cellAt (j:=z1) o_;simp only [Option.some.injEq,Addr.mk.injEq,and_true] at ae;obtain ⟨rfl,rfl⟩:=ae;obtain ⟨bk,bl,ae,_,aW⟩:=ay.cellAt (j:=zx) o_;simp only [Option.some.injEq,Addr.mk.injEq,and_true] at ae;obtain ⟨rfl,rfl⟩:=ae;rw [qag _ z0 (by rw [qac];omega),qat] at aU;rw [qag _ z1 (by rw [qac];omega),qat] at aV;rw [qag _ zx (by rw [qac];omega),qat] at aW;have bO:=z_ ay;have bP:Hid (κ (z0:Int)=K.getD z0 0):=z_ (by rw [ah.out];rfl);have bQ:Hid (κ (z1:Int)=K.getD z1 0):=z_ (by rw [ah.out];rfl);have bR:Hid (κ x0=K.getD zx 0):=z_ (by rw [ah.out,aK];rfl);rw [bP.out,bQ.out,bR.out] at af;obtain ⟨f0,bm⟩:=e_ (K.getD z0 0);obtain ⟨f1,bn⟩:=e_ (K.getD z1 0);obtain ⟨fx,aX⟩:=e_ (K.getD zx 0);rw [← bm] at aU af;rw [← bn] at aV af;rw [← aX] at aW af;have l0:z0<n:=o_;have l1:z1<n:=o_;have lx:zx<n:=o_;have cB:=z_ aX;have cC:=z_ aK;clear bm bn aX r0 r1 r2 bL bM bj aI aJ ay bg hb2 az aj s0 s1 s2 o1 o2 o4 aK;have ac:=z_ ai;by_cases aY:¬ f0=f1
  ·have aH:((f0:Int) != (f1:Int))=true:=by simp;omega
   have ad:Hid (r=false):=z_ (by rw [← af.out];simp [ab,aY,cp.out]);exact j27_
  obtain rfl:f0=f1:=Decidable.not_not.1 aY;clear aY;by_cases aQ:u=0
  ·have ad:Hid (r=true):=z_ (by rw [← af.out];simp [ab,aQ])
   subst aQ;exact j27_
  have cD:0<u:=by have:=bf.out;simp [inI] at this;omega
  by_cases aZ:¬ f0=fx
  ·have aH:((f0:Int) != (fx:Int))=true:=by simp;omega
   have ad:Hid (r=false):=z_ (by rw [← af.out];simp [ab,aZ,aQ]);exact j27_
  obtain rfl:f0=fx:=Decidable.not_not.1 aZ;clear aZ;have cE:u≤m:=by have:=bf.out;simp [inI] at this;omega
  obtain ⟨k,rfl⟩:∃ k:Nat,u=(k:Int)+1:=⟨(u-1).toNat,by omega⟩;have a2:k<m:=o_;have bS:((k:Int)+1==0)=false:=by simp;omega
  obtain ⟨g5,o5,A5,c5,ae,_,aA,e0,e1,e2,e3,e4,aB,_,_⟩:=qcg (bI.out _ ai) a2;simp only [Option.some.injEq,Addr.mk.injEq,and_true] at ae;obtain ⟨rfl,rfl⟩:=ae;have HU:=b2.out k a2 rfl;have aL:=z_ (qak (b1.out k a2));have aM:=z_ (And.intro b3.out b4.out);rw [HU] at aM;obtain ⟨⟨bT,D5,a5,b5,u5⟩,bo⟩:∃ d,d=O.getD k default:=⟨_,rfl⟩;rw [← bo] at e0 e1 e2 e3 e4 aB aL aM;have am:=z_ (fun W (hW:Below w2.heap.size w2 W)=>qc4 bT D5 aL.out.1 _ a5 b5 u5 W (aB.below qa7 n_ hW));have aC:=z_ aB;have a6:=aB.len.2.1;have bU:1≤D5.length:=aL.out.1;obtain ⟨a7,an⟩:=e_ (D5.length);have bp:w2.cell? ⟨g,o+k*5+1,none⟩=some (.slice A5 a7 c5):=by rw [an];exact e1
  rw [show D5.length=a7 from an.symm] at aC a6 am bU;have a8:=z_ (qaf aL.out.2.2.2);obtain ⟨aN,ao⟩:=e_ ((hd0 D5).1.length);obtain ⟨x5,aO⟩:=e_ ((hd0 D5).2);have ap:Hid (eL=aN):=z_ (by rw [ao];exact aM.out.1);have aD:Hid (ex=x5):=z_ (by rw [aO];exact aM.out.2);have bq:inN n x5=true:=by rw [aO];exact a8.out.2.1
  rw [← ao] at am;have bV:=z_ aO;have bW:0≤x5∧x5<n:=by simpa [inN] using bq
  clear bo aB an e1 bq ao aO HU;go_wp2;go_quiet (fail)
  generalize br:((w2.alloc (.cells #[.slice (some ⟨gl,ol,none⟩) 2 c3,.int .i64 (zx:Int)] 199)).drewN nq)=W8
  have aa:Below w2.heap.size w2 W8:=by rw [← br];exact qa3 (b_.alloc n_ _) _
  have T2:W8.cell? ⟨w.heap.size,2,none⟩=some (.slice (some ⟨g,o,none⟩) m cc):=(aa.cell (by show w.heap.size<w2.heap.size;omega)).trans t2;have Q2:W8.cell? ⟨w.heap.size+1,2,none⟩=some (.bool false):=(aa.cell (by exact bh)).trans q2;have Q4:W8.cell? ⟨w.heap.size+1,4,none⟩=some (.int .i64 ((k:Int)+1)):=(aa.cell (by exact bh)).trans q4;have E0:W8.cell? ⟨g,o+k*5,none⟩=_:=(aa.cell (by exact aA)).trans e0;have E1:W8.cell? ⟨g,o+k*5+1,none⟩=_:=(aa.cell (by exact aA)).trans bp;have E2:W8.cell? ⟨g,o+k*5+2,none⟩=_:=(aa.cell (by exact aA)).trans e2;have E3:W8.cell? ⟨g,o+k*5+3,none⟩=_:=(aa.cell (by exact aA)).trans e3;have E4:W8.cell? ⟨g,o+k*5+4,none⟩=_:=(aa.cell (by exact aA)).trans e4;clear br t2 q1 q2 q4 e0 bp e2 e3 e4 bB bA bC bD bE d0 d1 ak al aU aV aW;have bs:¬ (k:Int)+1=0:=o_;have bt:0≤(k:Int)+1∧(k:Int)+1≤m:=o_;have ba:=z_ (And.intro bs bt);clear bs bt;go_wp2_with fail
  refine (am.out _ (aa.alloc aa.size _)).mono ?_;rintro e w3 ⟨rfl,bc⟩;have aq:Below w2.heap.size w2 w3:=(aa.alloc aa.size _).trans (bc.mono (by have:=aa.size;simp;omega));have au:=ac.out.trans (aq.mono ac.out.size);have y1:w3.cell? ⟨W8.heap.size,1,none⟩=some (.slice A5 a7 c5):=by rw [bc.cell (p:=⟨W8.heap.size,1,none⟩) (by simp)];simp
  clear bc;by_cases aP:¬ aN=0
  ·exact j25_
  obtain rfl:aN=0:=Decidable.not_not.1 aP;clear aP;obtain ⟨gz,oz,A6,c6,rfl,_,cF,bX,bY,_,_,_⟩:=qba (aC.out.below qa7 n_ aq) (j:=0) o_;have aE:(D5.getD 0 default).2=x5:=bV.out.symm;rw [aE,show oz+0*2=oz by omega] at bY;rw [show oz+0*2=oz by omega] at bX;obtain ⟨z5,rfl⟩:∃ z:Nat,x5=(z:Int):=⟨x5.toNat,by omega⟩;obtain ⟨bk,bl,ae,_,bu⟩:=bO.out.cellAt (j:=z5) o_;simp only [Option.some.injEq,Addr.mk.injEq,and_true] at ae;obtain ⟨rfl,rfl⟩:=ae;rw [qag _ z5 (by rw [qac];omega),qat,← aq.cell (p:=⟨gk,ok+z5,none⟩) bN] at bu;have bd:Hid (κ (z5:Int)=K.getD z5 0):=z_ (by rw [ah.out];rfl);obtain ⟨f5,bv⟩:=e_ (K.getD z5 0);rw [← bv] at bu bd;have l5:z5<n:=o_;clear bv aE;by_cases h5:f5=f0
  ·exact j26_
  ·exact j23_
):p:=h
theorem c84_ {p:Prop}(h:p:=by
 exact j27_
):p:=h
set_option maxRecDepth 100000 in
set_option maxHeartbeats 8000000 in
theorem qo0 (P:List (List UInt8))(Q:List (Int×Int))(b8:okS P Q=true)(O:List OpM)(hO:∀ o∈O,qab P.length (κK P.length Q) o.decls=true)(va vb vc:Value)(i:Nat)(hi:i<O.length)(r:Bool)(hr:axOk (κK P.length Q) O (O.getD i default)=r)(w:World)(h:HasG w va vb vc P Q O):
  Calls Tryz.prog 134 #[.agg #[va,vb,vc],.int .i64 (i:Int)] w fun e w'=>e=.returned (.bool r)∧Below w.heap.size w w':=by
 obtain ⟨p1,p2,p3,p4,p5⟩:=qax b8;have bG:=z_ (fun W (hW:Below w.heap.size w W)=>qcq P Q p1 p2 o_ p3 (qAw b8) va vb W (h.below n_ hW).s);have bH:(kin P.length (prs Q)).length=P.length:=qia _ _;obtain ⟨A,ca,B,cb,C,cc,rfl,rfl,rfl,cG,cq,cH,h'⟩:=h.shape;have bI:=z_ (fun W (hW:Below w.heap.size w W)=>(h'.below n_ hW).o);obtain ⟨n,hn⟩:=e_ (P.length);rw [← hn] at hr bG bH hO cG ⊢;obtain ⟨K,hK⟩:=e_ (kin n (prs Q));have hκ:∀ x,κK n Q x=K.getD x.toNat 0:=fun x=>by rw [κK,hK]
 rw [← hK] at bG bH;obtain ⟨κ,ct⟩:=e_ (κK n Q);rw [← ct] at hr hκ hO;have ah:=z_ hκ;obtain ⟨m,hm⟩:=e_ (O.length);rw [← hm] at cH hi bI ⊢;have cI:=z_ hm;have b1:Hid (∀ k,k<m→qab n κ (O.getD k default).decls=true):=z_ (fun k hk=>hO _ (by rw [List.getD_eq_getElem?_getD,List.getElem?_eq_getElem o_];exact List.getElem_mem _));clear h h' b8 p1 p2 p3 p4 p5 hn hK ct hκ hm hO;obtain ⟨g,o,A2,c2,rfl,_,hg,b9,cd,ce,cf,cg,hh,cu,be⟩:=qcg (bI.out w b_) hi;have ch:=z_ (qak (b1.out i hi));have b2:Hid (∀ k,k<m→(O.getD i default).unt=(k:Int)+1→qc2 O (O.getD i default)=O.getD k default):=z_ (fun k _ e=>by rw [qc2,e];congr 1);rw [qCc] at hr;obtain ⟨eL,ci⟩:=e_ ((hd0 (qc2 O (O.getD i default)).decls).1.length);obtain ⟨ex,cj⟩:=e_ ((hd0 (qc2 O (O.getD i default)).decls).2);rw [← ci,← cj,← cI.out] at hr;have b3:=z_ ci;have b4:=z_ cj;clear ci cj;obtain ⟨⟨nm,D,a,b,u⟩,hd⟩:∃ d,d=O.getD i default:=⟨_,rfl⟩;rw [← hd] at b9 cd ce cf cg hh cu be ch hr b2 b3 b4;have cv:-9223372036854775808≤u:=be.1;have cw:=be.2;have ck:=hr;obtain ⟨L,hL⟩:=e_ ((hd0 D).1);obtain ⟨x0,cl⟩:=e_ ((hd0 D).2);have aR:Hid (hd0 D=(L,x0)):=z_ (by rw [hL,cl]);rw [← hL,← cl] at ck;have HR:=z_ ck;have bw:=ch.out.1;have bx:=z_ (fun W (hW:Below w.heap.size w W)=>qc4 nm D bw _ a b u W (hh.below qa7 n_ hW));rw [aR.out] at bx
 have aw:Hid (L.length≤3∧inN n x0=true∧∀ k,k<L.length→inN n (L.getD k 0)=true):=z_ (by
  have:=ch.out.2.2.2;have e:=aR.out;have h2:okD n (L,x0)=true:=by rw [← e];exact this
  exact qaf h2)
 obtain ⟨ln,bz⟩:=e_ (L.length);have b6:=z_ bz;obtain ⟨dn,bJ⟩:=e_ (D.length);have bA:w.cell? ⟨g,o+i*5+1,none⟩=some (.slice A2 dn c2):=by rw [bJ];exact cd
 have cm:Hid (∀ W,Below w.heap.size w W→Calls Tryz.prog 141 #[.agg #[.string (bstr nm),.slice A2 dn c2,.bool a,.bool b,.int .i64 u]] W fun e w'=>e=.returned (.int .i64 (ln:Int))∧Below W.heap.size W w'):=
  z_ (fun W hW=>by rw [bJ,bz];exact bx.out W hW)
 have cK:1≤dn:=by rw [bJ];exact bw
 have b7:Hid (HasD 0 w (.slice A2 dn c2) D):=z_ (by rw [bJ];exact hh);have cL:=b7.out.len.2.1;have bB:=b9;have bC:=ce;have bD:=cf;have bE:=cg;have bF:=z_ (fun r hr W=>qc6 u 0 (m:Int) r hr W)
 have cn:Hid (inI u 0 (m:Int)=false→r=false):=z_ (fun av=>by
  rw [← HR.out,axP];have bK:¬ (0≤u∧u≤m):=by simpa [inI] using av
  have aQ:¬ u=0:=fun e=>bK o_
  simp [bK,aQ])
 clear hh b9 cd ce cf cg hd bJ be cu hr ck bw bx bz hL cl;by_cases hA:a=false∧b=false∧u=0
 ·obtain ⟨rfl,rfl,rfl⟩:=hA
  have ad:Hid (r=true):=z_ (by rw [← HR.out,axP];simp);go_enter Tryz.func134,Tryz.ntmps134
  go_wp2;go_ret;exact ⟨qa0 ad.out.symm,(b_.alloc n_ _).alloc (by simp) _⟩
 have co:Hid (¬ ln=2→r=false):=z_ (fun hl=>by
  have cq:¬ L.length=2:=by rw [← b6.out];exact hl
  have cJ:(!a&&!b&&decide (u=0))=false:=by cases a<;>cases b<;>simp_all
  rw [← HR.out,axP,cJ]
  simp [cq])
 cases a with
 | true=>
  clear hA;go_enter Tryz.func134,Tryz.ntmps134
  go_wp2_with fail
  refine (cm.out _ ((b_.alloc n_ _).alloc (by simp) _)).mono ?_;rintro e w1 ⟨rfl,ax⟩;have ag:Below w.heap.size w w1:=((b_.alloc n_ _).alloc (by simp) _).trans (ax.mono (by simp;omega));have aF:w.heap.size+1<w1.heap.size:=by have:=ax.size;simp at this;omega
  have aS:w.heap.size<w1.heap.size:=o_;have k0:w1.heap[w.heap.size]? =some (.cells #[.slice A n ca,.slice B Q.length cb,.slice (some ⟨g,o,none⟩) m cc] 46 (0,0)):=by rw [ax.block _ (by simp;omega),Below.heap_alloc _ _ _ (by simp)];exact qa5 _ _ _ rfl
  have k1:w1.heap[w.heap.size+1]? =some (.cells #[.string (bstr nm),.slice A2 dn c2,.bool true,.bool b,.int .i64 u] 124 (0,0)):=by rw [ax.block _ (by simp)];exact qa5 _ _ _ (by simp)
  have s0:=h_ w1 _ 0 _ _ _ k0;have s1:=h_ w1 _ 1 _ _ _ k0;have s2:=h_ w1 _ 2 _ _ _ k0;have o1:=h_ w1 _ 1 _ _ _ k1;have o2:=h_ w1 _ 2 _ _ _ k1;have o4:=h_ w1 _ 4 _ _ _ k1;clear ax k0 k1;by_cases aG:¬ ln=2
  ·exact j28_
  obtain rfl:ln=2:=Decidable.not_not.1 aG;clear aG;cases av:inI u 0 (m:Int) with
  | false=>
   exact j24_
  | true=>
   have aT:=z_ (fun W=>bF.out true av W);have bf:=z_ av;clear av;go_wp2_with fail
   refine (aT.out _).mono ?_;rintro e w2 ⟨rfl,rfl⟩;go_wp2_with fail
   refine (bG.out _ ag).mono ?_;rintro e w2 ⟨kv,rfl,bg,hb2⟩;obtain ⟨KA,kc,rfl,ay⟩:=(Has.of_own bg).shape (n:=n) (by rw [qas,qac];exact bH);have ai:=ag.trans (hb2.mono ag.size);have bh:w.heap.size+1<w2.heap.size:=w_ aF hb2.size;have t2:w2.cell? ⟨w.heap.size,2,none⟩=some (.slice (some ⟨g,o,none⟩) m cc):=(hb2.cell (by exact aS)).trans s2;have q1:w2.cell? ⟨w.heap.size+1,1,none⟩=some (.slice A2 dn c2):=(hb2.cell (by exact aF)).trans o1;have q2:w2.cell? ⟨w.heap.size+1,2,none⟩=some (.bool true):=(hb2.cell (by exact aF)).trans o2;have q4:w2.cell? ⟨w.heap.size+1,4,none⟩=some (.int .i64 u):=(hb2.cell (by exact aF)).trans o4;have bi:=b7.out.below qa7 n_ ai;obtain ⟨gd,od,A3,c3,rfl,_,cx,d0,d1,az,_,_⟩:=qba bi (j:=0) o_;clear bi;have aj:D.getD 0 default=(L,x0):=aR.out;rw [aj,show od+0*2=od by omega] at d0 d1;rw [aj] at az;have ab:L.length=2:=b6.out.symm;rw [show ((L,x0):List Int×Int).1.length=2 from ab] at d0 az;obtain ⟨gl,ol,rfl,cy,ak⟩:=az.has.cellAt (j:=0) o_;obtain ⟨cz,cA,ae,_,al⟩:=az.has.cellAt (j:=1) o_;simp only [Option.some.injEq,Addr.mk.injEq,and_true] at ae;obtain ⟨rfl,rfl⟩:=ae;rw [qag _ 0 (by show 0<L.length;omega),Nat.add_zero] at ak;rw [qag _ 1 (by show 1<L.length;omega)] at al;have r0:=aw.out.2.2 0 o_;have r1:=aw.out.2.2 1 o_;have r2:=aw.out.2.1;have af:=z_ HR.out;unfold axP at af;obtain ⟨y0,aI⟩:=e_ (L.getD 0 0);obtain ⟨y1,aJ⟩:=e_ (L.getD 1 0);rw [show ((L,x0):List Int×Int).1.getD 0 0=y0 from aI.symm] at ak;rw [show ((L,x0):List Int×Int).1.getD 1 0=y1 from aJ.symm] at al;rw [← aI,← aJ] at af;rw [← aI] at r0;rw [← aJ] at r1;rw [show ((L,x0):List Int×Int).2=x0 from rfl] at d1;have bL:0≤y0∧y0<n:=by simpa [inN] using r0
   have bM:0≤y1∧y1<n:=by simpa [inN] using r1
   have bj:0≤x0∧x0<n:=by simpa [inN] using r2
   obtain ⟨z0,rfl⟩:∃ z:Nat,y0=(z:Int):=⟨y0.toNat,by omega⟩;obtain ⟨z1,rfl⟩:∃ z:Nat,y1=(z:Int):=⟨y1.toNat,by omega⟩;obtain ⟨zx,aK⟩:∃ z:Nat,x0=(z:Int):=⟨x0.toNat,by omega⟩;rw [aK] at d1 bj;obtain ⟨gk,ok,rfl,bN,aU⟩:=ay.cellAt (j:=z0) o_;obtain ⟨bk,bl,ae,_,aV⟩:=ay.cellAt (j:=z1) o_;simp only [Option.some.injEq,Addr.mk.injEq,and_true] at ae;obtain ⟨rfl,rfl⟩:=ae;obtain ⟨bk,bl,ae,_,aW⟩:=ay.cellAt (j:=zx) o_;simp only [Option.some.injEq,Addr.mk.injEq,and_true] at ae;obtain ⟨rfl,rfl⟩:=ae;rw [qag _ z0 (by rw [qac];omega),qat] at aU;rw [qag _ z1 (by rw [qac];omega),qat] at aV;rw [qag _ zx (by rw [qac];omega),qat] at aW;have bO:=z_ ay;have bP:Hid (κ (z0:Int)=K.getD z0 0):=z_ (by rw [ah.out];rfl);have bQ:Hid (κ (z1:Int)=K.getD z1 0):=z_ (by rw [ah.out];rfl);have bR:Hid (κ x0=K.getD zx 0):=z_ (by rw [ah.out,aK];rfl);rw [bP.out,bQ.out,bR.out] at af;obtain ⟨f0,bm⟩:=e_ (K.getD z0 0);obtain ⟨f1,bn⟩:=e_ (K.getD z1 0);obtain ⟨fx,aX⟩:=e_ (K.getD zx 0);rw [← bm] at aU af;rw [← bn] at aV af;rw [← aX] at aW af;have l0:z0<n:=o_;have l1:z1<n:=o_;have lx:zx<n:=o_;have cB:=z_ aX;have cC:=z_ aK;clear bm bn aX r0 r1 r2 bL bM bj aI aJ ay bg hb2 az aj s0 s1 s2 o1 o2 o4 aK;have ac:=z_ ai;by_cases aY:¬ f0=f1
   ·have aH:((f0:Int) != (f1:Int))=true:=by simp;omega
    have ad:Hid (r=false):=z_ (by rw [← af.out];simp [ab,aY]);exact c84_
   obtain rfl:f0=f1:=Decidable.not_not.1 aY;clear aY;by_cases aZ:¬ f0=fx
   ·have aH:((f0:Int) != (fx:Int))=true:=by simp;omega
    have ad:Hid (r=false):=z_ (by rw [← af.out];simp [ab,aZ]);exact c84_
   obtain rfl:f0=fx:=Decidable.not_not.1 aZ;clear aZ;by_cases aQ:u=0
   ·have ad:Hid (r=true):=z_ (by rw [← af.out];simp [ab,aQ])
    subst aQ;exact c84_
   have cD:0<u:=by have:=bf.out;simp [inI] at this;omega
   have cE:u≤m:=by have:=bf.out;simp [inI] at this;omega
   obtain ⟨k,rfl⟩:∃ k:Nat,u=(k:Int)+1:=⟨(u-1).toNat,by omega⟩;have a2:k<m:=o_;have bS:((k:Int)+1==0)=false:=by simp;omega
   obtain ⟨g5,o5,A5,c5,ae,_,aA,e0,e1,e2,e3,e4,aB,_,_⟩:=qcg (bI.out _ ai) a2;simp only [Option.some.injEq,Addr.mk.injEq,and_true] at ae;obtain ⟨rfl,rfl⟩:=ae;have HU:=b2.out k a2 rfl;have aL:=z_ (qak (b1.out k a2));have aM:=z_ (And.intro b3.out b4.out);rw [HU] at aM;obtain ⟨⟨bT,D5,a5,b5,u5⟩,bo⟩:∃ d,d=O.getD k default:=⟨_,rfl⟩;rw [← bo] at e0 e1 e2 e3 e4 aB aL aM;have am:=z_ (fun W (hW:Below w2.heap.size w2 W)=>qc4 bT D5 aL.out.1 _ a5 b5 u5 W (aB.below qa7 n_ hW));have aC:=z_ aB;have a6:=aB.len.2.1;have bU:1≤D5.length:=aL.out.1;obtain ⟨a7,an⟩:=e_ (D5.length);have bp:w2.cell? ⟨g,o+k*5+1,none⟩=some (.slice A5 a7 c5):=by rw [an];exact e1
   rw [show D5.length=a7 from an.symm] at aC a6 am bU;have a8:=z_ (qaf aL.out.2.2.2);obtain ⟨aN,ao⟩:=e_ ((hd0 D5).1.length);obtain ⟨x5,aO⟩:=e_ ((hd0 D5).2);have ap:Hid (eL=aN):=z_ (by rw [ao];exact aM.out.1);have aD:Hid (ex=x5):=z_ (by rw [aO];exact aM.out.2);have bq:inN n x5=true:=by rw [aO];exact a8.out.2.1
   rw [← ao] at am;have bV:=z_ aO;have bW:0≤x5∧x5<n:=by simpa [inN] using bq
   clear bo aB an e1 bq ao aO HU;go_wp2;go_quiet (fail)
   generalize br:((w2.alloc (.cells #[.slice (some ⟨gl,ol,none⟩) 2 c3,.int .i64 (zx:Int)] 199)).drewN nq)=W8
   have aa:Below w2.heap.size w2 W8:=by rw [← br];exact qa3 (b_.alloc n_ _) _
   have T2:W8.cell? ⟨w.heap.size,2,none⟩=some (.slice (some ⟨g,o,none⟩) m cc):=(aa.cell (by show w.heap.size<w2.heap.size;omega)).trans t2;have Q2:W8.cell? ⟨w.heap.size+1,2,none⟩=some (.bool true):=(aa.cell (by exact bh)).trans q2;have Q4:W8.cell? ⟨w.heap.size+1,4,none⟩=some (.int .i64 ((k:Int)+1)):=(aa.cell (by exact bh)).trans q4;have E0:W8.cell? ⟨g,o+k*5,none⟩=_:=(aa.cell (by exact aA)).trans e0;have E1:W8.cell? ⟨g,o+k*5+1,none⟩=_:=(aa.cell (by exact aA)).trans bp;have E2:W8.cell? ⟨g,o+k*5+2,none⟩=_:=(aa.cell (by exact aA)).trans e2;have E3:W8.cell? ⟨g,o+k*5+3,none⟩=_:=(aa.cell (by exact aA)).trans e3;have E4:W8.cell? ⟨g,o+k*5+4,none⟩=_:=(aa.cell (by exact aA)).trans e4;clear br t2 q1 q2 q4 e0 bp e2 e3 e4 bB bA bC bD bE d0 d1 ak al aU aV aW;have bs:¬ (k:Int)+1=0:=o_;have bt:0≤(k:Int)+1∧(k:Int)+1≤m:=o_;have ba:=z_ (And.intro bs bt);clear bs bt;go_wp2_with fail
   refine (am.out _ (aa.alloc aa.size _)).mono ?_;rintro e w3 ⟨rfl,bc⟩;have aq:Below w2.heap.size w2 w3:=(aa.alloc aa.size _).trans (bc.mono (by have:=aa.size;simp;omega));have au:=ac.out.trans (aq.mono ac.out.size);have y1:w3.cell? ⟨W8.heap.size,1,none⟩=some (.slice A5 a7 c5):=by rw [bc.cell (p:=⟨W8.heap.size,1,none⟩) (by simp)];simp
   clear bc;by_cases aP:¬ aN=0
   ·exact j25_
   obtain rfl:aN=0:=Decidable.not_not.1 aP;clear aP;obtain ⟨gz,oz,A6,c6,rfl,_,cF,bX,bY,_,_,_⟩:=qba (aC.out.below qa7 n_ aq) (j:=0) o_;have aE:(D5.getD 0 default).2=x5:=bV.out.symm;rw [aE,show oz+0*2=oz by omega] at bY;rw [show oz+0*2=oz by omega] at bX;obtain ⟨z5,rfl⟩:∃ z:Nat,x5=(z:Int):=⟨x5.toNat,by omega⟩;obtain ⟨bk,bl,ae,_,bu⟩:=bO.out.cellAt (j:=z5) o_;simp only [Option.some.injEq,Addr.mk.injEq,and_true] at ae;obtain ⟨rfl,rfl⟩:=ae;rw [qag _ z5 (by rw [qac];omega),qat,← aq.cell (p:=⟨gk,ok+z5,none⟩) bN] at bu;have bd:Hid (κ (z5:Int)=K.getD z5 0):=z_ (by rw [ah.out];rfl);obtain ⟨f5,bv⟩:=e_ (K.getD z5 0);rw [← bv] at bu bd;have l5:z5<n:=o_;clear bv aE;by_cases h5:f5=f0
   ·exact j26_
   ·exact j23_
 | false=>
  cases b with
  | true=>
   obtain ⟨bb,bZ⟩:=e_ (true);have b0:=z_ bZ;have cp:Hid True:=z_ trivial;clear hA bZ;exact c83_
  | false=>
   have hu:¬ u=0:=fun e=>hA ⟨rfl,rfl,e⟩
   have cM:(u==0)=false:=by simpa using hu
   have cp:=z_ hu;obtain ⟨bb,bZ⟩:=e_ (false);have b0:=z_ bZ;clear hA hu bZ;exact c83_
end Go.Proofs.YtiilamngcoegiaaGreat.siga
