/- parts -/
import Derived.Test.YtiilamngcoegiaaGreatPk07
namespace Go.Proofs.YtiilamngcoegiaaGreat
open Go.ChangeShapes Go.WideShapes Go.ChangeAt Go.RowKit
namespace sorts
open mem split strl subs sortn sets sortm sortp sorti sortu
theorem qr5 (x:Int)(n:Nat)(_hn:1≤n):inI x 0 ((n:Int)-1)=decide (0≤x∧x<n):=by
 rw [inI,decide_eq_decide];omega
theorem qip {P:List (List UInt8)}{Q:List (Int×Int)}(h:qbt P=false):okS P Q=false:=by rw [okS,h];rfl
theorem qr6 {P:List (List UInt8)}{Q:List (Int×Int)}(h:qcu P.length Q=false):okS P Q=false:=by rw [okS,h];simp
theorem c47_ {p:Prop}(h:p:=by
 go_wp2;go_quiet ((go_at_call 128;exact (qc6 _ _ _ _ (by first|exact HI.out|exact ag.out) _).mono (fun _ _ h=>⟨h.1,_,h.2.symm⟩)))
 go_wp2;go_ret;exact ⟨qa0 HQ.out.symm,qa3 ac.out _⟩
):p:=h
theorem j13_ {p:Prop}(h:p:=by
 go_enter Tryz.func131,Tryz.ntmps131
 go_wp2;go_ret;exact ⟨qa0 HQ.out.symm,b_.alloc n_ _⟩
):p:=h
theorem c48_ {p:Prop}(h:p:=by
 have HQ:Hid (r=false):=z_ (by rw [← HR.out];exact qip (by simp [qbt];omega));exact j13_
):p:=h
theorem c49_ {p:Prop}(h:p:=by
 go_round
 case rel=>exact ⟨l+1,by omega,by go_num,z_ (by have:=aF.out;rw [aJ.out] at this;exact this)⟩
 case measure=>simp [intOf];omega
):p:=h
theorem c50_ {p:Prop}(h:p:=by
 go_wp2;go_ret;exact ⟨qa0 HQ.out.symm,qa3 ac.out _⟩
):p:=h
set_option maxHeartbeats 4000000 in
theorem qnc (P:List (List UInt8))(Q:List (Int×Int))(va vb:Value)(r:Bool)(hr:okS P Q=r)(w:World)(h:HasS w va vb P Q):
  Calls Tryz.prog 131 #[.agg #[va,vb]] w fun e w'=>e=.returned (.bool r)∧Below w.heap.size w w':=by
 obtain ⟨A,ca,B,cb,rfl,rfl,aK,aL,h'⟩:=h.shape;have HH:=z_ h';have HR:=z_ hr;have ax:P.length≤ca:=by obtain ⟨A',c',e,h1,h2,_⟩:=h'.a;simp only [Value.slice.injEq] at e;rw [e.2.2,← qb9 P];exact h1
 clear h h' hr;by_cases aM:P.length<1
 ·exact c48_
 by_cases aN:8<P.length
 ·exact c48_
 have aO:decide ((P.length:Int)<1)=false:=by simp;omega
 have aP:decide ((8:Int)<(P.length:Int))=false:=by simp;omega
 by_cases hq:16<Q.length
 ·have HQ:Hid (r=false):=z_ (by rw [← HR.out];exact qr6 (by simp [qcu];omega))
  exact j13_
 have aQ:decide ((16:Int)<(Q.length:Int))=false:=by simp;omega
 obtain ⟨n,hn⟩:=e_ (P.length);obtain ⟨m,hm⟩:=e_ (Q.length);rw [← hn] at HH aK ax aM aN aO aP ⊢;rw [← hm] at HH aL hq aQ ⊢;have aH:=z_ (fun h=>qip (P:=P) (Q:=Q) h);have aR:=z_ (fun h=>qr6 (P:=P) (Q:=Q) h);have HN:=z_ hn;have HM:=z_ hm;clear hn hm;go_enter Tryz.func131,Tryz.ntmps131
 go_wp2;go_loopw [3] (fun i wr=>∃ k:Nat,k≤n∧i=.int .i64 k∧Hid (qb2 P k=true)∧Below (w.heap.size+1) (w.alloc (.cells #[.slice A n ca,.slice B m cb] 43)) wr) (fun i _=>n-(intOf i).toNat)
 case atStart=>exact ⟨0,y_,rfl,z_ rfl,Below.refl _ _⟩
 case round=>
  obtain ⟨k,hk,rfl,HX,aa⟩:=hrel;have c0:wr.cell? ⟨w.heap.size,0,none⟩=some (.slice A n ca):=by rw [aa.cell (p:=⟨w.heap.size,0,none⟩) (by simp)];simp
  have ab:Below w.heap.size w wr:=(b_.alloc n_ _).trans (aa.mono o_);by_cases hlt:k<n
  ·have af:=HH.out.below n_ ab
   obtain ⟨g,o,rfl,hg,hcell⟩:=af.a.cellAt hlt;rw [qe0 P k (by have:=HN.out;omega)] at hcell;have HT:=z_ (qqh af.a (k:=k) o_);rw [qqi] at HT;have HS:=z_ (qe5 P k);have HB:=z_ (qf7 P k P.length (by have:=HN.out;omega));have ay:=z_ (af.short k (by have:=HN.out;omega));obtain ⟨x,hx⟩:=e_ (P.getD k []);rw [← hx] at hcell HS HB ay;have HC:=z_ (fun r hr q=>qua (P.take k) x (.slice (some ⟨g,o,none⟩) k ca) r hr (wr.drewN q) (HT.out.below n_ (qa3 b_ q)));have aj:=z_ aa;have ac:=z_ ab;clear hx af aa ab;cases ak:qaz x with
   | false=>
    have HQ:Hid (r=false):=z_ (by rw [← HR.out];exact aH.out (by rw [qbt,HB.out (.inl ak)];simp));have au:=z_ (fun W=>qfl x ay.out false ak W);clear ak;go_wp2;go_quiet ((go_at_call 132;exact (au.out _).mono (fun _ _ h=>⟨h.1,_,h.2.symm⟩)))
    exact c50_
   | true=>
    have au:=z_ (fun W=>qfl x ay.out true ak W);by_cases hmm:x∈P.take k
    ·have HQ:Hid (r=false):=z_ (by rw [← HR.out];exact aH.out (by rw [qbt,HB.out (.inr hmm)];simp))
     have az:=z_ (HC.out true (by simpa using hmm));clear ak hmm;go_wp2;go_quiet (first|(go_at_call 132;exact (au.out _).mono (fun _ _ h=>⟨h.1,_,h.2.symm⟩))|(go_at_call 178;exact (az.out _).mono (fun _ _ h=>⟨h.1,_,h.2.symm⟩)))
     exact c50_
    ·have av:Hid (qb2 P (k+1)=true):=z_ (by rw [HS.out,HX.out,ak];simpa using hmm)
     have az:=z_ (HC.out false (by simpa using hmm));clear ak hmm;go_wp2;go_quiet (first|(go_at_call 132;exact (au.out _).mono (fun _ _ h=>⟨h.1,_,h.2.symm⟩))|(go_at_call 178;exact (az.out _).mono (fun _ _ h=>⟨h.1,_,h.2.symm⟩)))
     go_wp2;go_roundw
     case rel=>exact ⟨k+1,by omega,by go_num,av,qa3 aj.out _⟩
     case measure=>simp [intOf];omega
  ·obtain rfl:k=n:=o_
   have al:Hid (qbt P=true):=z_ (by
    have h1:=HX.out;rw [HN.out] at h1;have h2:=HN.out
    rw [qbt,h1];simp;omega)
   have aj:=z_ aa;clear ab aa;go_wp2;clear c0;go_loopw [4] (fun i wr=>∃ j:Nat,j≤m∧i=.int .i64 j∧Hid (qdr k Q j=true)∧Below (w.heap.size+1) (w.alloc (.cells #[.slice A k ca,.slice B m cb] 43)) wr) (fun i _=>m-(intOf i).toNat)
   case atStart=>exact ⟨0,y_,rfl,z_ rfl,aj.out⟩
   case round=>
    obtain ⟨j,hj,rfl,av,aa⟩:=hrel;have c0:wr.cell? ⟨w.heap.size,0,none⟩=some (.slice A k ca):=by rw [aa.cell (p:=⟨w.heap.size,0,none⟩) (by simp)];simp
    have c1:wr.cell? ⟨w.heap.size,1,none⟩=some (.slice B m cb):=by rw [aa.cell (p:=⟨w.heap.size,1,none⟩) (by simp)];simp
    have ab:Below w.heap.size w wr:=(b_.alloc n_ _).trans (aa.mono o_);by_cases hlt:j<m
    ·have af:=HH.out.below n_ ab
     obtain ⟨g,o,rfl,hg,hcell,am⟩:=af.b.cellAt hlt;have aS:=af.in64.get j
     have ae:Hid (qfa k (Q.getD j (0,0))=false→r=false):=z_ (by
      intro h;rw [← HR.out];refine aR.out ?_
      rw [qcu,← HN.out,qqq k Q j (by have:=HM.out;omega) h];simp)
     have HG:Hid (qfa k (Q.getD j (0,0))=true→qdr k Q (j+1)=true):=z_ (by intro h;rw [qib k Q j (by have:=HM.out;omega),av.out,h];rfl);have HS:Hid (qfa k (Q.getD j (0,0))=(decide (0≤(Q.getD j (0,0)).1∧(Q.getD j (0,0)).1<k)&&decide (0≤(Q.getD j (0,0)).2∧(Q.getD j (0,0)).2<k)&&decide ((Q.getD j (0,0)).1≠(Q.getD j (0,0)).2))):=z_ rfl;obtain ⟨s,hs⟩:=e_ (qfa k (Q.getD j (0,0)));rw [← hs] at ae HG HS;obtain ⟨x,hx⟩:=e_ ((Q.getD j (0,0)).1);obtain ⟨y,hy⟩:=e_ ((Q.getD j (0,0)).2);rw [← hx,← hy] at aS HS;rw [← hx] at hcell;rw [← hy] at am;have ap:=z_ aa;have ac:=z_ ab;clear hs hx hy af aa ab;have aw:=z_ (qr5 x k o_);have aA:=z_ (qr5 y k o_);cases h1:inI x 0 ((k:Int)-1) with
     | false=>
      have HI:=z_ h1;have HQ:Hid (r=false):=z_ (ae.out (by rw [HS.out,← aw.out,h1];rfl));clear h1;go_wp2;go_quiet ((go_at_call 128;exact (qc6 _ _ _ _ HI.out _).mono (fun _ _ h=>⟨h.1,_,h.2.symm⟩)))
      exact c50_
     | true=>
      have HI:=z_ h1;cases h2:inI y 0 ((k:Int)-1) with
      | false=>
       have ag:=z_ h2;have HQ:Hid (r=false):=z_ (ae.out (by rw [HS.out,← aw.out,← aA.out,h1,h2];rfl));clear h1 h2;exact c47_
      | true=>
       have ag:=z_ h2;by_cases h3:x=y
       ·have HQ:Hid (r=false):=z_ (ae.out (by rw [HS.out,← aw.out,← aA.out,h1,h2,h3];simp))
        have he:(x==y)=true:=by simpa using h3
        clear h1 h2 h3;exact c47_
       ·have aT:Hid (qdr k Q (j+1)=true):=z_ (HG.out (by rw [HS.out,← aw.out,← aA.out,h1,h2];simpa using h3))
        have he:(x==y)=false:=by simpa using h3
        clear h1 h2 h3;go_wp2;go_quiet ((go_at_call 128;exact (qc6 _ _ _ _ (by first|exact HI.out|exact ag.out) _).mono (fun _ _ h=>⟨h.1,_,h.2.symm⟩)))
        go_wp2;go_roundw
        case rel=>exact ⟨j+1,by omega,by go_num,aT,qa3 ap.out _⟩
        case measure=>simp [intOf];omega
    ·obtain rfl:j=m:=o_
     have ah:Hid (qcu k Q=true):=z_ (by
      have h1:=av.out;have h2:=HM.out;rw [qdr,List.take_of_length_le o_] at h1
      rw [qcu,h1];simp;omega)
     obtain ⟨an,aB⟩:=qgl ah.out;have ai:PIn P.length Q:=by rw [← HN.out];exact an
     have aC:=z_ (qg5 P Q (by have:=HN.out;omega) (by have:=HN.out;omega) o_ ai _ _ wr (HH.out.below n_ ab));rw [← HN.out] at aC;have ao:Hid (okS P Q=!circ k (clo k (prs Q))):=z_ (by rw [okS,al.out,← HN.out,ah.out];simp);have ad:=fun i=>qqm an.inR i
     have aD:=qc3 k (prs Q);obtain ⟨U,hU⟩:=e_ (clo k (prs Q));rw [← hU] at aC ao ad aD;have aW:=pow8 (n:=k) o_;have aX:Hid (∀ i,U.getD i 0<65536):=z_ (fun i=>by have:=ad i;omega);have ac:=z_ ab;have aY:=z_ aD;clear hU an ai aB ad ab aa aD;go_wp2_with (go_at_call 179;refine aC.out.mono ?_;rintro e w1 ⟨uv,rfl,hown,aI⟩;obtain ⟨gu,cu,rfl,aZ,a2⟩:=qb5 hown (by intro e;have:=hown.1;rw [e] at this;simp at this;omega);have aq:=z_ hown;clear hown)
     go_loop [6] (fun i=>∃ h:Nat,h≤k∧i=.int .i64 h∧Hid (∀ a b,a<h→b<a→¬ ((U.getD b 0).testBit a=true∧(U.getD a 0).testBit b=true))) (fun i=>k-(intOf i).toNat)
     case atStart=>exact ⟨0,y_,rfl,z_ (fun a b h=>by omega)⟩
     case round=>
      obtain ⟨h,hh,rfl,HY⟩:=hrel;by_cases hlt:h<k
      ·obtain ⟨d0,_⟩:=qbe aq.out hlt
       go_wp2;go_loop [7] (fun i=>∃ l:Nat,l≤h∧i=.int .i64 l∧Hid (∀ b,b<l→¬ ((U.getD b 0).testBit h=true∧(U.getD h 0).testBit b=true))) (fun i=>h-(intOf i).toNat)
       case atStart=>exact ⟨0,y_,rfl,z_ (fun b h=>by omega)⟩
       case round=>
        obtain ⟨l,hl,rfl,HZ⟩:=hrel;by_cases ad:l<h
        ·obtain ⟨d1,_⟩:=qbe aq.out (show l<k by omega)
         have HT:Hid ((U.getD h 0).testBit l=true→(U.getD l 0).testBit h=true→r=false):=z_ (fun e2 e1=>by rw [← HR.out,ao.out,qmo hlt ad e1 e2];rfl)
         have HF:Hid (¬ ((U.getD l 0).testBit h=true∧(U.getD h 0).testBit l=true)→∀ b,b<l+1→¬ ((U.getD b 0).testBit h=true∧(U.getD h 0).testBit b=true)):=z_ (fun e b hb=>by
          by_cases aU:b=l
          ·subst aU;exact e
          ·exact HZ.out b o_)
         have aE:=z_ (qej (U.getD h 0) l o_);have ag:=z_ (qej (U.getD l 0) h o_);obtain ⟨s,hs⟩:=e_ (U.getD l 0);obtain ⟨t,ht⟩:=e_ (U.getD h 0);rw [← hs] at d1 ag;rw [← ht] at d0 aE;rw [← hs,← ht] at HT HF;have aJ:=z_ ht;clear hs ht;cases h1:t.testBit l with
         | false=>
          have HD:Hid (hasI t l=false):=z_ (aE.out.trans h1);have aF:=z_ (HF.out (by rw [h1];simp));clear h1;go_wp2_with (go_at_call 80;refine (qc8 _ _ _ HD.out _).mono ?_;rintro e w2 ⟨rfl,rfl⟩)
          exact c49_
         | true=>
          have HD:Hid (hasI t l=true):=z_ (aE.out.trans h1);cases h2:s.testBit h with
          | false=>
           have aG:Hid (hasI s h=false):=z_ (ag.out.trans h2);have aF:=z_ (HF.out (by rw [h2];simp));clear h1 h2;go_wp2_with (go_at_call 80;refine (qc8 _ _ _ (by first|exact HD.out|exact aG.out) _).mono ?_;rintro e w2 ⟨rfl,rfl⟩)
           exact c49_
          | true=>
           have aG:Hid (hasI s h=true):=z_ (ag.out.trans h2);have HQ:=z_ (HT.out h1 h2);clear h1 h2;go_wp2_with (go_at_call 80;refine (qc8 _ _ _ (by first|exact HD.out|exact aG.out) _).mono ?_;rintro e w2 ⟨rfl,rfl⟩)
           go_ret;exact ⟨qa0 HQ.out.symm,ac.out.trans (aI.mono ac.out.size)⟩
        ·obtain rfl:l=h:=o_
         go_wp2;go_round
         case rel=>
          refine ⟨l+1,by omega,by go_num,z_ (fun a b ha hb=>?_)⟩;by_cases aV:a=l
          ·subst aV;exact HZ.out b hb
          ·exact HY.out a b o_ hb
         case measure=>simp [intOf];omega
      ·obtain rfl:h=k:=o_
       have HQ:Hid (r=true):=z_ (by rw [← HR.out,ao.out,qjk (fun a b ha hb=>HY.out a b ha hb)];rfl);go_wp2;go_ret;exact ⟨qa0 HQ.out.symm,ac.out.trans (aI.mono ac.out.size)⟩
end sorts

namespace sortg
open sortp
theorem qAw {P:List (List UInt8)}{Q:List (Int×Int)}(h:okS P Q=true):∀ p∈Q,p.1≠p.2:=by
 simp only [okS,qcu,qfa,Bool.and_eq_true,List.all_eq_true,decide_eq_true_eq] at h;intro p hp;exact (h.1.2.2 p hp).2
end sortg

namespace sigl
open mem subs setm sets sortm sortp sorti sortu sortg rowl sigm sigs sigi sigj
theorem qc4 (l:List UInt8)(D:List (List Int×Int))(hD:1≤D.length)(v:Value)(a b:Bool)(u:Int)(w:World){lo:Nat}(h:HasD lo w v D):
  Calls Tryz.prog 141 #[.agg #[.string (bstr l),v,.bool a,.bool b,.int .i64 u]] w fun e w'=>e=.returned (.int .i64 ((hd0 D).1.length:Int))∧Below w.heap.size w w':=by
 obtain ⟨A,c,rfl,h⟩:=HasR.shape h rfl;obtain ⟨g,o,A2,c2,rfl,_,hg,aa,ab,hh,_,_⟩:=qba h (j:=0) o_;have hd:D.getD 0 default=hd0 D:=rfl;rw [hd,show o+0*2=o by omega] at aa;rw [hd] at hh;have hl:=hh.has.len.2;have ac:=h.len.2.1;obtain ⟨m,hm⟩:=e_ ((hd0 D).1.length);rw [← hm] at aa hl ⊢;obtain ⟨n,hn⟩:=e_ (D.length);rw [← hn] at hD ac ⊢;clear h hh hd hm ab hn;go_enter Tryz.func141,Tryz.ntmps141
 go_wp2;go_ret;exact ⟨rfl,b_.alloc n_ _⟩
theorem qhk {κ:Int→Nat}{l m:List Int}{x y:Int}:kD κ (l,x)=kD κ (m,y)↔l.length=m.length∧(∀ q,q<l.length→κ (l.getD q 0)=κ (m.getD q 0))∧κ x=κ y:=by
 simp only [kD,Prod.mk.injEq];constructor
 ·rintro ⟨h1,h2⟩
  have hl:l.length=m.length:=by have:=congrArg List.length h1;simpa using this
  refine ⟨hl,fun q hq=>?_,h2⟩;have h3:(l.map κ)[q]? =(m.map κ)[q]? := by rw [h1]
  simp only [List.getElem?_map,List.getElem?_eq_getElem hq,List.getElem?_eq_getElem (show q<m.length by omega),Option.map_some,Option.some.injEq] at h3;simpa [List.getD,List.getElem?_eq_getElem hq,List.getElem?_eq_getElem (show q<m.length by omega)] using h3
 ·rintro ⟨hl,h1,h2⟩
  refine ⟨List.ext_getElem (by simpa using hl) (fun q aa ab=>?_),h2⟩;have hq:q<l.length:=by simpa using aa
  have:=h1 q hq;simpa [List.getD,List.getElem?_eq_getElem hq,List.getElem?_eq_getElem (show q<m.length by omega)] using this
theorem qAx {n:Nat}{x:Int}:inI x 0 ((n:Int)-1)=inN n x:=by
 simp only [inI,inN,decide_eq_decide];omega
theorem j14_ {p:Prop}(h:p:=by
 go_enter Tryz.func133,Tryz.ntmps133
 go_wp2;go_ret;exact ⟨qa0 ac.out.symm,(b_.alloc n_ _).alloc (by simp) _⟩
):p:=h
theorem c51_ {p:Prop}(h:p:=by
 have ac:Hid (r=false):=z_ (by rw [← HR.out,qab];have:=HN.out;simp;omega);clear hD;exact j14_
):p:=h
theorem j15_ {p:Prop}(h:p:=by
 go_wp2;go_ret;exact ⟨qa0 ac.out.symm,by first|exact ag.out|exact qa3 ag.out _⟩
):p:=h
theorem c52_ {p:Prop}(h:p:=by
 go_wp2;go_quiet ((go_at_call 128;exact (aT.out _).mono (fun _ _ h=>⟨h.1,_,h.2.symm⟩)))
 exact j15_
):p:=h
theorem c53_ {p:Prop}(h:p:=by
 go_wp2;go_ret;exact ⟨qa0 ac.out.symm,(aa.out.trans (ab.mono aa.out.size)).alloc (by have:=aa.out.size;omega) _⟩
):p:=h
set_option maxRecDepth 20000 in
set_option maxHeartbeats 8000000 in
theorem qp4 (P:List (List UInt8))(Q:List (Int×Int))(aU:okS P Q=true)(va vb:Value)(C:Option Addr)(oc cc:Nat)(nm:List UInt8)(D:List (List Int×Int))(vd:Value)(a b:Bool)(u:Int)(r:Bool)(hr:qab P.length (κK P.length Q) D=r)(w:World){lo:Nat}(hS:HasS w va vb P Q)(hD:HasD lo w vd D):
  Calls Tryz.prog 133 #[.agg #[va,vb,.slice C oc cc],.agg #[.string (bstr nm),vd,.bool a,.bool b,.int .i64 u]] w fun e w'=>e=.returned (.bool r)∧Below w.heap.size w w':=by
 obtain ⟨p1,p2,p3,p4,p5⟩:=qax aU;have aV:=z_ (fun W (hW:Below w.heap.size w W)=>qcq P Q p1 p2 o_ p3 (qAw aU) va vb W (hS.below n_ hW));have aW:(kin P.length (prs Q)).length=P.length:=qia _ _;obtain ⟨n,hn⟩:=e_ (P.length);have bO:=z_ hn;obtain ⟨A,ca,B,cb,rfl,rfl,bP,bQ,_⟩:=hS.shape;rw [← hn] at hr aV aW p1 p2 p3 ⊢;obtain ⟨K,hK⟩:=e_ (kin n (prs Q));have hκ:∀ x,κK n Q x=K.getD x.toNat 0:=fun x=>by rw [κK,hK]
 rw [← hK] at aV aW;obtain ⟨κ,bg⟩:=e_ (κK n Q);rw [← bg] at hr hκ;have am:=z_ hκ;clear hS aU p3 p4 p5 hn hK bg hκ;obtain ⟨dn,aX⟩:=e_ (D.length);obtain ⟨E,ce,rfl,hD⟩:=HasR.shape hD aX.symm;have bR:=hD.len.2.1;have HN:=z_ aX;have HR:=z_ hr;clear aX hr;by_cases bS:dn<1
 ·exact c51_
 by_cases bT:4<dn
 ·exact c51_
 obtain ⟨g,o,A2,c2,rfl,_,hg,al,aq,hh,aE,aF⟩:=qba hD (j:=0) o_;have hd:D.getD 0 default=hd0 D:=rfl;rw [hd,show o+0*2=o by omega] at al aq;rw [hd] at hh aE aF;have bh:=hh.has.len.2;obtain ⟨L0,aY⟩:=e_ ((hd0 D).1);obtain ⟨x0,aG⟩:=e_ ((hd0 D).2);have aI:Hid (hd0 D=(L0,x0)):=z_ (by rw [aY,aG]);rw [← aY] at al hh bh;rw [← aG] at aq;obtain ⟨m,hm⟩:=e_ (L0.length);rw [← hm] at al hh bh;have HM:=z_ hm;have bq:=z_ hh.has;have aZ:=z_ hD;clear hd aY aG hh aE aF hm hD;by_cases bU:3<m
 ·have ac:Hid (r=false):=z_ (by
   rw [← HR.out];refine qdi (j:=0) (by have:=HN.out;omega) (.inl ?_);have e:D.getD 0 default=hd0 D:=rfl;rw [e,aI.out,okD];have:=HM.out
   simp;omega)
  exact j14_
 go_enter Tryz.func133,Tryz.ntmps133
 go_wp2_with fail
 refine (aV.out _ ((b_.alloc n_ _).alloc (by simp) _)).mono ?_;rintro e w1 ⟨kv,rfl,bi,aQ⟩;obtain ⟨KA,kc,rfl,bj⟩:=(Has.of_own bi).shape (n:=n) (by rw [qas,qac];exact aW);have ah:Below w.heap.size w w1:=((b_.alloc n_ _).alloc (by simp) _).trans (aQ.mono (by simp;omega));have e1:w1.cell? ⟨w.heap.size+1,1,none⟩=some (.slice (some ⟨g,o,none⟩) dn ce):=by rw [aQ.cell (p:=⟨w.heap.size+1,1,none⟩) (by simp)];simp
 have br:w.heap.size+1<w1.heap.size:=by have:=aQ.size;simp at this;omega
 have bs:=z_ bj;clear bi aQ bj;rw [← ah.cell (p:=⟨g,o,none⟩) hg] at al;rw [← ah.cell (p:=⟨g,o+1,none⟩) hg] at aq;go_wp2_with fail
 generalize aJ:w1.alloc (.cells #[.slice A2 m c2,.int .i64 x0] 199)=W3
 have an:Below w1.heap.size w1 W3:=by rw [← aJ];exact b_.alloc n_ _
 have bV:W3.heap.size=w1.heap.size+1:=by rw [← aJ];simp
 have ao:=ah.trans (an.mono ah.size);have f0:W3.cell? ⟨w1.heap.size,0,none⟩=some (.slice A2 m c2):=by rw [← aJ];simp
 have f1:W3.cell? ⟨w1.heap.size,1,none⟩=some (.int .i64 x0):=by rw [← aJ];simp
 have E1:W3.cell? ⟨w.heap.size+1,1,none⟩=some (.slice (some ⟨g,o,none⟩) dn ce):=(an.cell (by exact br)).trans e1;have bt:=z_ (bs.out.below n_ an);have bu:=z_ (bq.out.below n_ ao);have bv:=z_ (aZ.out.below qa7 n_ ao);have aa:=z_ ao;clear al aq e1 aJ an ao ah;go_loopw [7] (fun i wr=>∃ k:Nat,k≤dn∧i=.int .i64 k∧Hid (∀ j,j<k→okD n (D.getD j default)=true∧kD κ (D.getD j default)=kD κ (hd0 D))∧Below W3.heap.size W3 wr) (fun i _=>dn-(intOf i).toNat)
 case atStart=>exact ⟨0,y_,rfl,z_ (fun j hj=>by omega),Below.refl _ _⟩
 case round=>
  obtain ⟨k,hk,rfl,ax,ab⟩:=hrel;have a6:=ab.size;have bW:w1.heap.size<wr.heap.size:=o_;have bw:w.heap.size+1<wr.heap.size:=o_;have bx:wr.cell? ⟨w.heap.size+1,1,none⟩=some (.slice (some ⟨g,o,none⟩) dn ce):=(ab.cell (by show w.heap.size+1<W3.heap.size;omega)).trans E1;have bz:wr.cell? ⟨w1.heap.size,0,none⟩=some (.slice A2 m c2):=(ab.cell (by show w1.heap.size<W3.heap.size;omega)).trans f0;have bA:wr.cell? ⟨w1.heap.size,1,none⟩=some (.int .i64 x0):=(ab.cell (by show w1.heap.size<W3.heap.size;omega)).trans f1;by_cases hlt:k<dn
  ·obtain ⟨g',o',A3,c3,au,_,bk,al,aq,hh,aE,aF⟩:=qba bv.out hlt
   simp only [Option.some.injEq,Addr.mk.injEq,and_true] at au;obtain ⟨rfl,rfl⟩:=au;rw [← ab.cell (p:=⟨g,o+k*2,none⟩) bk] at al;rw [← ab.cell (p:=⟨g,o+k*2+1,none⟩) bk] at aq;have ae:Hid (okD n (D.getD k default)=false∨¬ kD κ (D.getD k default)=kD κ (hd0 D)→r=false):=z_ (fun hb=>by rw [← HR.out];exact qdi (by have:=HN.out;omega) hb)
   have ai:Hid (okD n (D.getD k default)=true→kD κ (D.getD k default)=kD κ (hd0 D)→∀ j,j<k+1→okD n (D.getD j default)=true∧kD κ (D.getD j default)=kD κ (hd0 D)):=z_ (fun h1 h2 j hj=>by
    by_cases e:j=k
    ·subst e;exact ⟨h1,h2⟩
    ·exact ax.out j o_)
   have aK:Hid (k=0∨okD n (L0,x0)=true):=z_ (by
    by_cases e:k=0
    ·exact .inl e
    ·have:=(ax.out 0 o_).1
     have e2:D.getD 0 default=hd0 D:=rfl;rw [e2,aI.out] at this
     exact .inr this)
   have ay:Hid (k=0→D.getD k default=(L0,x0)):=z_ (fun e=>by subst e;rw [← aI.out];rfl);rw [aI.out] at ae ai;obtain ⟨⟨l,x⟩,hd⟩:∃ d,d=D.getD k default:=⟨_,rfl⟩;rw [← hd] at al aq hh aE aF ae ai ay;have bB:=hh.has.len.2;obtain ⟨m2,a7⟩:=e_ (l.length);rw [← a7] at al hh bB;have av:=z_ a7;have bC:=z_ hh.has;have HI:=z_ (And.intro aE aF);clear hh aE aF hd a7;by_cases hlen:m2=m
   ·subst hlen
    have aL:=z_ (fun (y:Int) r hr W=>qc6 y 0 ((n:Int)-1) r hr W);simp only [qAx] at aL;cases aH:inN n x with
    | false=>
     have ac:=z_ (ae.out (.inl (by simp [okD,aH])));have a8:=z_ (fun W=>aL.out x false aH W);clear aH;go_wp2_with fail
     refine (a8.out _).mono ?_;rintro e w2 ⟨rfl,rfl⟩;exact c53_
    | true=>
     have a8:=z_ (fun W=>aL.out x true aH W);have az:=z_ aH;clear aH;go_wp2_with fail
     refine (a8.out _).mono ?_;rintro e w2 ⟨rfl,rfl⟩;go_wp2_with fail
     generalize aM:wr.alloc (.cells #[.slice A3 m2 c3,.int .i64 x] 199)=W8
     have ad:Below W3.heap.size W3 W8:=by rw [← aM];exact ab.alloc a6 _
     have bX:W8.heap.size=wr.heap.size+1:=by rw [← aM];simp
     have h0:W8.cell? ⟨wr.heap.size,0,none⟩=some (.slice A3 m2 c3):=by rw [← aM];simp
     have h1:W8.cell? ⟨wr.heap.size,1,none⟩=some (.int .i64 x):=by rw [← aM];simp
     have F0:W8.cell? ⟨w1.heap.size,0,none⟩=some (.slice A2 m2 c2):=(ad.cell (by show w1.heap.size<W3.heap.size;omega)).trans f0;have F1:W8.cell? ⟨w1.heap.size,1,none⟩=some (.int .i64 x0):=(ad.cell (by show w1.heap.size<W3.heap.size;omega)).trans f1;have aR:=z_ (bt.out.below n_ ad);have bD:=z_ (bu.out.below n_ ad);have bE:=z_ (bC.out.below n_ ad);have aA:=z_ ad;have bl:W3.heap.size≤W8.heap.size:=ad.size;clear aM ad bx bz bA al aq;obtain ⟨wo,rfl⟩:∃ wo,wo=wr:=⟨wr,rfl⟩;go_loopw [9] (fun i wr=>∃ q:Nat,q≤m2∧i=.int .i64 q∧Hid (∀ j,j<q→inN n (l.getD j 0)=true∧κ (l.getD j 0)=κ (L0.getD j 0))∧Below W8.heap.size W8 wr) (fun i _=>m2-(intOf i).toNat)
     case atStart=>exact ⟨0,y_,rfl,z_ (fun j hj=>by omega),Below.refl _ _⟩
     case round=>
      obtain ⟨q,hq,rfl,ba,af⟩:=hrel;have bY:wr.cell? ⟨wo.heap.size,0,none⟩=some (.slice A3 m2 c3):=(af.cell (by show wo.heap.size<W8.heap.size;omega)).trans h0;have bZ:wr.cell? ⟨wo.heap.size,1,none⟩=some (.int .i64 x):=(af.cell (by show wo.heap.size<W8.heap.size;omega)).trans h1;have b0:wr.cell? ⟨w1.heap.size,0,none⟩=some (.slice A2 m2 c2):=(af.cell (by show w1.heap.size<W8.heap.size;omega)).trans F0;have b1:wr.cell? ⟨w1.heap.size,1,none⟩=some (.int .i64 x0):=(af.cell (by show w1.heap.size<W8.heap.size;omega)).trans F1;have ag:Hid (Below w.heap.size w wr):=z_ ((aa.out.trans (aA.out.mono aa.out.size)).trans (af.mono (by have:=aa.out.size;omega)));by_cases bm:q<m2
      ·obtain ⟨gl,ol,rfl,bF,bn⟩:=bE.out.cellAt bm
       obtain ⟨gm,om,rfl,bG,hcm⟩:=bD.out.cellAt bm;rw [qag l q (by have:=av.out;omega),← af.cell (p:=⟨gl,ol+q,none⟩) bF] at bn;rw [qag L0 q (by have:=HM.out;omega),← af.cell (p:=⟨gm,om+q,none⟩) bG] at hcm
       have bb:Hid (inN n (l.getD q 0)=true→inN n (L0.getD q 0)=true):=z_ (fun hy=>by
        by_cases e:k=0
        ·have e2:=ay.out e
         rw [Prod.mk.injEq] at e2;rw [← e2.1];exact hy
        ·have h3:=aK.out
         rcases h3 with h3|h3
         ·exact absurd h3 e
         ·exact (qaf h3).2.2 q (by have:=HM.out;show q<L0.length;omega))
       have aS:Hid (inN n (l.getD q 0)=false∨¬ κ (l.getD q 0)=κ (L0.getD q 0)→r=false):=z_ (fun hb=>by
        rcases hb with hb|hb
        ·exact ae.out (.inl (quo (by have:=av.out;omega) hb))
        ·exact ae.out (.inr (fun e=>hb ((qhk.1 e).2.1 q (by have:=av.out;omega)))))
       have aB:Hid (inN n (l.getD q 0)=true→κ (l.getD q 0)=κ (L0.getD q 0)→∀ j,j<q+1→inN n (l.getD j 0)=true∧κ (l.getD j 0)=κ (L0.getD j 0)):=z_ (fun a1 a2 j hj=>by
        by_cases e:j=q
        ·subst e;exact ⟨a1,a2⟩
        ·exact ba.out j o_)
       obtain ⟨y,hy⟩:=e_ (l.getD q 0);obtain ⟨z,hz⟩:=e_ (L0.getD q 0);rw [← hy] at bn bb aS aB;rw [← hz] at hcm bb aS aB;clear hy hz;cases aw:inN n y with
       | false=>
        have ac:=z_ (aS.out (.inl aw));have aT:=z_ (fun W=>aL.out y false aw W);clear aw;exact c52_
       | true=>
        have aT:=z_ (fun W=>aL.out y true aw W);have bo:=bb.out aw;have HY:=z_ aw;have bc:0≤y∧y<n:=by simpa [inN] using aw
        have bd:0≤z∧z<n:=by simpa [inN] using bo
        obtain ⟨yn,rfl⟩:∃ yn:Nat,y=(yn:Int):=⟨y.toNat,by omega⟩;obtain ⟨zn,rfl⟩:∃ zn:Nat,z=(zn:Int):=⟨z.toNat,by omega⟩;obtain ⟨gk,ok,rfl,aN,aO⟩:=aR.out.cellAt (j:=yn) o_;obtain ⟨bH,bI,au,_,aP⟩:=aR.out.cellAt (j:=zn) o_;simp only [Option.some.injEq,Addr.mk.injEq,and_true] at au;obtain ⟨rfl,rfl⟩:=au;rw [qag _ yn (by rw [qac];omega),qat,← af.cell (p:=⟨gk,ok+yn,none⟩) aN] at aO;rw [qag _ zn (by rw [qac];omega),qat,← af.cell (p:=⟨gk,ok+zn,none⟩) aN] at aP;have aC:Hid (κ (yn:Int)=K.getD yn 0):=z_ (by rw [am.out];rfl);have aD:Hid (κ (zn:Int)=K.getD zn 0):=z_ (by rw [am.out];rfl);obtain ⟨ky,aj⟩:=e_ (K.getD yn 0);obtain ⟨kz,ak⟩:=e_ (K.getD zn 0);rw [← aj] at aO aC;rw [← ak] at aP aD;have bJ:yn<n:=o_;have bK:zn<n:=o_;clear aw bo bc bd aj ak;by_cases he:ky=kz
        ·subst he
         have HP:=z_ (aB.out HY.out (by rw [aC.out,aD.out]));go_wp2;go_quiet ((go_at_call 128;exact (aT.out _).mono (fun _ _ h=>⟨h.1,_,h.2.symm⟩)))
         go_wp2;go_roundw
         case rel=>exact ⟨q+1,by omega,by go_num,HP,by first|exact af|exact qa3 af _⟩
         case measure=>simp [intOf];omega
        ·have bp:((ky:Int) != (kz:Int))=true:=by simp;omega
         have ac:=z_ (aS.out (.inr (by rw [aC.out,aD.out];exact he)));clear he;exact c52_
      ·obtain rfl:q=m2:=o_
       have aG:inN n x0=true:=by
        by_cases e:k=0
        ·have e2:=ay.out e
         rw [Prod.mk.injEq] at e2;rw [← e2.2];exact az.out
        ·rcases aK.out with h3|h3
         ·exact absurd h3 e
         ·exact (qaf h3).2.1
       have bL:0≤x∧x<n:=by simpa [inN] using az.out
       have be:0≤x0∧x0<n:=by simpa [inN] using aG
       have bf:Hid (okD n (l,x)=true):=z_ (qqt (by have:=av.out;omega) az.out (fun j hj=>(ba.out j (by have:=av.out;omega)).1));have bM:Hid (κ x=κ x0→kD κ (l,x)=kD κ (L0,x0)):=z_ (fun e=>qhk.2 ⟨by have:=av.out;have:=HM.out;omega,fun j hj=>(ba.out j (by have:=av.out;omega)).2,e⟩);have bN:Hid (¬ κ x=κ x0→r=false):=z_ (fun hb=>ae.out (.inr (fun e=>hb (qhk.1 e).2.2)));obtain ⟨xn,rfl⟩:∃ xn:Nat,x=(xn:Int):=⟨x.toNat,by omega⟩;obtain ⟨ap,rfl⟩:∃ ap:Nat,x0=(ap:Int):=⟨x0.toNat,by omega⟩;obtain ⟨gk,ok,rfl,aN,aO⟩:=aR.out.cellAt (j:=xn) o_;obtain ⟨bH,bI,au,_,aP⟩:=aR.out.cellAt (j:=ap) o_;simp only [Option.some.injEq,Addr.mk.injEq,and_true] at au;obtain ⟨rfl,rfl⟩:=au;rw [qag _ xn (by rw [qac];omega),qat,← af.cell (p:=⟨gk,ok+xn,none⟩) aN] at aO;rw [qag _ ap (by rw [qac];omega),qat,← af.cell (p:=⟨gk,ok+ap,none⟩) aN] at aP;have aC:Hid (κ (xn:Int)=K.getD xn 0):=z_ (by rw [am.out];rfl);have aD:Hid (κ (ap:Int)=K.getD ap 0):=z_ (by rw [am.out];rfl);obtain ⟨ky,aj⟩:=e_ (K.getD xn 0);obtain ⟨kz,ak⟩:=e_ (K.getD ap 0);rw [← aj] at aO aC;rw [← ak] at aP aD;have bJ:xn<n:=o_;have bK:ap<n:=o_;clear aG bL be aj ak;by_cases he:ky=kz
       ·subst he
        have HG:=z_ (ai.out bf.out (bM.out (by rw [aC.out,aD.out])));go_wp2;go_quiet (fail)
        go_wp2;go_roundw
        case rel=>exact ⟨k+1,by omega,by go_num,(by rw [aI.out];exact HG),by first|exact aA.out.trans (af.mono bl)|exact qa3 (aA.out.trans (af.mono bl)) _⟩
        case measure=>simp [intOf];omega
       ·have bp:((ky:Int) != (kz:Int))=true:=by simp;omega
        have ac:=z_ (bN.out (by rw [aC.out,aD.out];exact he));clear he;go_wp2;go_quiet (fail)
        exact j15_
   ·have ac:=z_ (ae.out (.inr (fun e=>hlen (by have:=(qhk.1 e).1;have:=HM.out;have:=av.out;omega))))
    have bp:((m2:Int) != (m:Int))=true:=by simp;omega
    clear hlen;exact c53_
  ·obtain rfl:k=dn:=o_
   have ac:Hid (r=true):=z_ (by rw [← HR.out];exact qh3 (by have:=HN.out;omega) (by have:=HN.out;omega) (fun j hj=>ax.out j (by have:=HN.out;omega)));go_wp2;go_ret;exact ⟨qa0 ac.out.symm,aa.out.trans (ab.mono aa.out.size)⟩
end sigl

namespace tsm
open setm sortm sorti sigm
def orL {α:Type}(f:α→Nat)(L:List α):Nat:=L.foldl (fun s x=>s ||| f x) 0
theorem qrl {α:Type}(f:α→Nat)(j:Nat):∀ (L:List α) (s:Nat),(L.foldl (fun s x=>s ||| f x) s).testBit j=(s.testBit j || L.any fun x=>(f x).testBit j)
 | [],s=>by simp
 | x::L,s=>by rw [List.foldl_cons,qrl f j L,Nat.testBit_or,List.any_cons,Bool.or_assoc]
theorem qbw {α:Type}(f:α→Nat)(L:List α)(j:Nat):(orL f L).testBit j=L.any fun x=>(f x).testBit j:=by
 rw [orL,qrl,Nat.zero_testBit,Bool.false_or]
theorem qls {α:Type}(f:α→Nat)(L:List α)(x:α):orL f (L++[x])=orL f L ||| f x:=by rw [orL,List.foldl_append];rfl
theorem qnm {α:Type}(f:α→Nat)(L:List α)(n:Nat)(h:∀ x∈L,f x<2 ^ n):orL f L<2 ^ n:=
 Nat.lt_pow_two_of_testBit _ fun j hj=>by
  rw [qbw,List.any_eq_false];intro x hx;rw [Nat.testBit_lt_two_pow (w_ (h x hx) (Nat.pow_le_pow_right (by decide) hj))];simp
theorem qiv {α:Type}{f g:α→Nat}{L:List α}(h:∀ x∈L,f x=g x):orL f L=orL g L:=by
 apply Nat.eq_of_testBit_eq
 intro j;rw [qbw,qbw,Bool.eq_iff_iff,List.any_eq_true,List.any_eq_true];constructor
 ·rintro ⟨x,hx,e⟩;exact ⟨x,hx,by rw [← h x hx];exact e⟩
 ·rintro ⟨x,hx,e⟩;exact ⟨x,hx,by rw [h x hx];exact e⟩
theorem qB4 {α:Type}{f:α→Nat}{L M:List α}(h:∀ x,x∈L↔x∈M):orL f L=orL f M:=by
 apply Nat.eq_of_testBit_eq
 intro j;rw [qbw,qbw,Bool.eq_iff_iff,List.any_eq_true,List.any_eq_true];exact ⟨fun ⟨x,hx,e⟩=>⟨x,(h x).1 hx,e⟩,fun ⟨x,hx,e⟩=>⟨x,(h x).2 hx,e⟩⟩
theorem qB5 {α β:Type}(f:β→Nat)(g:α→β)(L:List α):orL f (L.map g)=orL (fun x=>f (g x)) L:=by
 apply Nat.eq_of_testBit_eq
 intro j;rw [qbw,qbw,List.any_map];rfl
def upC (U:List Nat)(S:Nat):Nat:=orL (fun k=>U.getD k 0) (els S)
theorem qlt (U:List Nat)(S j:Nat):(upC U S).testBit j=true↔∃ k,k<16∧S.testBit k=true∧(U.getD k 0).testBit j=true:=by
 rw [upC,qbw,List.any_eq_true];constructor
 ·rintro ⟨k,hk,e⟩;exact ⟨k,(qkn.1 hk).1,(qkn.1 hk).2,e⟩
 ·rintro ⟨k,h1,h2,e⟩;exact ⟨k,qkn.2 ⟨h1,h2⟩,e⟩
theorem qiw {U:List Nat}(hU:Lim U)(S:Nat):upC U S<2 ^ U.length:=qnm _ _ _ fun k _=>hU.2 k
theorem qpb {α:Type}(U:List Nat)(f:α→Nat)(L:List α):upC U (orL f L)=orL (fun x=>upC U (f x)) L:=by
 apply Nat.eq_of_testBit_eq
 intro j;rw [Bool.eq_iff_iff,qlt,qbw,List.any_eq_true];constructor
 ·rintro ⟨k,h1,h2,e⟩
  rw [qbw,List.any_eq_true] at h2;obtain ⟨x,hx,h2⟩:=h2;exact ⟨x,hx,(qlt _ _ _).2 ⟨k,h1,h2,e⟩⟩
 ·rintro ⟨x,hx,e⟩
  obtain ⟨k,h1,h2,e⟩:=(qlt _ _ _).1 e;exact ⟨k,h1,by rw [qbw,List.any_eq_true];exact ⟨x,hx,h2⟩,e⟩
def closeTo (U:List Nat)(S:Nat):Nat→Nat
 | 0=>0
 | k+1=>if S.testBit k then closeTo U S k ||| U.getD k 0 else closeTo U S k
theorem qfd (U:List Nat)(S j:Nat):∀ k,(closeTo U S k).testBit j=true↔∃ i,i<k∧S.testBit i=true∧(U.getD i 0).testBit j=true
 | 0=>by simp [closeTo]
 | k+1=>by
  rw [closeTo];have ih:=qfd U S j k;by_cases hs:S.testBit k=true
  ·rw [if_pos hs,Nat.testBit_or,Bool.or_eq_true,ih]
   constructor
   ·rintro (⟨i,h1,h2⟩|h)
    ·exact ⟨i,by omega,h2⟩
    ·exact ⟨k,by omega,hs,h⟩
   ·rintro ⟨i,h1,h2,h3⟩
    by_cases e:i=k
    ·subst e;exact .inr h3
    ·exact .inl ⟨i,by omega,h2,h3⟩
  ·rw [if_neg hs,ih]
   constructor
   ·rintro ⟨i,h1,h2⟩;exact ⟨i,by omega,h2⟩
   ·rintro ⟨i,h1,h2,h3⟩
    have:i≠k:=fun e=>hs (e ▸ h2)
    exact ⟨i,by omega,h2,h3⟩
theorem qpc {U:List Nat}{S k:Nat}(h:S.testBit k=true):closeTo U S (k+1)=closeTo U S k ||| U.getD k 0:=by rw [closeTo,if_pos h]
theorem qnn {U:List Nat}{S k:Nat}(h:S.testBit k=false):closeTo U S (k+1)=closeTo U S k:=by rw [closeTo,if_neg (by simp [h])]
theorem qt0 {U:List Nat}(hU:Lim U)(S:Nat):closeTo U S U.length=upC U S:=by
 apply Nat.eq_of_testBit_eq
 intro j;rw [Bool.eq_iff_iff,qfd,qlt];constructor
 ·rintro ⟨i,h1,h2⟩;exact ⟨i,by have:=hU.1;omega,h2⟩
 ·rintro ⟨i,h1,h2,h3⟩
  refine ⟨i,?_,h2,h3⟩;apply Nat.lt_of_not_le
  intro aa;rw [List.getD,List.getElem?_eq_none aa] at h3;simp at h3
theorem qt1 {U:List Nat}(hU:Lim U)(S k:Nat):closeTo U S k<2 ^ U.length:=
 Nat.lt_pow_two_of_testBit _ fun j hj=>by
  cases h:(closeTo U S k).testBit j with
  | false=>rfl
  | true=>
   obtain ⟨i,_,_,h3⟩:=(qfd U S j k).1 h;rw [Nat.testBit_lt_two_pow (w_ (hU.2 i) (Nat.pow_le_pow_right (by decide) hj))] at h3;cases h3
def qix (A:List Nat)(d:List Int)(k:Nat):Bool:=(List.range k).all fun i=>(A.getD i 0).testBit (d.getD i 0).toNat
def fitD (A:List Nat)(d:List Int):Bool:=qix A d d.length
theorem qk6 (A:List Nat)(d:List Int)(k:Nat):qix A d (k+1)=(qix A d k&&(A.getD k 0).testBit (d.getD k 0).toNat):=by
 rw [qix,List.range_succ,List.all_append];simp [qix]
theorem qyp {A:List Nat}{d:List Int}{k:Nat}(hk:k<d.length)(h:(A.getD k 0).testBit (d.getD k 0).toNat=false):fitD A d=false:=by
 rw [fitD,qix,List.all_eq_false];exact ⟨k,List.mem_range.2 hk,by simp only [h];simp⟩
def givF (A:List Nat)(d:List Int×Int):Nat:=if fitD A d.1 then 2 ^ d.2.toNat else 0
def giveR (D:List (List Int×Int))(A:List Nat):Nat:=orL (givF A) D
theorem qk7 (D:List (List Int×Int))(A:List Nat)(d:List Int×Int):giveR (D++[d]) A=giveR D A ||| givF A d:=qls _ _ _
theorem qC9 (D:List (List Int×Int))(k:Nat)(h:k<D.length):D.take (k+1)=D.take k++[D.getD k ([],0)]:=by
 rw [List.take_succ_eq_append_getElem h];simp [List.getD,List.getElem?_eq_getElem h]
theorem qrm {D:List (List Int×Int)}{A:List Nat}{k:Nat}(h:k<D.length)(hf:fitD A (D.getD k ([],0)).1=true):giveR (D.take (k+1)) A=giveR (D.take k) A ||| 2 ^ (D.getD k ([],0)).2.toNat:=by
 rw [qC9 D k h,qk7,givF,if_pos hf]
theorem qno {D:List (List Int×Int)}{A:List Nat}{k:Nat}(h:k<D.length)(hf:fitD A (D.getD k ([],0)).1=false):giveR (D.take (k+1)) A=giveR (D.take k) A:=by
 rw [qC9 D k h,qk7,givF,if_neg (by rw [hf];decide),Nat.or_zero]
def DeclN (n m:Nat)(D:List (List Int×Int)):Prop:=∀ d∈D,d.1.length=m∧inN n d.2=true∧∀ k,k<m→inN n (d.1.getD k 0)=true
theorem DeclN.take {n m:Nat}{D:List (List Int×Int)}(h:DeclN n m D)(k:Nat):DeclN n m (D.take k):=fun d hd=>h d (List.mem_of_mem_take hd)
theorem qet {n m:Nat}{D:List (List Int×Int)}(h:DeclN n m D)(A:List Nat):giveR D A<2 ^ n:=qnm _ _ _ fun d hd=>by
 obtain ⟨_,h2,_⟩:=h d hd;simp only [inN,decide_eq_true_eq] at h2;unfold givF;split
 ·exact Nat.pow_lt_pow_right (by decide) o_
 ·exact Nat.two_pow_pos n
def qdt (g:Nat):Nat→Nat→List Nat
 | 0,_=>[]
 | f+1,l=>if l=0 then [] else l::qdt g f ((l-1) &&& g)
def lefts (g:Nat):List Nat:=qdt g g ((g-1) &&& g)
def leftsFrom (g l:Nat):List Nat:=qdt g l l
theorem qdn (g:Nat):∀ (f l:Nat),l≤f→qdt g f l=qdt g l l
 | 0,l,h=>by
                 have:l=0:=o_;subst this;rfl
 | f+1,l,h=>by
  by_cases hl:l=0
  ·subst hl;simp [qdt]
  ·obtain ⟨k,rfl⟩:∃ k,l=k+1:=⟨l-1,by omega⟩
   have aa:(k &&& g)≤k:=Nat.and_le_left;rw [qdt,if_neg hl,qdt,if_neg hl,Nat.add_sub_cancel,qdn g f _ o_,qdn g k _ aa]
theorem qk8 (g:Nat):lefts g=leftsFrom g ((g-1) &&& g):=qdn g g _ (Nat.le_trans Nat.and_le_right (Nat.le_refl g))
theorem qf0 (g:Nat):leftsFrom g 0=[]:=rfl
theorem qf1 (g l:Nat)(h:l≠0):leftsFrom g l=l::leftsFrom g ((l-1) &&& g):=by
 obtain ⟨k,rfl⟩:∃ k,l=k+1:=⟨l-1,by omega⟩;rw [leftsFrom,qdt,if_neg h,Nat.add_sub_cancel,qdn g k _ Nat.and_le_left];rfl
theorem qk9 {g x:Nat}:∀ (f l:Nat),(g &&& l=l)→x∈qdt g f l→0<x∧x≤l∧g &&& x=x
 | 0,l,_,h=>by simp [qdt] at h
 | f+1,l,hl,h=>by
  rw [qdt] at h;split at h
  ·simp at h
  ·rename_i h0
   rcases List.mem_cons.1 h with rfl|h
   ·exact ⟨by omega,Nat.le_refl _,hl⟩
   ·have hs:g &&& ((l-1) &&& g)=(l-1) &&& g:=by
     rw [Nat.and_comm (l-1) g,← Nat.and_assoc,Nat.and_self]
    obtain ⟨p1,p2,p3⟩:=qk9 f _ hs h;have:=@Nat.and_le_left (l-1) g;exact ⟨p1,by omega,p3⟩
theorem qvu {g x:Nat}(h:x∈lefts g):0<x∧x<g∧g &&& x=x:=by
 have hs:g &&& ((g-1) &&& g)=(g-1) &&& g:=by
  rw [Nat.and_comm (g-1) g,← Nat.and_assoc,Nat.and_self]
 obtain ⟨p1,p2,p3⟩:=qk9 g _ hs h;have:=@Nat.and_le_left (g-1) g;exact ⟨p1,by omega,p3⟩
def befo (l r:Nat):Bool:=decide (l<r &&& (65536-r))
abbrev rest (g l:Nat):Nat:=g ^^^ l
theorem qyq {g l:Nat}(h:g &&& l=l):rest g l=qBx g l:=by rw [qBx,h]
theorem c64_ {p:Prop}(h:p:=by
 cases h1:l.testBit j with
 | false=>cases g.testBit j<;>rfl
 | true=>rw [hb j h1];rfl
):p:=h
theorem qrn {g l:Nat}(h:g &&& l=l):l &&& rest g l=0∧rest g l &&& g=rest g l∧l ||| rest g l=g:=by
 have hb:∀ j,l.testBit j=true→g.testBit j=true:=fun j hj=>by
  have e:=congrArg (fun z=>Nat.testBit z j) h;simp only [Nat.testBit_and,hj,Bool.and_true] at e;exact e
 refine ⟨Nat.eq_of_testBit_eq fun j=>?_,Nat.eq_of_testBit_eq fun j=>?_,Nat.eq_of_testBit_eq fun j=>?_⟩
 ·rw [Nat.testBit_and,Nat.testBit_xor,Nat.zero_testBit]
  cases h1:l.testBit j with
  | false=>rfl
  | true=>rw [hb j h1];rfl
 ·rw [Nat.testBit_and,Nat.testBit_xor]
  exact c64_
 ·rw [Nat.testBit_or,Nat.testBit_xor]
  exact c64_
theorem qlu {g l:Nat}(h:g &&& l=l)(h0:0<l):rest g l<g:=by
 obtain ⟨h1,h2,h3⟩:=qrn h;have h4:rest g l≤g:=by rw [← h2];exact Nat.and_le_right
 apply Nat.lt_of_le_of_ne h4
 intro e;rw [e,Nat.and_comm,h] at h1;omega
theorem qlv {g l:Nat}(h:g &&& l=l)(h0:l<g):0<rest g l:=by
 obtain ⟨_,_,h3⟩:=qrn h;apply Nat.pos_of_ne_zero
 intro e;rw [e,Nat.or_zero] at h3;omega
def qcx (com:Bool)(g:Nat):List Nat:=(lefts g).filter fun l=>com || befo l (rest g l)
theorem qka {com:Bool}{g x:Nat}(h:x∈qcx com g):0<x∧x<g∧g &&& x=x:=qvu (List.mem_filter.1 h).1
section
variable (com:Bool) (U:List Nat) (D:List (List Int×Int)) (A:List Nat)
def qdw (g:Nat):Option Nat:=(List.range 16).find? fun i=>g==2 ^ i
def valV (t:List Nat)(g:Nat):Nat:=
 match qdw g with
 | some i=>A.getD i 0
 | none=>upC U (orL (fun l=>giveR D [t.getD l 0,t.getD (rest g l) 0]) (qcx com g))
def tabV:Nat→List Nat
 | 0=>[]
 | k+1=>tabV k++[valV com U D A (tabV k) k]
def V (g:Nat):Nat:=valV com U D A (tabV com U D A g) g
theorem qhn:∀ k,(tabV com U D A k).length=k
 | 0=>rfl
 | k+1=>by rw [tabV,List.length_append,qhn k];rfl
theorem qlw:∀ (k l:Nat),l<k→(tabV com U D A k).getD l 0=V com U D A l
 | 0,l,h=>absurd h (Nat.not_lt_zero _)
 | k+1,l,h=>by
  rw [tabV];by_cases e:l=k
  ·subst e
   rw [List.getD,List.getElem?_append_right (by rw [qhn];exact Nat.le_refl _),qhn,Nat.sub_self];rfl
  ·have hl:l<k:=o_
   rw [List.getD,List.getElem?_append_left (by rw [qhn];exact hl)];exact qlw k l hl
theorem qvv {i:Nat}(h:i<16):V com U D A (2 ^ i)=A.getD i 0:=by
 have e:qdw (2 ^ i)=some i:=by
  unfold qdw;rw [List.find?_range_eq_some];refine ⟨by simp,List.mem_range.2 h,fun j hj=>?_⟩;have:=Nat.pow_lt_pow_right (a:=2) (by decide) hj;simp;omega
 rw [V,valV,e]
theorem qro {g:Nat}(h:qdw g=none):V com U D A g=upC U (orL (fun l=>giveR D [V com U D A l,V com U D A (rest g l)]) (qcx com g)):=by
 rw [V,valV,h];show upC U _=upC U _;rw [qiv fun l hl=>?_];obtain ⟨h1,h2,h3⟩:=qka hl;rw [qlw com U D A g l h2,qlw com U D A g _ (qlu h3 h1)]
theorem V_lt (hU:Lim U)(hA:∀ i,A.getD i 0<2 ^ U.length)(g:Nat):V com U D A g<2 ^ U.length:=by
 unfold V valV;split
 ·exact hA _
 ·exact qiw hU _
end
theorem qt2 {g:Nat}(_h:g<65536)(h2:2≤(els g).length):qdw g=none:=by
 unfold qdw;rw [List.find?_eq_none];intro i hi e;have e':g=2 ^ i:=by simpa using e
 have aa:i<16:=List.mem_range.1 hi;have h3:∀ i:Fin 16,(els (2 ^ i.val)).length=1:=by decide +kernel
 have:=h3 ⟨i,aa⟩;rw [e'] at h2;simp only at this;omega
def cnt (g:Nat):Nat:=(els g).length
theorem qnp:∀ g:Fin 128,cnt g.val≤7∧(cnt g.val=0→g.val=0)∧(cnt g.val=1→∃ i:Fin 7,g.val=2 ^ i.val):=by decide +kernel
theorem qvw:∀ g:Fin 128,∀ l∈lefts g.val,cnt l<cnt g.val∧cnt (rest g.val l)<cnt g.val:=by decide +kernel
theorem qt3:∀ n:Fin 8,∀ g:Fin 128,g.val<2 ^ n.val→cnt g.val≤n.val:=by decide +kernel
theorem qvx {i:Nat}(h:i<16):lefts (2 ^ i)=[]:=by
 have:∀ i:Fin 16,lefts (2 ^ i.val)=[]:=by decide +kernel
 exact this ⟨i,h⟩
def Done (com:Bool)(U:List Nat)(D:List (List Int×Int))(A:List Nat)(s g:Nat)(f:Nat→Nat):Prop:=
 ∀ x,0<x→x<2 ^ A.length→(cnt x<s∨cnt x=s∧x<g)→f x=V com U D A x
section
variable {com:Bool} {U:List Nat} {D:List (List Int×Int)} {A:List Nat}
theorem qvy {s g:Nat}{f:Nat→Nat}(h:Done com U D A s g f)(hn:cnt g≠s):Done com U D A s (g+1) f:=by
 intro x h0 hx hc;refine h x h0 hx ?_;rcases hc with hc|⟨hc,hg⟩
 ·exact .inl hc
 ·refine .inr ⟨hc,?_⟩
  have:x≠g:=fun e=>hn (e ▸ hc)
  omega
theorem qvz {s g:Nat}{f:Nat→Nat}(h:Done com U D A s g f){v:Nat}(hv:v=V com U D A g):Done com U D A s (g+1) (fun x=>if x=g then v else f x):=by
 intro x h0 hx hc;by_cases e:x=g
 ·subst e;simp only [if_pos];exact hv
 ·simp only [if_neg e]
  refine h x h0 hx ?_;rcases hc with hc|⟨hc,hg⟩
  ·exact .inl hc
  ·exact .inr ⟨hc,by omega⟩
theorem qw0 {s g:Nat}{f:Nat→Nat}(h:Done com U D A s g f)(hg:2 ^ A.length≤g):Done com U D A (s+1) 0 f:=by
 intro x h0 hx hc;refine h x h0 hx ?_;rcases hc with hc|⟨_,hc⟩
 ·by_cases e:cnt x=s
  ·exact .inr ⟨e,by omega⟩
  ·exact .inl o_
 ·exact absurd hc (Nat.not_lt_zero _)
theorem qlx (h7:A.length≤7):2 ^ A.length≤128:=Nat.le_trans (Nat.pow_le_pow_right (by decide) h7) (by decide)
theorem qt4 (h7:A.length≤7){f:Nat→Nat}(h:∀ i,i<A.length→f (2 ^ i)=A.getD i 0):Done com U D A 2 0 f:=by
 intro x h0 hx hc;have hp:=qlx h7;rcases hc with hc|⟨_,hc⟩
 ·obtain ⟨_,h1,h2⟩:=qnp ⟨x,by omega⟩
  simp only at h1 h2;have aa:cnt x=1:=by
   have:cnt x≠0:=fun e=>by have:=h1 e;omega
   omega
  obtain ⟨i,hi⟩:=h2 aa;have ab:i.val<A.length:=by
   rw [hi] at hx;exact (Nat.pow_lt_pow_iff_right (by decide)).1 hx
  rw [hi,h _ ab,qvv];omega
 ·exact absurd hc (Nat.not_lt_zero _)
theorem qw1 (h7:A.length≤7){s g:Nat}{f:Nat→Nat}(h:Done com U D A s g f)(hc:cnt g=s)(h2:2≤s)(hg:g<2 ^ A.length):
  V com U D A g=upC U (orL (fun l=>giveR D [f l,f (rest g l)]) (qcx com g)):=by
 have hp:=qlx h7;rw [qro com U D A (qt2 o_ (by show 2≤cnt g;omega))];congr 1
 refine (qiv fun l hl=>?_).symm;obtain ⟨h3,h4,h5⟩:=qka hl;have h6:=qvw ⟨g,by omega⟩ l (List.mem_filter.1 hl).1;simp only at h6;have h8:=qlu h5 h3;have h9:=qlv h5 h4;rw [h l h3 o_ (.inl o_),h _ h9 o_ (.inl o_)]
theorem qt5 (h7:A.length≤7)(h1:1≤A.length){g:Nat}{f:Nat→Nat}(h:Done com U D A (A.length+1) g f):f (2 ^ A.length-1)=V com U D A (2 ^ A.length-1):=by
 have hp:=qlx h7;have h3:2 ^ 1≤2 ^ A.length:=Nat.pow_le_pow_right (by decide) h1;refine h _ o_ o_ (.inl ?_);have:=qt3 ⟨A.length,by omega⟩ ⟨2 ^ A.length-1,by omega⟩ (by show 2 ^ A.length-1<2 ^ A.length;omega);simp only at this;omega
end
def iv (i j:Nat):Nat:=2 ^ (j+1)-2 ^ i
theorem qyr:∀ i:Fin 7,∀ j:Fin 7,i.val<j.val→qcx false (iv i.val j.val)=((List.range (j.val-i.val)).map fun k=>iv i.val (i.val+k)).reverse∧qdw (iv i.val j.val)=none∧(∀ k:Fin 7,i.val+k.val<j.val→rest (iv i.val j.val) (iv i.val (i.val+k.val))=iv (i.val+k.val+1) j.val):=by decide +kernel
theorem qCa (i:Nat):iv i i=2 ^ i:=by unfold iv;rw [Nat.pow_succ];omega
theorem qys (n:Nat)(h:1≤n):iv 0 (n-1)=2 ^ n-1:=by unfold iv;rw [show n-1+1=n by omega]
def qdo (U:List Nat)(D:List (List Int×Int))(A:List Nat)(i j k:Nat):Nat:=orL (fun k=>upC U (giveR D [V false U D A (iv i (i+k)),V false U D A (iv (i+k+1) j)])) (List.range k)
theorem qnq (U:List Nat)(D:List (List Int×Int))(A:List Nat)(i j k:Nat):qdo U D A i j (k+1)=qdo U D A i j k ||| upC U (giveR D [V false U D A (iv i (i+k)),V false U D A (iv (i+k+1) j)]):=by
 rw [qdo,List.range_succ,qls];rfl
theorem qpd (U:List Nat)(D:List (List Int×Int))(A:List Nat){i j:Nat}(aa:i<j)(hj:j<7):qdo U D A i j (j-i)=V false U D A (iv i j):=by
 obtain ⟨h1,h2,h3⟩:=qyr ⟨i,by omega⟩ ⟨j,hj⟩ aa;simp only at h1 h2 h3;rw [qro false U D A h2,h1,qpb,qdo];refine Eq.trans ?_ (qB4 (L:=(List.range (j-i)).map fun k=>iv i (i+k)) (fun x=>by rw [List.mem_reverse]));rw [qB5];refine qiv fun k hk=>?_
 have ab:=List.mem_range.1 hk;rw [h3 ⟨k,by omega⟩ (by show i+k<j;omega)]
def sortsA (U:List Nat)(D:List (List Int×Int))(ass com:Bool)(A:List Nat):Nat:=if ass || com then V com U D A (2 ^ A.length-1) else upC U (giveR D A)
theorem qpe:qcx true 3=[2,1]∧qdw 3=none:=by decide +kernel
theorem qCt (U:List Nat)(D:List (List Int×Int))(a b:Nat):V true U D [a,b] 3=upC U (giveR D [a,b]) ||| upC U (giveR D [b,a]):=by
 obtain ⟨h1,h2⟩:=qpe;rw [qro true U D _ h2,h1,qpb];have e1:V true U D [a,b] 1=a:=qvv true U D [a,b] (i:=0) (by decide);have e2:V true U D [a,b] 2=b:=qvv true U D [a,b] (i:=1) (by decide);show (0 ||| upC U (giveR D [V true U D [a,b] 2,V true U D [a,b] (rest 3 2)])) ||| upC U (giveR D [V true U D [a,b] 1,V true U D [a,b] (rest 3 1)])=_
 rw [show rest 3 2=1 from rfl,show rest 3 1=2 from rfl,e1,e2,Nat.zero_or,Nat.or_comm]
theorem qw2 {U:List Nat}(hU:Lim U)(D:List (List Int×Int))(ass com:Bool){A:List Nat}(hA:∀ i,A.getD i 0<2 ^ U.length):sortsA U D ass com A<2 ^ U.length:=by
 unfold sortsA;split
 ·exact V_lt com U D A hU hA _
 ·exact qiw hU _
end tsm

namespace tsi
open mem subs setm sets sortp sorti rowl sigm sigs tsm
def u16s (A:List Nat):List Value:=A.map fun (a:Nat)=>Value.int .u16 (a:Int)
theorem qho (A:List Nat):(u16s A).length=A.length:=by simp [u16s]
theorem qrp (A:List Nat)(k:Nat)(h:k<A.length):(u16s A).getD k undef=.int .u16 ((A.getD k 0:Nat):Int):=by
 simp [u16s,List.getD,List.getElem?_map,List.getElem?_eq_getElem h]
theorem qw3 (A:List Nat)(a:Nat):u16s (A++[a])=u16s A++[.int .u16 (a:Int)]:=by simp [u16s]
theorem qpf (s t:Nat)(_hs:s<65536)(ht:t<65536)(r:Bool)(hr:befo s t=r)(w:World):
  Calls Tryz.prog 248 #[.int .u16 (s:Int),.int .u16 (t:Int)] w fun e w'=>e=.returned (.bool r)∧w=w':=by
 subst hr
 have H:Hid (decide ((s:Int)<bits .and .u16 (t:Int) (IntKind.u16.wrap (-(t:Int))))=befo s t):=z_ (by
  have e:IntKind.u16.wrap (-(t:Int))=(((65536-t) % 65536:Nat):Int):=by
   simp [IntKind.wrap,IntKind.bits,IntKind.signed];omega
  rw [e,qkm t _ ht o_,befo,decide_eq_decide];by_cases h0:t=0
  ·subst h0;simp
  ·rw [Nat.mod_eq_of_lt o_];omega)
 go_enter Tryz.func248,Tryz.ntmps248
 go_wp2;go_ret;exact ⟨qa0 (by rw [← H.out];try simp),rfl⟩
theorem qyt (U:List Nat)(L:List Nat)(k:Nat):orL (fun k=>U.getD k 0) (L++[k])=orL (fun k=>U.getD k 0) L ||| U.getD k 0:=qls _ _ _
theorem qkb (U:List Nat)(hU:Lim U)(S:Nat)(hS:S<65536)(v:Value)(w:World)(hM:MapU w v U):
  Calls Tryz.prog 240 #[v,.int .u16 (S:Int)] w fun e w'=>e=.returned (.int .u16 ((upC U S:Nat):Int))∧Below w.heap.size w w':=by
 have HE:=z_ (fun W=>qxf S hS W);have HM:=z_ hM;have HU:=z_ hU;have ai:=z_ (fun L=>w_ (qnm (fun k=>U.getD k 0) L U.length (fun k _=>hU.2 k)) (Nat.le_trans (pow8 hU.1) (by decide:256≤65536)));have HT:=z_ (fun j (h:j<(els S).length)=>qCp (els S) j h);have ac:=z_ (fun j (h:j<(els S).length)=>qBy h);have ab:=z_ (qdz S 16);rw [show qby S 16=els S from rfl] at ab;unfold upC;obtain ⟨E,hE⟩:=e_ (els S);rw [← hE] at HE HT ac ab ⊢;obtain ⟨m,hm⟩:=e_ (E.length);rw [← hm] at HE HT ac ab;have aj:m≤16:=ab.out;have ad:=z_ hm;clear hM hU hE hm;go_enter Tryz.func240,Tryz.ntmps240
 go_wp2_with (go_at_call 245;refine (HE.out _).mono ?_;rintro e w1 ⟨ev,rfl,hown,ae⟩;obtain ⟨A,c,rfl,hh⟩:=(Has.of_own hown).shape (n:=m) (by rw [qas];simp [nats];exact ad.out.symm);have HH:=z_ hh;clear hown hh)
 go_loop [5,11] (fun s i=>∃ j:Nat,j≤m∧i=.int .i64 j∧s=.int .u16 ((orL (fun k=>U.getD k 0) (E.take j):Nat):Int)) (fun _ i=>m-(intOf i).toNat)
 case atStart=>exact ⟨0,y_,rfl,rfl⟩
 case round=>
  obtain ⟨j,hj,rfl,rfl⟩:=hrel;by_cases hlt:j<m
  ·obtain ⟨g,o,rfl,hg,hcell⟩:=HH.out.cellAt hlt
   rw [qag _ j (by simp [nats];have:=ad.out;omega),qat] at hcell;have hk:=ac.out j hlt;have aa:=qyt U (E.take j) (E.getD j 0);rw [← HT.out j hlt] at aa;have af:=ai.out (E.take j);obtain ⟨k,ag⟩:=e_ (E.getD j 0);rw [← ag] at hcell hk aa;have k1:=(HM.out.below ae).look (x:=(k:Int)) o_ o_;rw [qgm] at k1;have ah:=HU.out.lt k;obtain ⟨G,hG⟩:=e_ (orL (fun k=>U.getD k 0) (E.take j));rw [← hG] at aa af ⊢;obtain ⟨u,hu⟩:=e_ (U.getD k 0);rw [← hu] at k1 ah aa;have a1:=qq6 G u af ah;have ak:=z_ aa;clear ag hG hu aa;go_wp2;go_round
   case rel=>exact ⟨j+1,by omega,by go_num,by rw [ak.out]⟩
   case measure=>simp [intOf];omega
  ·obtain rfl:j=m:=o_
   have al:Hid (E.take j=E):=z_ (by rw [ad.out,List.take_length]);rw [al.out];go_wp2;go_ret;exact ⟨rfl,ae⟩
theorem qly (A:List Nat)(d:List Int)(hA:∀ i,A.getD i 0<65536)(hd:∀ k,k<d.length→0≤d.getD k 0∧d.getD k 0<16)(hl:d.length≤A.length)(va vd:Value)(r:Bool)(hr:fitD A d=r)(w:World)(h1:Has w va (u16s A))(h2:Has w vd (ivs d)):
  Calls Tryz.prog 246 #[va,vd] w fun e w'=>e=.returned (.bool r)∧w=w':=by
 obtain ⟨m,hm⟩:=e_ (d.length);obtain ⟨p,hp⟩:=e_ (A.length);obtain ⟨Aa,ca,rfl,h1⟩:=h1.shape (n:=p) (by rw [qho,hp]);obtain ⟨Ad,cd,rfl,h2⟩:=h2.shape (n:=m) (by rw [qas,hm]);have ae:=h1.len.2;have af:=h2.len.2;rw [← hm,← hp] at hl;rw [← hm] at hd;have H1:=z_ h1;have H2:=z_ h2;have HR:=z_ hr;have HM:=z_ hm;have HP:=z_ hp;have HA:=z_ hA;have HD:=z_ hd;clear h1 h2 hr hm hp hA hd;go_enter Tryz.func246,Tryz.ntmps246
 go_wp2;go_loop [5,6,9] (fun _ _ i=>∃ k:Nat,k≤m∧i=.int .i64 k∧Hid (qix A d k=true)) (fun _ _ i=>m-(intOf i).toNat)
 case atStart=>exact ⟨0,y_,rfl,z_ rfl⟩
 case round=>
  obtain ⟨k,hk,rfl,HF⟩:=hrel;by_cases hlt:k<m
  ·obtain ⟨g,o,rfl,hg,hcell⟩:=H2.out.cellAt hlt
   rw [qag _ k (by have:=HM.out;omega)] at hcell;obtain ⟨g2,o2,rfl,hg2,aa⟩:=H1.out.cellAt (show k<p by omega);rw [qrp _ k (by have:=HP.out;omega)] at aa;have hd0:=HD.out k hlt;have ac:=HA.out k;have HS:=z_ (qk6 A d k);have HN:Hid ((A.getD k 0).testBit (d.getD k 0).toNat=false→fitD A d=false):=z_ (fun h=>qyp (by have:=HM.out;omega) h);obtain ⟨x,hx⟩:=e_ (d.getD k 0);rw [← hx] at hcell hd0 HS HN;obtain ⟨a,ha⟩:=e_ (A.getD k 0);rw [← ha] at aa ac HS HN;obtain ⟨j,rfl⟩:∃ j:Nat,x=(j:Int):=⟨x.toNat,by omega⟩;rw [Int.toNat_natCast] at HS HN;have ab:j<16:=o_;clear hx ha;have i1:(0:Int)≤(k:Int):=o_;have i2:(k:Int)<(p:Int):=o_;have i3:(k:Int)<(m:Int):=o_;cases hb:a.testBit j with
   | true=>
    have HC:=z_ (fun W=>qce a j ac ab true hb W);have ad:Hid (qix A d (k+1)=true):=z_ (by rw [HS.out,HF.out,hb];rfl);clear hb;go_wp2_with (go_at_call 153;refine (HC.out _).mono ?_;rintro e w1 ⟨rfl,rfl⟩)
    go_round
    case rel=>exact ⟨k+1,by omega,by go_num,ad⟩
    case measure=>simp [intOf];omega
   | false=>
    have HC:=z_ (fun W=>qce a j ac ab false hb W);have HQ:Hid (r=false):=z_ (by rw [← HR.out,HN.out hb]);clear hb;go_wp2_with (go_at_call 153;refine (HC.out _).mono ?_;rintro e w1 ⟨rfl,rfl⟩)
    go_ret;exact ⟨qa0 HQ.out.symm,rfl⟩
  ·obtain rfl:k=m:=o_
   have HQ:Hid (r=true):=z_ (by rw [← HR.out,fitD,← HM.out,HF.out]);go_wp2;go_ret;exact ⟨qa0 HQ.out.symm,rfl⟩
end tsi
end Go.Proofs.YtiilamngcoegiaaGreat
