/- parts -/
import Derived.Test.YtiilamngcoegiaaGreatSiga
namespace Go.Proofs.YtiilamngcoegiaaGreat
open Go.ChangeShapes Go.WideShapes Go.ChangeAt Go.RowKit
namespace sigb
open mem subs sortn sortp sorti sorts rowl sigm sigs sigl siga sigr sigv
theorem qpo {P:List (List UInt8)}{Q:List (Int×Int)}{O:List OpM}(h:okS P Q=false):qad P Q O=false:=by rw [qad,h];rfl
theorem qwn {P:List (List UInt8)}{Q:List (Int×Int)}{O:List OpM}(h:14<O.length):qad P Q O=false:=by
 have:¬ O.length≤14:=o_;simp [qad,qex,this]
theorem qkf {P:List (List UInt8)}{Q:List (Int×Int)}{O:List OpM}{k:Nat}(hk:k<O.length)(h:qaz (O.getD k default).name=false∨(O.getD k default).name∈(nms O).take k):qad P Q O=false:=by
 have:qb2 (nms O) O.length=false:=qf7 _ k _ hk (by rw [qic O k hk];exact h);simp [qad,qex,this]
theorem c85_ {p:Prop}(h:p:=by
 rw [List.all_eq_false];refine ⟨O[k],List.getElem_mem hk,?_⟩;have e:O.getD k default=O[k]:=by simp [List.getD,List.getElem?_eq_getElem hk]
 rw [← e,h];simp
):p:=h
theorem qpp {P:List (List UInt8)}{Q:List (Int×Int)}{O:List OpM}{k:Nat}(hk:k<O.length)(h:qab P.length (κK P.length Q) (O.getD k default).decls=false):qad P Q O=false:=by
 have:(O.all fun o=>qab P.length (κK P.length Q) o.decls)=false:=by
  exact c85_
 simp [qad,qex,this]
theorem qz4 {P:List (List UInt8)}{Q:List (Int×Int)}{O:List OpM}{k:Nat}(hk:k<O.length)(h:axOk (κK P.length Q) O (O.getD k default)=false):qad P Q O=false:=by
 have:O.all (axOk (κK P.length Q) O)=false:=by
  exact c85_
 simp [qad,qex,this]
theorem qwo {O:List OpM}{f:OpM→Bool}(h:∀ k,k<O.length→f (O.getD k default)=true):∀ o∈O,f o=true:=by
 intro o ho;obtain ⟨k,hk,rfl⟩:=List.getElem_of_mem ho;have:=h k hk;simpa [List.getD,List.getElem?_eq_getElem hk] using this
theorem qtb {P:List (List UInt8)}{Q:List (Int×Int)}{O:List OpM}(h1:okS P Q=true)(h2:O.length≤14)(h3:qb2 (nms O) O.length=true)(h4:∀ o∈O,qab P.length (κK P.length Q) o.decls=true)(h5:∀ o∈O,axOk (κK P.length Q) O o=true):qad P Q O=true:=by
 simp only [qad,qex,Bool.and_eq_true,List.all_eq_true,decide_eq_true_eq];exact ⟨h1,⟨⟨h2,h3⟩,h4⟩,h5⟩
set_option maxRecDepth 100000 in
set_option maxHeartbeats 8000000 in
theorem qkg (P:List (List UInt8))(Q:List (Int×Int))(O:List OpM)(va vb vc:Value)(r:Bool)(hr:qad P Q O=r)(w:World)(h:HasG w va vb vc P Q O):
  Calls Tryz.prog 79 #[.agg #[va,vb,vc]] w fun e w'=>e=.returned (.bool r)∧Below w.heap.size w w':=by
 have aW:=z_ (fun r hr W (hW:Below w.heap.size w W)=>qnc P Q va vb r hr W (h.below n_ hW).s);obtain ⟨A,ca,B,cb,C,cc,rfl,rfl,rfl,bp,bq,bi,h'⟩:=h.shape;have aX:=z_ (fun W (hW:Below w.heap.size w W)=>h'.below n_ hW);have br:=z_ (qig h'.o);obtain ⟨n,hn⟩:=e_ (O.length);have HN:=z_ hn;rw [← hn] at bi aX ⊢;have HR:=z_ hr;clear h h' hn hr;cases ap:okS P Q with
 | false=>
  have ad:Hid (r=false):=z_ (by rw [← HR.out];exact qpo ap);have HS:=z_ (aW.out false ap);clear ap;go_enter Tryz.func79,Tryz.ntmps79
  go_wp2_with fail
  refine (HS.out _ (b_.alloc n_ _)).mono ?_;rintro e w1 ⟨rfl,ak⟩;go_wp2;go_ret;exact ⟨qa0 ad.out.symm,(b_.alloc n_ _).trans (ak.mono (by simp))⟩
 | true=>
  have HS:=z_ (aW.out true ap);have aK:=z_ ap;clear ap;go_enter Tryz.func79,Tryz.ntmps79
  go_wp2_with fail
  refine (HS.out _ (b_.alloc n_ _)).mono ?_;rintro e w1 ⟨rfl,ak⟩;have ag:Below w.heap.size w w1:=(b_.alloc n_ _).trans (ak.mono (by simp));have aL:w.heap.size<w1.heap.size:=by have:=ak.size;simp at this;omega
  have s0:w1.cell? ⟨w.heap.size,0,none⟩=some (.slice A P.length ca):=by rw [ak.cell (p:=⟨w.heap.size,0,none⟩) (by simp)];simp
  have s1:w1.cell? ⟨w.heap.size,1,none⟩=some (.slice B Q.length cb):=by rw [ak.cell (p:=⟨w.heap.size,1,none⟩) (by simp)];simp
  have s2:w1.cell? ⟨w.heap.size,2,none⟩=some (.slice C n cc):=by rw [ak.cell (p:=⟨w.heap.size,2,none⟩) (by simp)];simp
  have aA:=z_ (aX.out _ ag);clear ak;by_cases bj:14<n
  ·have ad:Hid (r=false):=z_ (by rw [← HR.out];exact qwn (by have:=HN.out;omega))
   go_wp2;go_ret;exact ⟨qa0 ad.out.symm,ag⟩
  have ab:=z_ ag;clear ag;go_wp2_with fail
  go_loopw [3] (fun i wr=>∃ k:Nat,k≤n∧i=.int .i64 k∧Hid (qb2 (nms O) k=true∧∀ j,j<k→qab P.length (κK P.length Q) (O.getD j default).decls=true)∧Below w1.heap.size w1 wr) (fun i _=>n-(intOf i).toNat)
  case atStart=>exact ⟨0,y_,rfl,z_ ⟨rfl,fun j hj=>by omega⟩,Below.refl _ _⟩
  case round=>
   obtain ⟨k,hk,rfl,ah,aa⟩:=hrel;have ai:=aa.size;have af:w.heap.size<wr.heap.size:=o_;have aB:wr.cell? ⟨w.heap.size,0,none⟩=some (.slice A P.length ca):=(aa.cell (by exact aL)).trans s0;have aC:wr.cell? ⟨w.heap.size,1,none⟩=some (.slice B Q.length cb):=(aa.cell (by exact aL)).trans s1;have aD:wr.cell? ⟨w.heap.size,2,none⟩=some (.slice C n cc):=(aa.cell (by exact aL)).trans s2;by_cases hlt:k<n
   ·obtain ⟨g,o,A2,c2,rfl,_,hg,aw,aE,aF,aG,aH,hh,aM,aN⟩:=qcg aA.out.o hlt
    have kw:∀ x,w1.cell? ⟨g,x,none⟩=wr.cell? ⟨g,x,none⟩:=fun x=>(aa.cell (p:=⟨g,x,none⟩) hg).symm
    rw [kw] at aw aE aF aG aH;have am:g<wr.heap.size:=o_;have aY:Hid (qaz (O.getD k default).name=false→r=false):=z_ (fun hb=>by rw [← HR.out];exact qkf (by have:=HN.out;omega) (.inl hb));have aZ:Hid (qab P.length (κK P.length Q) (O.getD k default).decls=false→r=false):=z_ (fun hb=>by rw [← HR.out];exact qpp (by have:=HN.out;omega) hb);have a2:Hid ((O.getD k default).name∈(nms O).take k→r=false):=z_ (fun hb=>by rw [← HR.out];exact qkf (by have:=HN.out;omega) (.inr hb))
    have al:Hid (qaz (O.getD k default).name=true→qab P.length (κK P.length Q) (O.getD k default).decls=true→(O.getD k default).name ∉ (nms O).take k→
      qb2 (nms O) (k+1)=true∧∀ j,j<k+1→qab P.length (κK P.length Q) (O.getD j default).decls=true):=z_ (fun h1 h2 h3=>by
     refine ⟨?_,fun j hj=>?_⟩
     ·rw [qe5,ah.out.1,qic O k (by have:=HN.out;omega),h1,decide_eq_false h3];rfl
     ·by_cases e:j=k
      ·subst e;exact h2
      ·exact ah.out.2 j o_)
    obtain ⟨⟨nm,D,a,b,u⟩,hd⟩:∃ d,d=O.getD k default:=⟨_,rfl⟩;rw [← hd] at aw aE aF aG aH hh aM aY aZ a2 al;have a6:=z_ (fun r hr W=>qfl nm aM r hr W)
    have ax:Hid (∀ r W,qab P.length (κK P.length Q) D=r→Below w1.heap.size w1 W→Calls Tryz.prog 133 #[.agg #[.slice A P.length ca,.slice B Q.length cb,.slice (some ⟨g,o,none⟩) n cc],.agg #[.string (bstr nm),.slice A2 D.length c2,.bool a,.bool b,.int .i64 u]] W fun e w'=>e=.returned (.bool r)∧Below W.heap.size W w'):=
     z_ (fun r W hr hW=>qp4 P Q aK.out _ _ _ n cc nm D _ a b u r hr W (aA.out.below n_ hW).s (hh.below qa7 n_ hW))
    obtain ⟨dn,aO⟩:=e_ (D.length);rw [← aO] at ax;have ay:wr.cell? ⟨g,o+k*5+1,none⟩=some (.slice A2 dn c2):=by rw [aO];exact aE
    clear hh hd kw aM aN aO aE;cases aq:qaz nm with
    | false=>
     have ad:=z_ (aY.out aq);have aP:=z_ (fun W=>a6.out false aq W);clear aq;go_wp2;go_quiet ((go_at_call 132;exact (aP.out _).mono (fun _ _ h=>⟨h.1,_,h.2.symm⟩)))
     go_wp2;go_ret;exact ⟨qa0 ad.out.symm,by first|exact qa3 (ab.out.trans (aa.mono ab.out.size)) _|exact ab.out.trans (aa.mono ab.out.size)⟩
    | true=>
     have aP:=z_ (fun W=>a6.out true aq W);have aQ:=z_ aq;clear aq;obtain ⟨q,hq⟩:∃ q,qab P.length (κK P.length Q) D=q:=⟨_,rfl⟩;have bk:=z_ (fun W hW=>ax.out q W hq hW);have HQ:=z_ hq;clear hq;go_wp2_with fail
     obtain ⟨wo,rfl⟩:∃ wo,wo=wr:=⟨wr,rfl⟩;refine qa1 (C:=fun w'=>Below wo.heap.size wo w') k_ k_ b_.drew ?_;have nb:Nonempty (BoxC fun w'=>Below wo.heap.size wo w'):=⟨⟨_,Below.refl _ _⟩⟩;have r0:∀ t:BoxC (fun w'=>Below wo.heap.size wo w'),t.W.cell? ⟨w.heap.size,0,none⟩=some (.slice A P.length ca):=fun t=>(t.h.cell (by exact af)).trans aB
     have r1:∀ t:BoxC (fun w'=>Below wo.heap.size wo w'),t.W.cell? ⟨w.heap.size,1,none⟩=some (.slice B Q.length cb):=fun t=>(t.h.cell (by exact af)).trans aC
     have r2:∀ t:BoxC (fun w'=>Below wo.heap.size wo w'),t.W.cell? ⟨w.heap.size,2,none⟩=some (.slice (some ⟨g,o,none⟩) n cc):=fun t=>(t.h.cell (by exact af)).trans aD
     have r3:∀ t:BoxC (fun w'=>Below wo.heap.size wo w'),t.W.cell? ⟨g,o+k*5,none⟩=some (.string (bstr nm)):=fun t=>(t.h.cell (by exact am)).trans aw
     have r4:∀ t:BoxC (fun w'=>Below wo.heap.size wo w'),t.W.cell? ⟨g,o+k*5+1,none⟩=some (.slice A2 dn c2):=fun t=>(t.h.cell (by exact am)).trans ay
     have r5:∀ t:BoxC (fun w'=>Below wo.heap.size wo w'),t.W.cell? ⟨g,o+k*5+2,none⟩=some (.bool a):=fun t=>(t.h.cell (by exact am)).trans aF
     have r6:∀ t:BoxC (fun w'=>Below wo.heap.size wo w'),t.W.cell? ⟨g,o+k*5+3,none⟩=some (.bool b):=fun t=>(t.h.cell (by exact am)).trans aG
     have r7:∀ t:BoxC (fun w'=>Below wo.heap.size wo w'),t.W.cell? ⟨g,o+k*5+4,none⟩=some (.int .i64 u):=fun t=>(t.h.cell (by exact am)).trans aH
     repeat (go_big_quiet_step (first
      | (go_at_call 132;exact (aP.out _).mono (fun _ _ h=>⟨h.1,_,by first|exact h.2|exact h.2.symm⟩))
      | (go_at_call 133;exact (bk.out _ (aa.trans (Below.mono (BoxC.h _) ai))).mono (fun _ _ h=>⟨h.1,⟨_,Below.trans (BoxC.h _) (h.2.mono (Below.size (BoxC.h _)))⟩,rfl⟩))))
     refine wpQuiet_nil ?_;rintro w5 ⟨⟨W8,au⟩,a7⟩;have aR:w5=W8:=a7;subst aR;clear a7 r0 r1 r2 r3 r4 r5 r6 r7 nb;have aj:=aa.trans (au.mono ai);have aS:w1.heap.size≤w5.heap.size:=aj.size;have S0:w5.cell? ⟨w.heap.size,0,none⟩=some (.slice A P.length ca):=(au.cell (by exact af)).trans aB;have S1:w5.cell? ⟨w.heap.size,1,none⟩=some (.slice B Q.length cb):=(au.cell (by exact af)).trans aC;have S2:w5.cell? ⟨w.heap.size,2,none⟩=some (.slice (some ⟨g,o,none⟩) n cc):=(au.cell (by exact af)).trans aD;have C0:w5.cell? ⟨g,o+k*5,none⟩=some (.string (bstr nm)):=(au.cell (by exact am)).trans aw;have az:=z_ aj;have ae:=z_ (ab.out.trans (aj.mono ab.out.size));clear aB aC aD aw ay aF aG aH au aj aa am af ai s0 s1 s2;cases q with
     | false=>
      have ad:=z_ (aZ.out HQ.out);go_wp2;go_ret;exact ⟨qa0 ad.out.symm,ae.out⟩
     | true=>
      go_wp2_with fail
      go_loopw [4] (fun i wr=>∃ q:Nat,q≤k∧i=.int .i64 q∧Hid (nm ∉ (nms O).take q)∧Below w5.heap.size w5 wr) (fun i _=>k-(intOf i).toNat)
      case atStart=>exact ⟨0,y_,rfl,z_ (by simp),Below.refl _ _⟩
      case round=>
       obtain ⟨q,hq,rfl,a8,ac⟩:=hrel;have bl:w.heap.size<w5.heap.size:=o_;have ba:g<w5.heap.size:=o_;have T2:wr.cell? ⟨w.heap.size,2,none⟩=some (.slice (some ⟨g,o,none⟩) n cc):=(ac.cell (by exact bl)).trans S2;have D0:wr.cell? ⟨g,o+k*5,none⟩=some (.string (bstr nm)):=(ac.cell (by exact ba)).trans C0;by_cases aI:q<k
       ·obtain ⟨g',o',A6,c6,bb,_,bm,e0,_,_,_,_,_,_,_⟩:=qcg aA.out.o (j:=q) o_
        simp only [Option.some.injEq,Addr.mk.injEq,and_true] at bb;obtain ⟨rfl,rfl⟩:=bb;rw [← az.out.cell (p:=⟨g,o+q*5,none⟩) bm,← ac.cell (p:=⟨g,o+q*5,none⟩) ba] at e0;have bc:Hid (¬ (O.getD q default).name=nm→nm ∉ (nms O).take (q+1)):=z_ (fun hx=>qxv (by rw [ql2];have:=HN.out;omega) a8.out (by rw [qic O q (by have:=HN.out;omega)];exact hx))
        have bd:Hid ((O.getD q default).name=nm→r=false):=z_ (fun hx=>a2.out (by
         rw [← hx,← qic O q (by have:=HN.out;omega)];have be:q<(nms O).length:=by rw [ql2];have:=HN.out;omega
         rw [List.getD_eq_getElem?_getD,List.getElem?_eq_getElem be,List.mem_iff_getElem?]
         exact ⟨q,by rw [List.getElem?_take,if_pos aI,List.getElem?_eq_getElem be];rfl⟩))
        obtain ⟨x,hx⟩:=e_ ((O.getD q default).name);rw [← hx] at e0 bc bd;clear hx;by_cases aJ:x=nm
        ·subst aJ
         have ad:=z_ (bd.out rfl);go_wp2;go_quiet (fail)
         go_wp2;go_ret;exact ⟨qa0 ad.out.symm,by first|exact qa3 (ae.out.trans (ac.mono ae.out.size)) _|exact ae.out.trans (ac.mono ae.out.size)⟩
        ·have bs:((bstr x).toList==(bstr nm).toList)=false:=by rw [qf4];simpa using aJ
         have bn:=z_ (bc.out aJ);clear aJ;go_wp2;go_quiet (fail)
         go_wp2;go_roundw
         case rel=>exact ⟨q+1,by omega,by go_num,bn,by first|exact ac|exact qa3 ac _⟩
         case measure=>simp [intOf];omega
       ·obtain rfl:q=k:=o_
        have HG:=z_ (al.out aQ.out HQ.out a8.out);go_wp2;go_roundw
        case rel=>exact ⟨q+1,by omega,by go_num,HG,az.out.trans (ac.mono aS)⟩
        case measure=>simp [intOf];omega
   ·obtain rfl:k=n:=o_
    have bf:Hid (∀ o∈O,qab P.length (κK P.length Q) o.decls=true):=z_ (qwo (f:=fun o=>qab P.length (κK P.length Q) o.decls) (fun j hj=>ah.out.2 j (by have:=HN.out;omega)));have aT:Hid (qb2 (nms O) O.length=true):=z_ (by rw [← HN.out];exact ah.out.1)
    have bg:Hid (∀ (i:Nat) (W:World) (q:Bool),i<k→axOk (κK P.length Q) O (O.getD i default)=q→Below w1.heap.size w1 W→Calls Tryz.prog 134 #[.agg #[.slice A P.length ca,.slice B Q.length cb,.slice C k cc],.int .i64 (i:Int)] W fun e w'=>e=.returned (.bool q)∧Below W.heap.size W w'):=
     z_ (fun i W q hi hq hW=>qo0 P Q aK.out O bf.out _ _ _ i (by have:=HN.out;omega) q hq W (aA.out.below n_ hW))
    have aU:=z_ aa;obtain ⟨wo,rfl⟩:∃ wo,wo=wr:=⟨wr,rfl⟩;clear s0 s1 s2;go_wp2_with fail
    go_loopw [5] (fun i wr=>∃ q:Nat,q≤k∧i=.int .i64 q∧Hid (∀ j,j<q→axOk (κK P.length Q) O (O.getD j default)=true)∧Below wo.heap.size wo wr) (fun i _=>k-(intOf i).toNat)
    case atStart=>exact ⟨0,y_,rfl,z_ (fun j hj=>by omega),Below.refl _ _⟩
    case round=>
     obtain ⟨q,hq,rfl,bh,ac⟩:=hrel;have T0:wr.cell? ⟨w.heap.size,0,none⟩=some (.slice A P.length ca):=(ac.cell (by exact af)).trans aB;have T1:wr.cell? ⟨w.heap.size,1,none⟩=some (.slice B Q.length cb):=(ac.cell (by exact af)).trans aC;have T2:wr.cell? ⟨w.heap.size,2,none⟩=some (.slice C k cc):=(ac.cell (by exact af)).trans aD;have an:=aU.out.trans (ac.mono ai);have ao:=z_ (ab.out.trans (an.mono ab.out.size));by_cases aI:q<k
     ·cases av:axOk (κK P.length Q) O (O.getD q default) with
      | false=>
       have ad:Hid (r=false):=z_ (by rw [← HR.out];exact qz4 (by have:=HN.out;omega) av);have HC:=z_ (bg.out q wr false aI av an);clear av;go_wp2_with fail
       refine HC.out.mono ?_;rintro e w6 ⟨rfl,aV⟩;go_wp2;go_ret;exact ⟨qa0 ad.out.symm,ao.out.trans (aV.mono ao.out.size)⟩
      | true=>
       have HC:=z_ (bg.out q wr true aI av an);have bo:=z_ av;clear av;go_wp2_with fail
       refine HC.out.mono ?_;rintro e w6 ⟨rfl,aV⟩;go_wp2;go_roundw
       case rel=>
        refine ⟨q+1,by omega,by go_num,z_ (fun j hj=>?_),ac.trans (aV.mono ac.size)⟩;by_cases e:j=q
        ·subst e;exact bo.out
        ·exact bh.out j o_
       case measure=>simp [intOf];omega
     ·obtain rfl:q=k:=o_
      have ad:Hid (r=true):=z_ (by
       rw [← HR.out]
       exact qtb aK.out (by have:=HN.out;omega) aT.out bf.out (qwo (f:=axOk (κK P.length Q) O) (fun j hj=>bh.out j (by have:=HN.out;omega))))
      go_wp2;go_ret;exact ⟨qa0 ad.out.symm,ao.out⟩
end sigb

namespace tmq
open mem join subs setm sortp sorti rowl sigm sigs
def cntD (D:List (List Int×Int)):Nat:=D.length+(D.map fun d=>d.1.length).sum
def cntO (O:List OpM):Nat:=O.length+(O.map fun o=>o.name.length+cntD o.decls).sum
theorem qs4 {α:Type}[Inhabited α](f:α→Nat){L:List α}{k:Nat}(h:k<L.length):((L.take (k+1)).map f).sum=((L.take k).map f).sum+f (L.getD k default):=by
 rw [List.take_succ_eq_append_getElem h,List.map_append,List.sum_append];simp [List.getD,List.getElem?_eq_getElem h]
theorem qj5 {α:Type}(f:α→Nat):∀ {L:List α} {a:α},a∈L→f a≤(L.map f).sum
 | b::L,a,h=>by
  rw [List.map_cons,List.sum_cons];rcases List.mem_cons.1 h with rfl|h
  ·omega
  ·have:=qj5 f h
   omega
theorem qs5 {α:Type}[Inhabited α]{L:List α}{i:Nat}(h:i<L.length):L.getD i default∈L:=by rw [List.getD_eq_getElem?_getD,List.getElem?_eq_getElem h];exact List.getElem_mem _
theorem qCj {O:List OpM}(h:cntO O≤1048576):SmO O:=by
 unfold cntO at h;refine ⟨by omega,fun j hj=>?_⟩;have hm:O.getD j default∈O:=qs5 hj;have h1:(O.getD j default).name.length+cntD (O.getD j default).decls≤_:=qj5 (fun o:OpM=>o.name.length+cntD o.decls) hm;have h2:cntD (O.getD j default).decls≤1048576:=o_;unfold cntD at h2;refine ⟨by omega,fun i hi=>?_⟩;have aa:(O.getD j default).decls.getD i default∈(O.getD j default).decls:=qs5 hi;have h3:((O.getD j default).decls.getD i default).1.length≤_:=qj5 (fun d:List Int×Int=>d.1.length) aa;omega
theorem qpx (A:Option Addr)(n c:Nat)(hl:n≤9223372036854775807)(w:World)(m:Int)(hm:0≤m)(ab:m≤1048576):
  Calls Tryz.prog 62 #[.slice A n c,.int .i64 m] w fun e w'=>∃ r:Int,e=.returned (.int .i64 r)∧(0≤r→r+(n:Int)≤m)∧-1≤r∧r≤1048576∧w=w':=by
 by_cases aa:m-(n:Int)<0
 ·go_enter Tryz.func62,Tryz.ntmps62
  go_wp2;go_ret;exact ⟨-1,rfl,fun h=>by omega,by omega,by omega,rfl⟩
 ·go_enter Tryz.func62,Tryz.ntmps62
  go_wp2;go_ret;exact ⟨_,rfl,fun h=>by omega,by omega,by omega,rfl⟩
theorem c108_ {p:Prop}(h:p:=by
 go_wp2;go_ret;exact ⟨-1,rfl,fun h=>by omega,by omega,by omega,b_.alloc n_ _⟩
):p:=h
theorem qpy (A:Option Addr)(n c:Nat)(x:Int)(hl:n≤9223372036854775807)(w:World)(m:Int)(hm:0≤m)(aa:m≤1048576):
  Calls Tryz.prog 177 #[.agg #[.slice A n c,.int .i64 x],.int .i64 m] w fun e w'=>∃ r:Int,e=.returned (.int .i64 r)∧(0≤r→r+(n:Int)≤m)∧-1≤r∧r≤1048576∧Below w.heap.size w w':=by
 go_enter Tryz.func177,Tryz.ntmps177
 go_wp2_with fail
 refine (qpx A n c hl _ m hm aa).mono ?_;rintro e w1 ⟨r,rfl,hr,ab,ac,rfl⟩;by_cases ad:r<0
 ·exact c108_
 ·go_wp2
  go_ret;exact ⟨r,rfl,hr,ab,ac,b_.alloc n_ _⟩
theorem c106_ {p:Prop}(h:p:=by
 go_wp2;go_ret;exact ⟨-1,rfl,fun h=>by omega,by omega,by omega,aa.trans (hb2.mono aa.size)⟩
):p:=h
theorem c107_ {p:Prop}(h:p:=by
 go_wp2;go_ret;exact ⟨-1,rfl,fun h=>by omega,by omega,by omega,Below.refl _ _⟩
):p:=h
theorem qob (D:List (List Int×Int))(v:Value)(w:World){lo:Nat}(h:HasD lo w v D)(m:Int)(hm:0≤m)(an:m≤1048576):
  Calls Tryz.prog 130 #[v,.int .i64 m] w fun e w'=>∃ r:Int,e=.returned (.int .i64 r)∧(0≤r→r+(cntD D:Int)≤m)∧-1≤r∧r≤1048576∧Below w.heap.size w w':=by
 obtain ⟨n,hn⟩:=e_ (D.length);obtain ⟨A,c,rfl,h⟩:=HasR.shape h hn.symm;have hl:=h.len.2.1;have HH:=z_ h;have HN:=z_ hn;clear h hn;by_cases aj:m-(n:Int)<0
 ·go_enter Tryz.func130,Tryz.ntmps130
  exact c107_
 ·have ao:(n:Int)≤m:=o_
  go_enter Tryz.func130,Tryz.ntmps130
  go_wp2;go_loopw [1,5] (fun v i wr=>∃ (k:Nat) (r:Int),k≤n∧i=.int .i64 k∧v=.int .i64 r∧0≤r∧r≤1048576∧Hid (r+(n:Int)+((((D.take k).map fun d=>d.1.length).sum:Nat):Int)≤m)∧Below w.heap.size w wr) (fun _ i _=>n-(intOf i).toNat)
  case atStart=>exact ⟨0,_,y_,rfl,rfl,by omega,by omega,z_ (by simp),Below.refl _ _⟩
  case round=>
   obtain ⟨k,r,hk,rfl,rfl,ak,ad,HS,aa⟩:=hrel;by_cases hlt:k<n
   ·obtain ⟨g,o,A2,c2,rfl,_,hg,ae,af,hh,_,_⟩:=qba HH.out hlt
    have ab:=hh.has.len;rw [qas] at ab;rw [← aa.cell (p:=⟨g,o+k*2,none⟩) hg] at ae;rw [← aa.cell (p:=⟨g,o+k*2+1,none⟩) hg] at af
    have ag:Hid (∀ r2:Int,r2+(((D.getD k default).1.length:Nat):Int)≤r→r2+(n:Int)+((((D.take (k+1)).map fun d=>d.1.length).sum:Nat):Int)≤m):=z_ (fun r2 h2=>by
     have h3:=HS.out;rw [qs4 (fun d:List Int×Int=>d.1.length) (by have:=HN.out;omega)]
     omega)
    obtain ⟨n2,ah⟩:=e_ ((D.getD k default).1.length);obtain ⟨x,hx⟩:=e_ ((D.getD k default).2);rw [← ah] at ae ab ag;rw [← hx] at af;have al:=ab.2;clear hh ab ah hx;go_wp2_with fail
    refine (qpy A2 n2 c2 x al _ r ak ad).mono ?_;rintro e w2 ⟨r2,rfl,hs,ap,am,hb2⟩;by_cases ai:r2<0
    ·exact c106_
    ·have ac:=z_ (ag.out r2 (hs o_))
     clear hs;go_wp2;go_roundw
     case rel=>exact ⟨k+1,r2,by omega,by go_num,rfl,by omega,am,ac,aa.trans (hb2.mono aa.size)⟩
     case measure=>simp [intOf];omega
   ·obtain rfl:k=n:=o_
    go_wp2;go_ret
    exact ⟨r,rfl,fun _=>by
     have h1:=HS.out;have h2:=HN.out;rw [List.take_of_length_le o_] at h1;unfold cntD
     omega,by omega,ad,aa⟩
theorem qx3 (l:List UInt8)(hl:l.length≤maxLen)(D:List (List Int×Int))(v:Value)(a b:Bool)(u:Int)(w:World){lo:Nat}(h:HasD lo w v D)(m:Int)(hm:0≤m)(ah:m≤1048576):
  Calls Tryz.prog 78 #[.agg #[.string (bstr l),v,.bool a,.bool b,.int .i64 u],.int .i64 m] w fun e w'=>∃ r:Int,e=.returned (.int .i64 r)∧(0≤r→r+(l.length:Int)+(cntD D:Int)≤m)∧-1≤r∧r≤1048576∧Below w.heap.size w w':=by
 have hsz:=qbg l;have aa:=z_ (fun W (hW:Below w.heap.size w W) m h1 h2=>qob D v W (h.below qa7 n_ hW) m h1 h2);obtain ⟨A,c,rfl,h⟩:=HasR.shape h rfl;obtain ⟨n,hn⟩:=e_ (D.length);rw [← hn] at aa ⊢;unfold maxLen at hl;clear h hn;by_cases ae:m-(l.length:Int)<0
 ·go_enter Tryz.func78,Tryz.ntmps78
  exact c108_
 ·go_enter Tryz.func78,Tryz.ntmps78
  go_wp2_with fail
  refine (aa.out _ (b_.alloc n_ _) _ o_ o_).mono ?_;rintro e w1 ⟨r,rfl,hr,af,ag,ab⟩;have ac:Below w.heap.size w w1:=(b_.alloc n_ _).trans (ab.mono (by simp));clear ab;by_cases ad:r<0
  ·go_wp2
   go_ret;exact ⟨-1,rfl,fun h=>by omega,by omega,by omega,ac⟩
  ·go_wp2
   go_ret;exact ⟨r,rfl,fun h=>(by have:=hr h;omega),af,ag,ac⟩
theorem qtf (O:List OpM)(v:Value)(w:World){lo:Nat}(h:HasO lo w v O)(m:Int)(hm:0≤m)(aq:m≤1048576):
  Calls Tryz.prog 33 #[v,.int .i64 m] w fun e w'=>∃ r:Int,e=.returned (.int .i64 r)∧(0≤r→r+(cntO O:Int)≤m)∧-1≤r∧r≤1048576∧Below w.heap.size w w':=by
 obtain ⟨n,hn⟩:=e_ (O.length);obtain ⟨A,c,rfl,h⟩:=HasR.shape h hn.symm;have hl:=h.len.2.1;have HH:=z_ h;have HN:=z_ hn;clear h hn;by_cases an:m-(n:Int)<0
 ·go_enter Tryz.func33,Tryz.ntmps33
  exact c107_
 ·have au:(n:Int)≤m:=o_
  go_enter Tryz.func33,Tryz.ntmps33
  go_wp2;go_loopw [1,5] (fun v i wr=>∃ (k:Nat) (r:Int),k≤n∧i=.int .i64 k∧v=.int .i64 r∧0≤r∧r≤1048576∧Hid (r+(n:Int)+((((O.take k).map fun o=>o.name.length+cntD o.decls).sum:Nat):Int)≤m)∧Below w.heap.size w wr) (fun _ i _=>n-(intOf i).toNat)
  case atStart=>exact ⟨0,_,y_,rfl,rfl,by omega,by omega,z_ (by simp),Below.refl _ _⟩
  case round=>
   obtain ⟨k,r,hk,rfl,rfl,ao,ad,HS,aa⟩:=hrel;by_cases hlt:k<n
   ·obtain ⟨g,o,A2,c2,rfl,_,hg,ae,af,ag,ah,ai,hh,aj,_⟩:=qcg HH.out hlt
    rw [← aa.cell (p:=⟨g,o+k*5,none⟩) hg] at ae;rw [← aa.cell (p:=⟨g,o+k*5+1,none⟩) hg] at af;rw [← aa.cell (p:=⟨g,o+k*5+2,none⟩) hg] at ag;rw [← aa.cell (p:=⟨g,o+k*5+3,none⟩) hg] at ah;rw [← aa.cell (p:=⟨g,o+k*5+4,none⟩) hg] at ai
    have ak:Hid (∀ r2:Int,r2+(((O.getD k default).name.length:Nat):Int)+((cntD (O.getD k default).decls:Nat):Int)≤r→r2+(n:Int)+((((O.take (k+1)).map fun o=>o.name.length+cntD o.decls).sum:Nat):Int)≤m):=z_ (fun r2 h2=>by
     have h3:=HS.out;rw [qs4 (fun o:OpM=>o.name.length+cntD o.decls) (by have:=HN.out;omega)]
     omega)
    have ab:=hh.below qa7 n_ aa;obtain ⟨⟨nm,D,a,b,u⟩,al⟩:∃ x,x=O.getD k default:=⟨_,rfl⟩;rw [← al] at ae af ag ah ai ak ab aj;have HD:=z_ ab;clear hh ab al;go_wp2_with fail
    refine (qx3 nm aj D _ a b u _ HD.out r ao ad).mono ?_;rintro e w2 ⟨r2,rfl,hs,av,ap,hb2⟩;by_cases am:r2<0
    ·exact c106_
    ·have ac:=z_ (ak.out r2 (hs o_))
     clear hs;go_wp2;go_roundw
     case rel=>exact ⟨k+1,r2,by omega,by go_num,rfl,by omega,ap,ac,aa.trans (hb2.mono aa.size)⟩
     case measure=>simp [intOf];omega
   ·obtain rfl:k=n:=o_
    go_wp2;go_ret
    exact ⟨r,rfl,fun _=>by
     have h1:=HS.out;have h2:=HN.out;rw [List.take_of_length_le o_] at h1;unfold cntO
     omega,by omega,ad,aa⟩
theorem qhg (P:List (List UInt8))(Q:List (Int×Int))(O:List OpM)(va vb vc:Value)(w:World)(h:HasG w va vb vc P Q O):
  Calls Tryz.prog 7 #[.agg #[va,vb,vc],.int .i64 1048576] w fun e w'=>∃ r:Int,e=.returned (.int .i64 r)∧(0≤r→(Small P∧Q.length≤1048576)∧cntO O≤1048576)∧-1≤r∧r≤1048576∧Below w.heap.size w w':=by
 have af:=z_ (fun W (hW:Below w.heap.size w W)=>qol P h.s.short Q _ _ W (h.below n_ hW).s.a (h.below n_ hW).s.b);have ad:=z_ (fun W (hW:Below w.heap.size w W) m h1 h2=>qtf O vc W (h.below n_ hW).o m h1 h2);obtain ⟨A,ca,B,cb,C,cc,rfl,rfl,rfl,ak,al,ag,_⟩:=h.shape;obtain ⟨n,hn⟩:=e_ (O.length);rw [← hn] at ad ag ⊢;clear h hn;go_enter Tryz.func7,Tryz.ntmps7
 go_wp2_with fail
 refine (af.out _ (b_.alloc n_ _)).mono ?_;rintro e w1 ⟨r,rfl,hr,am,an,ac⟩;have aa:Below w.heap.size w w1:=(b_.alloc n_ _).trans (ac.mono (by simp));have c2:w1.cell? ⟨w.heap.size,2,none⟩=some (.slice C n cc):=by rw [ac.cell (p:=⟨w.heap.size,2,none⟩) (by simp)];simp
 clear ac;by_cases ah:r<0
 ·go_wp2
  go_ret;exact ⟨-1,rfl,fun h=>by omega,by omega,by omega,aa⟩
 ·go_wp2_with fail
  refine (ad.out _ aa r o_ o_).mono ?_;rintro e w2 ⟨r2,rfl,hs,ai,aj,hb2⟩;have ab:=aa.trans (hb2.mono aa.size);clear hb2;by_cases ae:r2<0
  ·go_wp2
   go_ret;exact ⟨-1,rfl,fun h=>by omega,by omega,by omega,ab⟩
  ·go_wp2
   go_ret;exact ⟨r2,rfl,fun h=>⟨hr o_,by have:=hs h;omega⟩,ai,aj,ab⟩
end tmq
end Go.Proofs.YtiilamngcoegiaaGreat
