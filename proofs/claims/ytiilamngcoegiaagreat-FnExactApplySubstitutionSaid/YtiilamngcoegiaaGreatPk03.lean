/- parts -/
import Derived.Test.YtiilamngcoegiaaGreatZl
import Derived.Test.YtiilamngcoegiaaGreatPk01
import Derived.Test.YtiilamngcoegiaaGreatDec
import Derived.Deep.RegionHeld3
import Derived.Deep.QuietTactic
import Derived.BigQuiet
import Derived.Test.YtiilamngcoegiaaGreatZb
import Derived.Lib.AppendStr
namespace Go.Proofs.YtiilamngcoegiaaGreat
open Go.ChangeShapes Go.WideShapes Go.ChangeAt Go.RowKit
namespace strl
open mem dec split
theorem qe0 (P:List (List UInt8))(k:Nat)(h:k<P.length):(ssv P).getD k undef=.string (bstr (P.getD k [])):=by
 simp [ssv,List.getD,List.getElem?_map,List.getElem?_eq_getElem h]
theorem qfi (P:List (List UInt8))(k:Nat)(h:k<P.length):P.take (k+1)=P.take k++[P.getD k []]:=by
 rw [List.take_succ_eq_append_getElem h];simp [List.getD,List.getElem?_eq_getElem h]
theorem qtu (P Q:List (List UInt8))(va vb:Value)(w:World)(ha:Has w va (ssv P))(hb:Has w vb (ssv Q)):
  Calls Tryz.prog 101 #[va,vb] w fun e w'=>e=.returned (.bool (decide (P=Q)))∧Below w.heap.size w w':=by
 obtain ⟨A,ca,rfl,ha⟩:=ha.shape (qb9 P);obtain ⟨B,cb,rfl,hb⟩:=hb.shape (qb9 Q);have ai:=ha.len.2;have aj:=hb.len.2;by_cases hl:P.length=Q.length
 ·rw [← hl] at hb ⊢
  go_enter Tryz.func101,Tryz.ntmps101
  go_wp2;go_loopw [5] (fun i wr=>∃ k:Nat,k≤P.length∧i=.int .i64 k∧P.take k=Q.take k∧Below w.heap.size w wr) (fun i _=>P.length-(intOf i).toNat)
  case atStart=>exact ⟨0,y_,rfl,rfl,Below.refl _ _⟩
  case round=>
   obtain ⟨k,hk,rfl,htk,aa⟩:=hrel;have HT:=z_ htk;clear htk;by_cases hlt:k<P.length
   ·obtain ⟨ga,oa,rfl,af,ad⟩:=ha.cellAt hlt
    obtain ⟨gb,ob,rfl,ag,ae⟩:=hb.cellAt hlt;rw [qe0 P k hlt,← aa.cell (p:=⟨ga,oa+k,none⟩) af] at ad;rw [qe0 Q k o_,← aa.cell (p:=⟨gb,ob+k,none⟩) ag] at ae;obtain ⟨x,hx⟩:=e_ (P.getD k []);obtain ⟨y,hy⟩:=e_ (Q.getD k []);rw [← hx] at ad;rw [← hy] at ae;have HX:=z_ hx;have HY:=z_ hy;have HL:=z_ hl;clear hx hy hl ha hb;by_cases ab:x=y
    ·subst ab
     have HK:Hid (P.take (k+1)=Q.take (k+1)):=z_ (by rw [qfi P k hlt,qfi Q k (by have:=HL.out;omega),HT.out,← HX.out,← HY.out]);go_wp2;go_quiet (fail)
     go_wp2;go_roundw
     case rel=>exact ⟨k+1,by omega,by go_num,HK.out,by first|exact aa|exact aa.drew|exact qa3 aa _⟩
     case measure=>simp [intOf];omega
    ·have ac:((bstr x).toList==(bstr y).toList)=false:=by rw [qf4];simpa using ab
     have HR:Hid (decide (P=Q)=false):=z_ (by
      simp only [decide_eq_false_iff_not];intro e
      exact ab (by rw [HX.out,HY.out,e]))
     clear ab;go_wp2;go_quiet (fail)
     go_wp2;go_ret;exact ⟨qa0 HR.out.symm,by first|exact aa|exact aa.drew|exact qa3 aa _⟩
   ·obtain rfl:k=P.length:=o_
    have HR:Hid (decide (P=Q)=true):=z_ (by
     have:=HT.out;rw [List.take_length,hl,List.take_length] at this
     simpa using this)
    clear hl;go_wp2;go_ret;exact ⟨qa0 HR.out.symm,aa⟩
 ·have ac:decide (P=Q)=false:=by simp;intro h;exact hl (by rw [h])
  have hlen:((P.length:Int) != (Q.length:Int))=true:=by simp;omega
  have ah:=z_ ac;clear ac;go_enter Tryz.func101,Tryz.ntmps101
  go_wp2;go_ret;exact ⟨qa0 ah.out.symm,Below.refl _ _⟩
set_option maxRecDepth 20000 in
theorem qel (k:Nat)(hk:k≤9223372036854775807)(w:World):
  Calls Tryz.prog 54 #[.int .i64 k] w fun e w'=>e=.returned (.string (bstr (109::dig k)))∧Below w.heap.size w w':=by
 by_cases h0:k=0
 ·subst h0
  have e0:bstr (109::dig 0)={ data:=#[109,48] }:=by simp [qq9,dg,bstr]
  go_enter Tryz.func54,Tryz.ntmps54
  go_wp2;go_ret;exact ⟨qtj e0.symm,Below.refl _ _⟩
 ·go_enter Tryz.func54,Tryz.ntmps54
  have ad:(dig k).length≤20:=qqa o_;go_wp2
  go_loopw [0,3] (fun v s wr=>∃ (m:Nat) (o:List UInt8),m≤9223372036854775807∧v=.int .i64 (m:Int)∧s=.string (bstr o)∧Tail k m o∧Below w.heap.size w wr)
   (fun v _ _=>(intOf v).natAbs)
  case atStart=>exact ⟨k,[],by omega,rfl,rfl,qsa h0,Below.refl _ _⟩
  case round=>
   obtain ⟨m,o,hm,rfl,rfl,aa,ab⟩:=hrel;have ac:=Nat.le_trans (qxh aa) ad;have hsz:(bstr o).size≤20:=by rw [qbg];exact ac
   by_cases hc:m=0
   ·subst hc
    have H:Hid (o=dig k):=z_ (aa.1 rfl);go_wp2;go_ret;exact ⟨qtj (by rw [← H.out,qtl]),ab⟩
   ·have H:=z_ (qty aa o_)
    have ae:=qoe (P:=Tryz.prog) wr (t:=5) (dst:=9) Tryz.underlying158 Tryz.underlying5 Tryz.underlying9 (48+(m:Int) % 10) (dg m) (by rw [qBt]);have af:(bstr [dg m]).size≤1:=Nat.le_refl _;clear aa ac;go_wp2;go_roundw
    case rel=>exact ⟨m / 10,_,by omega,by go_num,by rw [qhq],H.out,ab.alloc ab.size _⟩
    case measure=>simp [intOf];omega
def qxi (k n:Nat):List (List UInt8):=(List.range n).map fun i=>109::dig (k+i)
theorem qhx (n k c g:Nat)(hn:n≤2097152)(hk:k≤1073741824)(xs:List Value)(w:World)(base:Nat)(h:w.ownsRow base 9 1 (.slice (some ⟨g,0,none⟩) n c) n xs):
  Calls Tryz.prog 104 #[.slice (some ⟨g,0,none⟩) n c,.int .i64 k] w fun e w'=>e=.returned (.int .i64 ((k+n:Nat):Int))∧
   w'.ownsRow base 9 1 (.slice (some ⟨g,0,none⟩) n c) n (ssv (qxi k n))∧w.grownBy w' (some g):=by
 go_enter Tryz.func104,Tryz.ntmps104
 go_wp2;go_loopw [1,5] (fun v i wr=>∃ (j:Nat) (ys:List Value),j≤n∧i=.int .i64 j∧v=.int .i64 ((k+j:Nat):Int)∧wr.ownsRow base 9 1 (.slice (some ⟨g,0,none⟩) n c) n ys∧ys.take j=ssv (qxi k j)∧w.grownBy wr (some g)) (fun _ i _=>n-(intOf i).toNat)
 case atStart=>exact ⟨0,xs,y_,rfl,by go_num,h,rfl,World.grownBy.refl _ _⟩
 case round=>
  obtain ⟨j,ys,hj,rfl,rfl,hown,aa,ad⟩:=hrel;by_cases hlt:j<n
  ·have hg2:g<wr.heap.size:=by
    rcases hown.2 with ⟨h',_⟩|⟨g',cap',cur,h',_,hh,_⟩
    ·simp at h'
    ·simp only [Value.slice.injEq,Option.some.injEq,Addr.mk.injEq,and_true,true_and] at h'
     rw [h'.1];exact (q_ hh)
   obtain ⟨v0,hc⟩:∃ v0,wr.cell? ⟨g,j,none⟩=some v0:=by
    rw [hown.cellAt j o_];exact ⟨_,List.getElem?_eq_getElem (by have:=hown.1;omega)⟩
   have hf:=hown.frozenAt j;have ac:=z_ hown;have ae:=z_ aa;clear hown aa h;go_wp2_with (go_at_call 54;refine (qel (k+j) o_ _).mono ?_;rintro e w1 ⟨rfl,ab⟩;have af:=(ab.cell (p:=⟨g,j,none⟩) hg2).trans hc;have ag:=(ab.frozen (p:=⟨g,j,none⟩) hg2).trans hf)
   go_roundw
   case rel=>
    have h1:=qa2 ac.out ab;refine ⟨j+1,ys.set j (.string (bstr (109::dig (k+j)))),by omega,by go_num,by go_num,qa4 h1 j _,?_,qap (qof ad ab) j _⟩;have hlen:ys.length=n:=by have:=h1.1;omega
    rw [List.take_succ_eq_append_getElem (by rw [List.length_set];omega),List.take_set_of_le n_,ae.out];simp [qxi,List.range_succ,ssv]
   case measure=>simp [intOf];omega
  ·obtain rfl:j=n:=o_
   have HW:Hid (wr.ownsRow base 9 1 (.slice (some ⟨g,0,none⟩) j c) j (ssv (qxi k j))):=z_ (by
    have hlen:ys.length=j:=by have:=hown.1;omega
    rw [← aa,List.take_of_length_le o_];exact hown)
   clear h hown aa;go_wp2;go_ret;exact ⟨qaa o_,HW.out,ad⟩
end strl

set_option maxRecDepth 50000
namespace join
open mem split strl
def Small (P:List (List UInt8)):Prop:=P.length≤1048576∧∀ k,k<P.length→(P.getD k []).length≤1048576
theorem c9_ {p:Prop}(h:p:=by
 go_wp2;go_ret;exact ⟨-1,rfl,fun h=>by omega,by omega,by omega,Below.refl _ _⟩
):p:=h
theorem qBw (P:List (List UInt8))(hP:∀ k,k<P.length→(P.getD k []).length≤maxLen)(v:Value)(w:World)(h:Has w v (ssv P)):
  Calls Tryz.prog 76 #[v,.int .i64 1048576] w fun e w'=>∃ r:Int,e=.returned (.int .i64 r)∧(0≤r→Small P)∧-1≤r∧r≤1048576∧Below w.heap.size w w':=by
 obtain ⟨A,c,rfl,h⟩:=h.shape (qb9 P);have hl:=h.len.2;by_cases ac:1048576<P.length
 ·go_enter Tryz.func76,Tryz.ntmps76
  exact c9_
 ·go_enter Tryz.func76,Tryz.ntmps76
  have hd:decide ((1048576:Int)-(P.length:Int)<0)=false:=by simp;omega
  have af:((1048576:Int)-(P.length:Int)<0)=False:=by simp;omega
  go_wp2;go_loop [1,5] (fun r i=>∃ (j:Nat) (R:Int),j≤P.length∧i=.int .i64 j∧r=.int .i64 R∧0≤R∧R≤1048576∧Hid (∀ k,k<j→(P.getD k []).length≤1048576)) (fun _ i=>P.length-(intOf i).toNat)
  case atStart=>exact ⟨0,_,y_,rfl,rfl,by omega,by omega,z_ (fun k hk=>by omega)⟩
  case round=>
   obtain ⟨j,R,hj,rfl,rfl,ag,ah,aa⟩:=hrel;by_cases hlt:j<P.length
   ·obtain ⟨g,o,rfl,hg,hcell⟩:=h.cellAt hlt
    rw [qe0 P j hlt] at hcell;have hsz:=qbg (P.getD j []);have hm:=hP j hlt;unfold maxLen at hm;obtain ⟨x,hx⟩:=e_ (P.getD j []);rw [← hx] at hcell hsz hm;have HX:=z_ hx;have HP:=z_ hP;clear hx hP h;by_cases ad:R-(x.length:Int)<0
    ·exact c9_
    ·have ab:Hid (∀ k,k<j+1→(P.getD k []).length≤1048576):=z_ (by
      intro k hk;by_cases ae:k=j
      ·subst ae;rw [← HX.out];omega
      ·exact aa.out k o_)
     go_wp2;go_round
     case rel=>exact ⟨j+1,_,by omega,by go_num,rfl,by omega,by omega,ab⟩
     case measure=>simp [intOf];omega
   ·obtain rfl:j=P.length:=o_
    have HS:Hid (Small P):=z_ ⟨by omega,aa.out⟩;have HP:=z_ hP;clear hP h;go_wp2;go_ret;exact ⟨R,rfl,fun _=>HS.out,by omega,by omega,Below.refl _ _⟩
theorem qtv (P:List (List UInt8))(hP:P.length≤1048576)(v:Value)(w:World)(h:Has w v (ssv P)):
  Calls Tryz.prog 87 #[v] w fun e w'=>∃ v',e=.returned v'∧w'.ownsRow w.heap.size 9 1 v' P.length (ssv P)∧Below w.heap.size w w':=by
 obtain ⟨A,c,rfl,h⟩:=h.shape (qb9 P);obtain ⟨i0,hi,ae,af,ag⟩:=info_parts qxg;go_enter Tryz.func87,Tryz.ntmps87
 go_wp2_with (at_make;refine wpList_make_full _ rfl _ _ 22 rfl w.heap.size 9 i0 (.string .empty) 1 Tryz.underlying22 hi ae af _ _ _ _ P.length rfl rfl rfl rfl (by rw [ag];omega) (by unfold maxLen;omega) n_ ?_)
 intro w1 hown ab;go_wp2;go_loopw [4] (fun i wr=>∃ (j:Nat) (ys:List Value),j≤P.length∧i=.int .i64 j∧wr.ownsRow w.heap.size 9 1 (.slice (some ⟨w.heap.size,0,none⟩) P.length P.length) P.length ys∧Hid (ys.take j=ssv (P.take j))∧Below w.heap.size w wr) (fun i _=>P.length-(intOf i).toNat)
 case atStart=>exact ⟨0,_,y_,rfl,hown,z_ rfl,b_.grown ab n_ (by intro k h;cases h)⟩
 case round=>
  obtain ⟨j,ys,hj,rfl,hown,HY,aa⟩:=hrel;by_cases hlt:j<P.length
  ·obtain ⟨g,o,rfl,hg,hcell⟩:=h.cellAt hlt
   rw [qe0 P j hlt,← aa.cell (p:=⟨g,o+j,none⟩) hg] at hcell;obtain ⟨v0,hc⟩:∃ v0,wr.cell? ⟨w.heap.size,j,none⟩=some v0:=by
    rw [hown.cellAt j o_];exact ⟨_,List.getElem?_eq_getElem (by have:=hown.1;omega)⟩
   have hf:=hown.frozenAt j;have ac:=z_ hown;have ad:=qfi P j hlt;have ah:=z_ ad;obtain ⟨x,hx⟩:=e_ (P.getD j []);rw [← hx] at hcell;have HX:=z_ hx;clear hown h ad hx;go_wp2;go_roundw
   case rel=>
    refine ⟨j+1,ys.set j (.string (bstr x)),by omega,by go_num,qa4 ac.out j _,z_ ?_,aa.setCell n_ _⟩;have hlen:ys.length=P.length:=by have:=ac.out.1;omega
    rw [List.take_succ_eq_append_getElem (by rw [List.length_set];omega),List.take_set_of_le n_,HY.out,ah.out,HX.out];simp [ssv]
   case measure=>simp [intOf];omega
  ·obtain rfl:j=P.length:=o_
   have HW:Hid (wr.ownsRow w.heap.size 9 1 (.slice (some ⟨w.heap.size,0,none⟩) P.length P.length) P.length (ssv P)):=z_ (by
    have hlen:ys.length=P.length:=by have:=hown.1;omega
    have:=HY.out;rw [List.take_length,List.take_of_length_le o_] at this
    rw [← this];exact hown)
   clear h hown;go_wp2;go_ret;exact ⟨_,rfl,HW.out,aa⟩
end join
end Go.Proofs.YtiilamngcoegiaaGreat
