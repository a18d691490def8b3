/- parts -/
import Derived.Test.YtiilamngcoegiaaGreatQZl
import Derived.Test.YtiilamngcoegiaaGreatQPk01
import Derived.Test.YtiilamngcoegiaaGreatQDec
import Derived.Deep.RegionHeld3
import Derived.Deep.QuietTactic
import Derived.BigQuiet
import Derived.Test.YtiilamngcoegiaaGreatQZb
import Derived.Lib.AppendStr
namespace Go.Proofs.YtiilamngcoegiaaGreat
open Go.ChangeShapes Go.WideShapes Go.ChangeAt Go.RowKit
namespace strl
open mem dec split
theorem qea (P:List (List UInt8))(k:Nat)(h:k<P.length):(ssv P).getD k undef=.string (bstr (P.getD k [])):=by
 simp [ssv,List.getD,List.getElem?_map,List.getElem?_eq_getElem h]
theorem qfp (P:List (List UInt8))(k:Nat)(h:k<P.length):P.take (k+1)=P.take k++[P.getD k []]:=by
 rw [List.take_succ_eq_append_getElem h];simp [List.getD,List.getElem?_eq_getElem h]
theorem qu3 (P Q:List (List UInt8))(va vb:Value)(w:World)(ha:Has w va (ssv P))(hb:Has w vb (ssv Q)):
  Calls Tryz.prog 101 #[va,vb] w fun e w'=>e=.returned (.bool (decide (P=Q)))∧Below w.heap.size w w':=by
 obtain ⟨A,ca,rfl,ha⟩:=ha.shape (qba P);obtain ⟨B,cb,rfl,hb⟩:=hb.shape (qba Q);have ak:=ha.len.2;have al:=hb.len.2;by_cases hl:P.length=Q.length
 ·rw [← hl] at hb ⊢
  go_enter Tryz.func101,Tryz.ntmps101
  go_wp2;go_loopw [5] (fun i wr=>∃ k:Nat,k≤P.length∧i=.int .i64 k∧P.take k=Q.take k∧Below w.heap.size w wr) (fun i _=>P.length-(intOf i).toNat)
  case atStart=>exact ⟨0,y_,rfl,rfl,Below.refl _ _⟩
  case round=>
   obtain ⟨k,hk,rfl,ae,aa⟩:=hrel;have HT:=z_ ae;clear ae;by_cases ab:k<P.length
   ·obtain ⟨ga,oa,rfl,ah,af⟩:=ha.cellAt ab
    obtain ⟨gb,ob,rfl,ai,ag⟩:=hb.cellAt ab;rw [qea P k ab,← aa.cell (p:=⟨ga,oa+k,none⟩) ah] at af;rw [qea Q k o_,← aa.cell (p:=⟨gb,ob+k,none⟩) ai] at ag;obtain ⟨x,hx⟩:=e_ (P.getD k []);obtain ⟨y,hy⟩:=e_ (Q.getD k []);rw [← hx] at af;rw [← hy] at ag;have HX:=z_ hx;have HY:=z_ hy;have HL:=z_ hl;clear hx hy hl ha hb;by_cases ac:x=y
    ·subst ac
     have HK:Hid (P.take (k+1)=Q.take (k+1)):=z_ (by rw [qfp P k ab,qfp Q k (by have:=HL.out;omega),HT.out,← HX.out,← HY.out]);go_wp2;go_quiet (fail)
     go_wp2;go_roundw
     case rel=>exact ⟨k+1,by omega,by go_num,HK.out,by first|exact aa|exact aa.drew|exact qa3 aa _⟩
     case measure=>simp [intOf];omega
    ·have ad:((bstr x).toList==(bstr y).toList)=false:=by rw [qfc];simpa using ac
     have HR:Hid (decide (P=Q)=false):=z_ (by
      simp only [decide_eq_false_iff_not];intro e
      exact ac (by rw [HX.out,HY.out,e]))
     clear ac;go_wp2;go_quiet (fail)
     go_wp2;go_ret;exact ⟨qa0 HR.out.symm,by first|exact aa|exact aa.drew|exact qa3 aa _⟩
   ·obtain rfl:k=P.length:=o_
    have HR:Hid (decide (P=Q)=true):=z_ (by
     have:=HT.out;rw [List.take_length,hl,List.take_length] at this
     simpa using this)
    clear hl;go_wp2;go_ret;exact ⟨qa0 HR.out.symm,aa⟩
 ·have ad:decide (P=Q)=false:=by simp;intro h;exact hl (by rw [h])
  have hlen:((P.length:Int) != (Q.length:Int))=true:=by simp;omega
  have aj:=z_ ad;clear ad;go_enter Tryz.func101,Tryz.ntmps101
  go_wp2;go_ret;exact ⟨qa0 aj.out.symm,Below.refl _ _⟩
end strl

set_option maxRecDepth 50000
namespace join
open mem split strl
def Small (P:List (List UInt8)):Prop:=P.length≤1048576∧∀ k,k<P.length→(P.getD k []).length≤1048576
theorem c9_ {p:Prop}(h:p:=by
 go_wp2;go_ret;exact ⟨-1,rfl,fun h=>by omega,by omega,by omega,Below.refl _ _⟩
):p:=h
theorem qC6 (P:List (List UInt8))(hP:∀ k,k<P.length→(P.getD k []).length≤maxLen)(v:Value)(w:World)(h:Has w v (ssv P)):
  Calls Tryz.prog 76 #[v,.int .i64 1048576] w fun e w'=>∃ r:Int,e=.returned (.int .i64 r)∧(0≤r→Small P)∧-1≤r∧r≤1048576∧Below w.heap.size w w':=by
 obtain ⟨A,c,rfl,h⟩:=h.shape (qba P);have hl:=h.len.2;by_cases ad:1048576<P.length
 ·go_enter Tryz.func76,Tryz.ntmps76
  exact c9_
 ·go_enter Tryz.func76,Tryz.ntmps76
  have hd:decide ((1048576:Int)-(P.length:Int)<0)=false:=by simp;omega
  have ag:((1048576:Int)-(P.length:Int)<0)=False:=by simp;omega
  go_wp2;go_loop [1,5] (fun r i=>∃ (j:Nat) (R:Int),j≤P.length∧i=.int .i64 j∧r=.int .i64 R∧0≤R∧R≤1048576∧Hid (∀ k,k<j→(P.getD k []).length≤1048576)) (fun _ i=>P.length-(intOf i).toNat)
  case atStart=>exact ⟨0,_,y_,rfl,rfl,by omega,by omega,z_ (fun k hk=>by omega)⟩
  case round=>
   obtain ⟨j,R,hj,rfl,rfl,ah,ai,aa⟩:=hrel;by_cases ac:j<P.length
   ·obtain ⟨g,o,rfl,hg,hcell⟩:=h.cellAt ac
    rw [qea P j ac] at hcell;have hsz:=qbj (P.getD j []);have hm:=hP j ac;unfold maxLen at hm;obtain ⟨x,hx⟩:=e_ (P.getD j []);rw [← hx] at hcell hsz hm;have HX:=z_ hx;have HP:=z_ hP;clear hx hP h;by_cases ae:R-(x.length:Int)<0
    ·exact c9_
    ·have ab:Hid (∀ k,k<j+1→(P.getD k []).length≤1048576):=z_ (by
      intro k hk;by_cases af:k=j
      ·subst af;rw [← HX.out];omega
      ·exact aa.out k o_)
     go_wp2;go_round
     case rel=>exact ⟨j+1,_,by omega,by go_num,rfl,by omega,by omega,ab⟩
     case measure=>simp [intOf];omega
   ·obtain rfl:j=P.length:=o_
    have HS:Hid (Small P):=z_ ⟨by omega,aa.out⟩;have HP:=z_ hP;clear hP h;go_wp2;go_ret;exact ⟨R,rfl,fun _=>HS.out,by omega,by omega,Below.refl _ _⟩
theorem qu4 (P:List (List UInt8))(hP:P.length≤1048576)(v:Value)(w:World)(h:Has w v (ssv P)):
  Calls Tryz.prog 87 #[v] w fun e w'=>∃ v',e=.returned v'∧w'.ownsRow w.heap.size 9 1 v' P.length (ssv P)∧Below w.heap.size w w':=by
 obtain ⟨A,c,rfl,h⟩:=h.shape (qba P);obtain ⟨i0,hi,af,ag,ah⟩:=info_parts qxr;go_enter Tryz.func87,Tryz.ntmps87
 go_wp2_with (at_make;refine wpList_make_full _ rfl _ _ 22 rfl w.heap.size 9 i0 (.string .empty) 1 Tryz.underlying22 hi af ag _ _ _ _ P.length rfl rfl rfl rfl (by rw [ah];omega) Aa_ n_ ?_)
 intro w1 hown ab;go_wp2;go_loopw [4] (fun i wr=>∃ (j:Nat) (ys:List Value),j≤P.length∧i=.int .i64 j∧wr.ownsRow w.heap.size 9 1 (.slice (some ⟨w.heap.size,0,none⟩) P.length P.length) P.length ys∧Hid (ys.take j=ssv (P.take j))∧Below w.heap.size w wr) (fun i _=>P.length-(intOf i).toNat)
 case atStart=>exact ⟨0,_,y_,rfl,hown,z_ rfl,b_.grown ab n_ (by intro k h;cases h)⟩
 case round=>
  obtain ⟨j,ys,hj,rfl,hown,HY,aa⟩:=hrel;by_cases ad:j<P.length
  ·obtain ⟨g,o,rfl,hg,hcell⟩:=h.cellAt ad
   rw [qea P j ad,← aa.cell (p:=⟨g,o+j,none⟩) hg] at hcell;obtain ⟨v0,hc⟩:∃ v0,wr.cell? ⟨w.heap.size,j,none⟩=some v0:=by
    rw [hown.cellAt j o_];exact ⟨_,List.getElem?_eq_getElem (by have:=hown.1;omega)⟩
   have hf:=hown.frozenAt j;have ac:=z_ hown;have ae:=qfp P j ad;have ai:=z_ ae;obtain ⟨x,hx⟩:=e_ (P.getD j []);rw [← hx] at hcell;have HX:=z_ hx;clear hown h ae hx;go_wp2;go_roundw
   case rel=>
    refine ⟨j+1,ys.set j (.string (bstr x)),by omega,by go_num,qa4 ac.out j _,z_ ?_,aa.setCell n_ _⟩;have hlen:ys.length=P.length:=by have:=ac.out.1;omega
    rw [List.take_succ_eq_append_getElem (by rw [List.length_set];omega),List.take_set_of_le n_,HY.out,ai.out,HX.out];simp [ssv]
   case measure=>simp [intOf];omega
  ·obtain rfl:j=P.length:=o_
   have HW:Hid (wr.ownsRow w.heap.size 9 1 (.slice (some ⟨w.heap.size,0,none⟩) P.length P.length) P.length (ssv P)):=z_ (by
    have hlen:ys.length=P.length:=by have:=hown.1;omega
    have:=HY.out;rw [List.take_length,List.take_of_length_le o_] at this
    rw [← this];exact hown)
   clear h hown;go_wp2;go_ret;exact ⟨_,rfl,HW.out,aa⟩
end join
end Go.Proofs.YtiilamngcoegiaaGreat
