/- parts -/
import Derived.Test.YtiilamngcoegiaaGreatQZb
import Derived.Test.YtiilamngcoegiaaGreatQSets
import Derived.Deep.QuietTactic
import Derived.BigQuiet
import Derived.OpenShut
import Derived.ChangeSlices
namespace Go.Proofs.YtiilamngcoegiaaGreat
open Go.ChangeShapes Go.WideShapes Go.ChangeAt Go.RowKit
variable {w w':World}{S:List Nat}{n lo m j:Nat}{v:Value}{e:TypeId}
namespace intl
open mem setm
theorem qAg (L:List Int)(k:Nat)(h:k<L.length):L.take (k+1)=L.take k++[L.getD k 0]:=by
 rw [List.take_succ_eq_append_getElem h];simp [List.getD,List.getElem?_eq_getElem h]
theorem qu3 (P Q:List Int)(va vb:Value)(w:World)(ha:Has w va (ivs P))(hb:Has w vb (ivs Q)):
  Calls Tryz.prog 71 #[va,vb] w fun e w'=>e=.returned (.bool (decide (P=Q)))∧Below w.heap.size w w':=by
 obtain ⟨A,ca,rfl,ha⟩:=ha.shape (qau P);obtain ⟨B,cb,rfl,hb⟩:=hb.shape (qau Q);have ak:=ha.len.2;have al:=hb.len.2;by_cases hl:P.length=Q.length
 ·rw [← hl] at hb ⊢
  go_enter Tryz.func71,Tryz.ntmps71
  go_wp2;go_loopw [5] (fun i wr=>∃ k:Nat,k≤P.length∧i=.int .i64 k∧P.take k=Q.take k∧Below w.heap.size w wr) (fun i _=>P.length-(intOf i).toNat)
  case atStart=>exact ⟨0,y_,rfl,rfl,Below.refl _ _⟩
  case round=>
   obtain ⟨k,hk,rfl,ae,aa⟩:=hrel;have HT:=z_ ae;clear ae;by_cases ab:k<P.length
   ·obtain ⟨ga,oa,rfl,ah,af⟩:=ha.cellAt ab
    obtain ⟨gb,ob,rfl,ai,ag⟩:=hb.cellAt ab;rw [qak P k ab,← aa.cell (p:=⟨ga,oa+k,none⟩) ah] at af;rw [qak Q k o_,← aa.cell (p:=⟨gb,ob+k,none⟩) ai] at ag;obtain ⟨x,hx⟩:=e_ (P.getD k 0);obtain ⟨y,hy⟩:=e_ (Q.getD k 0);rw [← hx] at af;rw [← hy] at ag;have HX:=z_ hx;have HY:=z_ hy;have HL:=z_ hl;clear hx hy hl ha hb;by_cases ac:x=y
    ·subst ac
     have HK:Hid (P.take (k+1)=Q.take (k+1)):=z_ (by rw [qAg P k ab,qAg Q k (by have:=HL.out;omega),HT.out,← HX.out,← HY.out]);go_wp2;go_quiet (fail)
     go_wp2;go_roundw
     case rel=>exact ⟨k+1,by omega,by go_num,HK.out,by first|exact aa|exact aa.drew|exact qa3 aa _⟩
     case measure=>simp [intOf];omega
    ·have ad:(x != y)=true:=by simpa using ac
     have HR:Hid (decide (P=Q)=false):=z_ (by
      simp only [decide_eq_false_iff_not];intro e
      exact ac (by rw [HX.out,HY.out,e]))
     clear ac;go_wp2;go_quiet (fail)
     go_wp2;go_ret;exact ⟨qa0 HR.out.symm,by first|exact aa|exact aa.drew|exact qa3 aa _⟩
   ·obtain rfl:k=P.length:=o_
    have HR:Hid (decide (P=Q)=true):=z_ (by
     have:=HT.out;rw [List.take_length,hl,List.take_length] at this
     simpa using this)
    clear hl;go_wp2;go_ret;exact ⟨qa0 HR.out.symm,aa⟩
 ·have ad:decide (P=Q)=false:=by simp;intro h;exact hl (by rw [h])
  have hlen:((P.length:Int) != (Q.length:Int))=true:=by simp;omega
  have aj:=z_ ad;clear ad;go_enter Tryz.func71,Tryz.ntmps71
  go_wp2;go_ret;exact ⟨qa0 aj.out.symm,Below.refl _ _⟩
theorem qAh (P:List Int)(va vb:Value)(w:World)(ha:Has w va (ivs P))(hb:Has w vb (ivs P)):
  Calls Tryz.prog 71 #[va,vb] w fun e w'=>e=.returned (.bool true)∧Below w.heap.size w w':=
 (qu3 P P va vb w ha hb).mono fun e w' ⟨h1,h2⟩=>⟨by rw [h1];simp,h2⟩
theorem qu4 (L:List Int)(hL:L.length≤1048576)(v:Value)(w:World)(h:Has w v (ivs L)):
  Calls Tryz.prog 65 #[v] w fun e w'=>∃ u,e=.returned u∧w'.ownsRow w.heap.size 3 1 u L.length (ivs L)∧Below w.heap.size w w':=by
 obtain ⟨A,c,rfl,h⟩:=h.shape (qau L);obtain ⟨i0,hi,ag,ah,ai⟩:=info_parts sets.qdt;go_enter Tryz.func65,Tryz.ntmps65
 go_wp2_with (first|(at_make;refine wpList_make_full _ rfl _ _ 60 rfl w.heap.size 3 i0 (.int .i64 0) 1 Tryz.underlying60 hi ag ah _ _ _ _ L.length rfl rfl rfl rfl (by rw [ai];omega) Aa_ n_ ?_))
 intro w1 hown ab;go_wp2;go_loopw [4] (fun i wr=>∃ (j:Nat) (ys:List Value),j≤L.length∧i=.int .i64 j∧wr.ownsRow w.heap.size 3 1 (.slice (some ⟨w.heap.size,0,none⟩) L.length L.length) L.length ys∧ys.take j=ivs (L.take j)∧Below w.heap.size w wr) (fun i _=>L.length-(intOf i).toNat)
 case atStart=>exact ⟨0,_,y_,rfl,by simpa [Value.cells] using hown,rfl,b_.grown ab n_ Be_⟩
 case round=>
  obtain ⟨j,ys,hj,rfl,hown,ac,aa⟩:=hrel;by_cases ae:j<L.length
  ·obtain ⟨ga,oa,rfl,aj,af⟩:=h.cellAt ae
   rw [qak L j ae,← aa.cell (p:=⟨ga,oa+j,none⟩) aj] at af;have HT:=z_ (qAg L j ae);obtain ⟨x,hx⟩:=e_ (L.getD j 0);rw [← hx] at af HT;obtain ⟨v0,hc⟩:∃ v0,wr.cell? ⟨w.heap.size,j,none⟩=some v0:=by
    rw [hown.cellAt j o_];exact ⟨_,List.getElem?_eq_getElem (by have:=hown.1;omega)⟩
   have hf:=hown.frozenAt j;have ad:=z_ hown;have ak:=z_ ac;clear hown ac h hx;go_wp2;go_roundw
   case rel=>
    refine ⟨j+1,ys.set j (.int .i64 x),by omega,by go_num,qa4 ad.out j _,?_,aa.setCell n_ _⟩;have hlen:ys.length=L.length:=by have:=ad.out.1;omega
    rw [List.take_succ_eq_append_getElem (by rw [List.length_set];omega),List.take_set_of_le n_,ak.out,HT.out];simp [ivs]
   case measure=>simp [intOf];omega
  ·obtain rfl:j=L.length:=o_
   have HW:Hid (wr.ownsRow w.heap.size 3 1 (.slice (some ⟨w.heap.size,0,none⟩) L.length L.length) L.length (ivs L)):=z_ (by
    have hlen:ys.length=L.length:=by have:=hown.1;omega
    rw [List.take_length] at ac
    rw [← ac,List.take_of_length_le o_];exact hown)
   clear h hown ac;go_wp2;go_ret;exact ⟨_,rfl,HW.out,aa⟩
end intl

namespace terml
open mem rowl trm
def RT:Nat→qhq TermM
 | 0=>fun _ _ _ _=>False
 | n+1=>fun lo w cs t=>∃ va,cs=[.int .i64 t.op,.string (bstr t.name),.int .i64 t.sort,va]∧HasR (RT n) 4 lo w va t.args∧t.name.length≤maxLen∧I64 t.op∧I64 t.sort
theorem qa7:∀ n,Steady (RT n)
 | 0=>⟨fun h _=>h.elim,fun h _=>h.elim⟩
 | n+1=>⟨fun ⟨va,e,h,r⟩ hk=>⟨va,e,h.kept (qa7 n) hk,r⟩,fun ⟨va,e,h,r⟩ hl=>⟨va,e,h.mono (qa7 n) hl,r⟩⟩
theorem qu5:∀ (n:Nat) {lo:Nat} {w:World} {cs:List Value} {t:TermM},RT n lo w cs t→RT (n+1) lo w cs t
 | 0,_,_,_,_,h=>h.elim
 | n+1,_,_,_,_,⟨va,e,h,r⟩=>⟨va,e,h.map (fun h=>qu5 n h),r⟩
theorem qAi (h:n≤m){cs:List Value}{t:TermM}(hr:RT n lo w cs t):RT m lo w cs t:=by
 induction h with
 | refl=>exact hr
 | step _ ih=>exact qu5 _ ih
abbrev HasTs (n lo:Nat)(w:World)(v:Value)(L:List TermM):Prop:=HasR (RT n) 4 lo w v L
theorem HasTs.up (h:n≤m){L:List TermM}(hr:HasTs n lo w v L):HasTs m lo w v L:=hr.map (fun h'=>qAi h h')
theorem HasTs.below {n lo:Nat}{w w':World}{v:Value}{L:List TermM}(h:HasTs n lo w v L){B:Nat}(hB:w.heap.size≤B)(hb:Below B w w'):HasTs n lo w' v L:=HasR.below (qa7 n) h hB hb
theorem qal{A:Option Addr}{c:Nat}{L:List TermM}(h:HasTs n lo w (.slice A m c) L)(hj:j<m):
  ∃ (k g o:Nat) (A2:Option Addr) (c2:Nat),n=k+1∧A=some ⟨g,o,none⟩∧lo≤g∧g<w.heap.size∧w.cell? ⟨g,o+j*4,none⟩=some (.int .i64 (L.getD j default).op)∧w.cell? ⟨g,o+j*4+1,none⟩=some (.string (bstr (L.getD j default).name))∧
   w.cell? ⟨g,o+j*4+2,none⟩=some (.int .i64 (L.getD j default).sort)∧w.cell? ⟨g,o+j*4+3,none⟩=some (.slice A2 (L.getD j default).args.length c2)∧
   HasTs k lo w (.slice A2 (L.getD j default).args.length c2) (L.getD j default).args∧(L.getD j default).name.length≤maxLen∧I64 (L.getD j default).op∧I64 (L.getD j default).sort:=by
 obtain ⟨g,o,cs,e,hl,hg,hc,hr⟩:=h.get hj;cases n with
 | zero=>exact hr.elim
 | succ k=>
  obtain ⟨va,aa,hh,h1,h2,h3⟩:=hr;subst aa;obtain ⟨A2,c2,rfl,ab⟩:=HasR.shape hh rfl;exact ⟨k,g,o,A2,c2,rfl,e,hl,hg,hc 0 o_,hc 1 o_,hc 2 o_,hc 3 o_,ab,h1,h2,h3⟩
structure Chg (S:List Nat) (w w':World):Prop where
 os:w'.os=w.os
 tape:w'.tape=w.tape
 output:w'.output=w.output
 size:w.heap.size≤w'.heap.size
 block:∀ k,k<w.heap.size→k ∉ S→w'.heap[k]? =w.heap[k]?
theorem Chg.refl (S:List Nat)(w:World):Chg S w w:=⟨rfl,rfl,rfl,Nat.le_refl _,fun _ _ _=>rfl⟩
theorem Chg.trans {S:List Nat}{a b c:World}(h:Chg S a b)(k:Chg S b c):Chg S a c:=
 ⟨k.os.trans h.os,k.tape.trans h.tape,k.output.trans h.output,Nat.le_trans h.size k.size,fun i hi hn=>(k.block i (w_ hi h.size) hn).trans (h.block i hi hn)⟩
theorem Chg.mono{S':List Nat}(h:Chg S w w')(hs:∀ k∈S,k∈S'):Chg S' w w':=⟨h.os,h.tape,h.output,h.size,fun k hk hn=>h.block k hk (fun h'=>hn (hs k h'))⟩
theorem Chg.of_below (h:Below w.heap.size w w'):Chg S w w':=⟨h.os,h.tape,h.output,h.size,fun k hk _=>h.block k hk⟩
theorem Chg.set{g:Nat}(hg:g∈S)(u:Value):Chg S w (w.setCell ⟨g,j,none⟩ u):=
 ⟨rfl,rfl,rfl,by simp [World.setCell],fun k _ hn=>Below.heap_setCell w ⟨g,j,none⟩ u k (fun e=>hn (by rw [e];exact hg))⟩
theorem Chg.below (h:Chg S w w'){B:Nat}(hB:B≤w.heap.size)(hs:∀ k∈S,B≤k):Below B w w':=
 ⟨h.os,h.tape,h.output,h.size,fun k hk=>h.block k (w_ hk hB) (fun hm=>by have:=hs k hm;omega)⟩
theorem Chg.own (h:Chg S w w'){base:Nat}{size:Nat}{xs:List Value}(ho:w.ownsRow base e size v n xs)(hn:∀ g,v.ownBlock=some g→g ∉ S):w'.ownsRow base e size v n xs:=by
 refine ⟨ho.1,?_⟩;rcases ho.2 with h2|⟨g,cap,cur,rfl,hg,hh,r⟩
 ·exact .inl h2
 ·exact .inr ⟨g,cap,cur,rfl,hg,by rw [h.block g (q_ hh) (hn g rfl)];exact hh,r⟩
def OT (e:TypeId):Nat→Nat→World→Value→List TermM→List Nat→Prop
 | 0,_,_,_,_,_=>False
 | n+1,lo,w,v,L,S=>∃ (xs:List Value) (vs:Nat→Value) (Ss:Nat→List Nat),w.ownsRow lo e 4 v L.length xs∧S=v.ownBlock.toList++(List.range L.length).flatMap Ss∧S.Nodup∧
   ∀ j,j<L.length→(xs[j*4]? =some (.int .i64 (L.getD j default).op)∧xs[j*4+1]? =some (.string (bstr (L.getD j default).name))∧xs[j*4+2]? =some (.int .i64 (L.getD j default).sort)∧xs[j*4+3]? =some (vs j))∧
    ((L.getD j default).name.length≤maxLen∧I64 (L.getD j default).op∧I64 (L.getD j default).sort)∧OT e n lo w (vs j) (L.getD j default).args (Ss j)
theorem OT.lt {e:TypeId}:∀ {n lo:Nat} {w:World} {v:Value} {L:List TermM} {S:List Nat},OT e n lo w v L S→∀ k∈S,lo≤k∧k<w.heap.size
 | 0,_,_,_,_,_,h=>h.elim
 | n+1,lo,w,v,L,S,⟨xs,vs,Ss,ho,hS,ab,hj⟩=>by
  intro k hk;rw [hS,List.mem_append] at hk;rcases hk with hk|hk
  ·rcases ho.2 with ⟨rfl,_⟩|⟨g,cap,cur,rfl,hg,hh,_⟩
   ·simp [Value.ownBlock] at hk
   ·simp [Value.ownBlock] at hk
    subst hk;exact ⟨hg,(q_ hh)⟩
  ·obtain ⟨j,aa,hk⟩:=List.mem_flatMap.1 hk
   exact OT.lt (hj j (by simpa using aa)).2.2 k hk
theorem OT.chg {e:TypeId}:∀ {n lo:Nat} {w w':World} {v:Value} {L:List TermM} {S S':List Nat},OT e n lo w v L S→Chg S' w w'→(∀ k∈S,k ∉ S')→OT e n lo w' v L S
 | 0,_,_,_,_,_,_,_,h,_,_=>h.elim
 | n+1,lo,w,w',v,L,S,S',⟨xs,vs,Ss,ho,hS,ab,hj⟩,hc,hd=>by
  refine ⟨xs,vs,Ss,hc.own ho (fun g hg=>hd g ?_),hS,ab,fun j aa=>⟨(hj j aa).1,(hj j aa).2.1,OT.chg (hj j aa).2.2 hc (fun k hk=>hd k ?_)⟩⟩
  ·rw [hS,hg];simp
  ·rw [hS,List.mem_append]
   exact .inr (List.mem_flatMap.2 ⟨j,by simpa using aa,hk⟩)
theorem OT.below{L:List TermM}(h:OT e n lo w v L S)(hb:Below w.heap.size w w'):OT e n lo w' v L S:=h.chg (Chg.of_below (S:=[]) hb) (fun k _=>by simp)
theorem OT.mono {e:TypeId}:∀ {n lo lo':Nat} {w:World} {v:Value} {L:List TermM} {S:List Nat},OT e n lo w v L S→lo'≤lo→OT e n lo' w v L S
 | 0,_,_,_,_,_,_,h,_=>h.elim
 | n+1,lo,lo',w,v,L,S,⟨xs,vs,Ss,ho,hS,ab,hj⟩,hl=>by
  refine ⟨xs,vs,Ss,⟨ho.1,?_⟩,hS,ab,fun j aa=>⟨(hj j aa).1,(hj j aa).2.1,OT.mono (hj j aa).2.2 hl⟩⟩;rcases ho.2 with h2|⟨g,cap,cur,rfl,hg,r⟩
  ·exact .inl h2
  ·exact .inr ⟨g,cap,cur,rfl,Nat.le_trans hl hg,r⟩
theorem OT.has {e:TypeId}:∀ {n lo:Nat} {w:World} {v:Value} {L:List TermM} {S:List Nat},OT e n lo w v L S→HasTs n lo w v L
 | 0,_,_,_,_,_,h=>h.elim
 | n+1,lo,w,v,L,S,⟨xs,vs,Ss,ho,hS,ab,hj⟩=>by
  refine HasR.of_own ho rfl (fun j aa=>?_);obtain ⟨⟨h0,h1,h2,h3⟩,⟨h4,h5,h6⟩,h7⟩:=hj j aa;refine ⟨[.int .i64 (L.getD j default).op,.string (bstr (L.getD j default).name),.int .i64 (L.getD j default).sort,vs j],fun i hi=>?_,vs j,rfl,OT.has h7,h4,h5,h6⟩;match i,hi with
  | 0,_=>exact h0
  | 1,_=>exact h1
  | 2,_=>exact h2
  | 3,_=>exact h3
theorem OT.nodup:∀ {n lo:Nat} {w:World} {v:Value} {L:List TermM} {S:List Nat},OT e n lo w v L S→S.Nodup
 | 0,_,_,_,_,_,h=>h.elim
 | _+1,_,_,_,_,_,⟨_,_,_,_,_,aa,_⟩=>aa
theorem OT.nil (e:TypeId)(n lo:Nat)(w:World):OT e (n+1) lo w (.slice none 0 0) [] []:=
 ⟨[],fun _=>undef,fun _=>[],⟨rfl,.inl ⟨rfl,rfl⟩⟩,by simp [Value.ownBlock],List.nodup_nil,fun j hj=>by simp at hj⟩
theorem qhw (t:TermM):1≤size t:=by
 obtain ⟨o,n,s,l⟩:=t;rw [qbe];omega
end terml
end Go.Proofs.YtiilamngcoegiaaGreat
