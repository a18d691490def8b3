/- parts -/
import Derived.Test.YtiilamngcoegiaaGreatQPk02
import Derived.Deep.RegionHeld3
import Derived.Test.YtiilamngcoegiaaGreatQSubs
import Derived.Maps.OwnSet
import Derived.Maps.OwnOps
import Derived.Maps.Views
import Derived.Laws.Cover3
namespace Go.Proofs.YtiilamngcoegiaaGreat
open Go.ChangeShapes Go.WideShapes Go.ChangeAt Go.RowKit
variable {n lo k j c p B g:Nat}{w w' w1:World}{U:List Nat}{Q:List (Int×Int)}{κ κ':Int→Nat}{v a b d:Value}{P:List (List UInt8)}{ys xs:List Value}{T:TypeId}{A:Option Addr}{x:Int}{D:List (List Int×Int)}
namespace termt
open mem rowl trm trmv terml
def SzS (n:Nat):Prop:=∀ (L:List TermM) (v:Value) (w:World) (lo:Nat),HasTs n lo w v L→∀ m:Int,0≤m→m≤1048576→
 Calls Tryz.prog 35 #[v,.int .i64 m] w fun e w'=>∃ r:Int,e=.returned (.int .i64 r)∧(0≤r→r+qa2 L≤m)∧-1≤r∧r≤1048576∧Below w.heap.size w w'
theorem qmk (hS:SzS n)(op:Int)(l:List UInt8)(s:Int)(L:List TermM)(va:Value)(w:World)(hl:l.length≤maxLen)(h:HasTs n lo w va L)(m:Int)(hm:0≤m)(ag:m≤1048576):
  Calls Tryz.prog 9 #[.agg #[.int .i64 op,.string (bstr l),.int .i64 s,va],.int .i64 m] w fun e w'=>∃ r:Int,e=.returned (.int .i64 r)∧(0≤r→r+qa2 L≤m)∧-1≤r∧r≤1048576∧Below w.heap.size w w':=by
 have hsz:=qbj l;have aa:=z_ (fun W (hW:Below w.heap.size w W) m h1 h2=>hS L va W lo (h.below n_ hW) m h1 h2);obtain ⟨A,c,rfl,h⟩:=HasR.shape h rfl;obtain ⟨k,hk⟩:=e_ (L.length);rw [← hk] at aa ⊢;unfold maxLen at hl;clear h hk;by_cases ad:m-(l.length:Int)<0
 ·go_enter Tryz.func9,Tryz.ntmps9
  go_wp2;go_ret;exact ⟨-1,rfl,fun h=>by omega,by omega,by omega,b_.alloc n_ _⟩
 ·go_enter Tryz.func9,Tryz.ntmps9
  go_wp2_with fail
  refine (aa.out _ (b_.alloc n_ _) (m-l.length) o_ o_).mono ?_;rintro e w1 ⟨r,rfl,hr,ae,af,hb⟩;have ab:Below w.heap.size w w1:=(b_.alloc n_ _).trans (hb.mono (by simp));clear hb;by_cases ac:r<0
  ·go_wp2
   go_ret;exact ⟨-1,rfl,fun h=>by omega,by omega,by omega,ab⟩
  ·go_wp2
   go_ret;exact ⟨r,rfl,fun h=>by have:=hr h;omega,ae,af,ab⟩
theorem qgo{L:List TermM}(h:k<L.length):qa2 (L.take (k+1))=qa2 (L.take k)+size (L.getD k default):=by
 rw [List.take_succ_eq_append_getElem h,qai h];simp only [qa2,List.map_append,List.map_cons,List.map_nil,List.sum_append,List.sum_cons,List.sum_nil];omega
theorem qat (L:List TermM):L.length≤qa2 L:=by
 induction L with
 | nil=>simp
 | cons a l ih=>
  have:=qhw a;simp only [qa2,List.map_cons,List.sum_cons,List.length_cons] at ih ⊢;omega
theorem qam{l:List TermM}:∀ {j:Nat},j<l.length→size (l.getD j default)≤qa2 l:=by
 induction l with
 | nil=>intro j h;simp at h
 | cons a l ih=>
  intro j h;simp only [qa2,List.map_cons,List.sum_cons] at ih ⊢;cases j with
  | zero=>simp
  | succ j=>
   have:=ih (j:=j) Bg_;rw [List.getD_cons_succ];omega
theorem qqc (hS:∀ k,n=k+1→SzS k):SzS n:=by
 intro L v w lo h m hm ax;obtain ⟨N,hN⟩:=e_ (L.length);obtain ⟨A,c,rfl,h⟩:=HasR.shape h hN.symm;have hl:=h.len.2.1;have HH:=z_ h;have HN:=z_ hN;have HS:=z_ hS;clear h hN hS;by_cases ao:m-(N:Int)<0
 ·go_enter Tryz.func35,Tryz.ntmps35
  go_wp2;go_ret;exact ⟨-1,rfl,fun h=>by omega,by omega,by omega,Below.refl _ _⟩
 ·have ab:(N:Int)≤m:=o_
  go_enter Tryz.func35,Tryz.ntmps35
  go_wp2;go_loopw [1,5] (fun v i wr=>∃ (k:Nat) (r:Int),k≤N∧i=.int .i64 k∧v=.int .i64 r∧0≤r∧r≤1048576∧Hid (r+(N-k)+qa2 (L.take k)≤m)∧Below w.heap.size w wr) (fun _ i _=>N-(intOf i).toNat)
  case atStart=>exact ⟨0,_,y_,rfl,rfl,by omega,by omega,z_ (by have:qa2 (L.take 0)=0:=rfl;omega),Below.refl _ _⟩
  case round=>
   obtain ⟨k,r,hk,rfl,rfl,ap,ai,aj,aa⟩:=hrel;by_cases aq:k<N
   ·obtain ⟨k',g,o,A2,c2,au,rfl,_,hg,ae,af,ag,ac,hh,ab,_,_⟩:=qal HH.out aq
    rw [← aa.cell (p:=⟨g,o+k*4,none⟩) hg] at ae;rw [← aa.cell (p:=⟨g,o+k*4+1,none⟩) hg] at af;rw [← aa.cell (p:=⟨g,o+k*4+2,none⟩) hg] at ag;rw [← aa.cell (p:=⟨g,o+k*4+3,none⟩) hg] at ac;have ad:=hh.below n_ aa;have ah:Hid (qa2 (L.take (k+1))=qa2 (L.take k)+size (L.getD k default)):=z_ (qgo Ac_);obtain ⟨⟨op,l,s,ak⟩,ht⟩:∃ t,t=L.getD k default:=⟨_,rfl⟩;rw [← ht] at ae af ag ac ad ab ah;rw [qbe] at ah;simp only [TermM.op,TermM.name,TermM.sort,TermM.args] at ae af ag ac ad ab;have HZ:=z_ (fun W (hW:Below wr.heap.size wr W) m h1 h2=>qmk (HS.out k' au) op l s ak _ W ab (ad.below n_ hW) m h1 h2);obtain ⟨n2,al⟩:=e_ (ak.length);rw [← al] at ac HZ;clear hh ad al ht ab;go_wp2_with fail
    refine (HZ.out _ b_ r ap ai).mono ?_;rintro e w2 ⟨r2,rfl,hs,ay,av,am⟩;have aw:=z_ hs;clear hs;by_cases an:r2<0
    ·go_wp2
     go_ret;exact ⟨-1,rfl,fun h=>by omega,by omega,by omega,aa.trans (am.mono aa.size)⟩
    ·go_wp2
     go_roundw
     case rel=>exact ⟨k+1,r2,by omega,by go_num,rfl,by omega,av,z_ (by have h1:=aw.out o_;have h2:=aj.out;have h3:=ah.out;omega),aa.trans (am.mono aa.size)⟩
     case measure=>simp [intOf];omega
   ·obtain rfl:k=N:=o_
    have HE:Hid (r+qa2 L≤m):=z_ (by have h2:=aj.out;rw [HN.out,List.take_length] at h2;omega);go_wp2;go_ret;exact ⟨r,rfl,fun _=>HE.out,by omega,ai,aa⟩
theorem qih:∀ n,SzS n
 | 0=>qqc (fun k h=>by omega)
 | n+1=>qqc (fun k h=>Nat.succ.inj h ▸ qih n)
theorem qer (op:Int)(l:List UInt8)(s:Int)(L:List TermM)(va:Value)(w:World)(hl:l.length≤maxLen)(h:HasTs n lo w va L)(m:Int)(hm:0≤m)(aa:m≤1048576):
  Calls Tryz.prog 9 #[.agg #[.int .i64 op,.string (bstr l),.int .i64 s,va],.int .i64 m] w fun e w'=>∃ r:Int,e=.returned (.int .i64 r)∧(0≤r→r+qa2 L≤m)∧-1≤r∧r≤1048576∧Below w.heap.size w w':=
 qmk (qih n) op l s L va w hl h m hm aa
theorem qml{W:World}(hb:Below W.heap.size W w1):(∀ b o,b<W.heap.size→w1.cell? ⟨b,o,none⟩=W.cell? ⟨b,o,none⟩)∧(∀ b o,b<W.heap.size→w1.frozen? ⟨b,o,none⟩=W.frozen? ⟨b,o,none⟩):=
 ⟨fun b _ h=>hb.cell (p:=⟨b,_,none⟩) h,fun b _ h=>hb.frozen (p:=⟨b,_,none⟩) h⟩
theorem qa5 (w:World)(o:Obj)(g:Nat)(h:g=w.heap.size):(w.alloc o).heap[g]? =some o:=by subst h;show (w.heap.push o)[w.heap.size]? =_;simp
theorem qfq{c:Value}{i:Nat}(h:i<p∨p+4≤i):((((ys.set p a).set (p+1) b).set (p+2) c).set (p+3) d)[i]? =ys[i]? := by
 rw [List.getElem?_set_ne o_,List.getElem?_set_ne o_,List.getElem?_set_ne o_,List.getElem?_set_ne o_]
theorem ql5{c:Value}(h:p+4≤ys.length):((((ys.set p a).set (p+1) b).set (p+2) c).set (p+3) d)[p]? =some a∧((((ys.set p a).set (p+1) b).set (p+2) c).set (p+3) d)[p+1]? =some b∧
  ((((ys.set p a).set (p+1) b).set (p+2) c).set (p+3) d)[p+2]? =some c∧((((ys.set p a).set (p+1) b).set (p+2) c).set (p+3) d)[p+3]? =some d:=by
 refine ⟨?_,?_,?_,?_⟩
 ·rw [List.getElem?_set_ne o_,List.getElem?_set_ne o_,List.getElem?_set_ne o_,List.getElem?_set_self o_]
 ·rw [List.getElem?_set_ne o_,List.getElem?_set_ne o_,List.getElem?_set_self (by simp;omega)]
 ·rw [List.getElem?_set_ne o_,List.getElem?_set_self (by simp;omega)]
 ·rw [List.getElem?_set_self (by simp;omega)]
theorem qhc{l:List Nat}{f g:Nat→List Nat}(h:∀ a∈l,f a=g a):l.flatMap f=l.flatMap g:=by
 rw [List.flatMap_def,List.flatMap_def,List.map_congr_left h]
def qc6 (ys:List Value)(j:Nat)(t:TermM)(v:Value):Prop:=ys[j*4]? =some (.int .i64 t.op)∧ys[j*4+1]? =some (.string (bstr t.name))∧ys[j*4+2]? =some (.int .i64 t.sort)∧ys[j*4+3]? =some v
def Bnd (t:TermM):Prop:=t.name.length≤maxLen∧I64 t.op∧I64 t.sort
def Part (T:TypeId)(n B:Nat)(w:World)(ys:List Value)(L:List TermM)(j:Nat):Prop:=
 ∃ (vs:Nat→Value) (Ss:Nat→List Nat),((List.range j).flatMap Ss).Nodup∧∀ i,i<j→qc6 ys i (L.getD i default) (vs i)∧Bnd (L.getD i default)∧OT T n B w (vs i) (L.getD i default).args (Ss i)
theorem Part.zero (T:TypeId)(n B:Nat)(w:World)(ys:List Value)(L:List TermM):Part T n B w ys L 0:=⟨fun _=>undef,fun _=>[],by simp,fun i hi=>by omega⟩
theorem Part.step{w2 w3:World}{L:List TermM}{v2:Value}{S2:List Nat}{t:TermM}(h:Part T n B w ys L j)(ht:t=L.getD j default)(hb:Below w.heap.size w w2)(ho:OT T n w.heap.size w2 v2 t.args S2)(hB:B≤w.heap.size)(hc:Chg [g] w2 w3)(hg:g<B)(hl:j*4+4≤ys.length)(ab:Bnd t):
  Part T n B w3 ((((ys.set (j*4) (.int .i64 t.op)).set (j*4+1) (.string (bstr t.name))).set (j*4+2) (.int .i64 t.sort)).set (j*4+3) v2) L (j+1):=by
 subst ht;obtain ⟨vs,Ss,ac,hi⟩:=h;refine ⟨fun i=>if i=j then v2 else vs i,fun i=>if i=j then S2 else Ss i,?_,fun i af=>?_⟩
 ·rw [List.range_succ,List.flatMap_append,qhc (g:=Ss) (fun a ha=>by rw [if_neg (by have:=List.mem_range.1 ha;omega)])]
  simp only [List.flatMap_cons,List.flatMap_nil,List.append_nil,if_pos];refine List.nodup_append.2 ⟨ac,ho.nodup,fun a ha b ad e=>?_⟩;obtain ⟨q,hq,ae⟩:=List.mem_flatMap.1 ha;have h1:=((hi q (List.mem_range.1 hq)).2.2.lt a ae).2;have h2:=(ho.lt b ad).1;omega
 ·show qc6 _ i _ (if i=j then v2 else vs i)∧_∧OT T n B w3 (if i=j then v2 else vs i) _ (if i=j then S2 else Ss i)
  by_cases e:i=j
  ·subst e
   obtain ⟨a,b,c,d⟩:=ql5 (a:=.int .i64 (L.getD i default).op) (b:=.string (bstr (L.getD i default).name)) (c:=.int .i64 (L.getD i default).sort) (d:=v2) hl;refine ⟨⟨a,b,c,by rw [if_pos rfl];exact d⟩,ab,?_⟩;rw [if_pos rfl,if_pos rfl];exact (ho.chg hc (fun k hk=>by have:=(ho.lt k hk).1;simp;omega)).mono hB
  ·obtain ⟨⟨a,b,c,d⟩,aa,h3⟩:=hi i o_
   rw [if_neg e,if_neg e];refine ⟨⟨?_,?_,?_,?_⟩,aa,?_⟩
   ·rw [qfq o_];exact a
   ·rw [qfq o_];exact b
   ·rw [qfq o_];exact c
   ·rw [qfq o_];exact d
   ·exact (h3.below hb).chg hc (fun k hk=>by have:=(h3.lt k hk).1;simp;omega)
theorem Part.done{L:List TermM}(h:Part T n B w ys L L.length)(ho:w.ownsRow lo T 4 v L.length ys)(hv:∀ g,v.ownBlock=some g→g<B)(hB:lo≤B):∃ S,OT T (n+1) lo w v L S:=by
 obtain ⟨vs,Ss,aa,hi⟩:=h;refine ⟨_,ys,vs,Ss,ho,rfl,?_,fun j hj=>⟨(hi j hj).1,(hi j hj).2.1,(hi j hj).2.2.mono hB⟩⟩;refine List.nodup_append.2 ⟨?_,aa,fun a ha b ab e=>?_⟩
 ·cases v.ownBlock<;>simp
 ·obtain ⟨q,hq,ac⟩:=List.mem_flatMap.1 ab
  have h1:=((hi q (List.mem_range.1 hq)).2.2.lt b ac).1;have h2:=hv a (by simpa using ha);omega
theorem qhx (h:Chg [g] w w')(j:Nat)(u:Value):Chg [g] w (w'.setCell ⟨g,j,none⟩ u):=h.trans (Chg.set (by simp) u)
theorem qb1:(Tryz.prog.info? 38).map (fun i=>(i.zero,i.size,i.bytes))=some (some (.agg #[.int .i64 0,.string { data:=#[] },.int .i64 0,.slice none 0 0]),4,56):=by kernel_rfl
def ToS (n:Nat):Prop:=∀ (L:List TermM) (v:Value) (w:World) (lo:Nat),HasTs n lo w v L→qa2 L≤1048576→
 Calls Tryz.prog 43 #[v] w fun e w'=>∃ v' S,e=.returned v'∧OT 38 (n+1) w.heap.size w' v' L S∧Below w.heap.size w w'
theorem OT.shape{L:List TermM}{S:List Nat}(h:OT T (n+1) lo w v L S):∃ A c,v=.slice A L.length c:=by
 obtain ⟨xs,vs,Ss,ho,_⟩:=h;obtain ⟨A,c,e,_⟩:=qaz ho;exact ⟨A,c,e⟩
theorem c4_{p:Prop}(h:p:=by
 repeat (first|exact Below.refl _ _|refine Below.setCell ?_ Ab_ _|refine Below.alloc ?_ Ab_ _)
):p:=h
theorem qmm (hT:ToS n)(op:Int)(l:List UInt8)(s:Int)(L:List TermM)(hL:qa2 L≤1048576)(va:Value)(w:World)(h:HasTs n lo w va L):
  Calls Tryz.prog 13 #[.agg #[.int .i64 op,.string (bstr l),.int .i64 s,va]] w fun e w'=>∃ v S,e=.returned (.agg #[.int .i64 op,.string (bstr l),.int .i64 s,v])∧OT 38 (n+1) w.heap.size w' v L S∧Below w.heap.size w w':=by
 have ad:=z_ (fun W (hW:Below w.heap.size w W)=>hT L va W lo (h.below n_ hW) hL);obtain ⟨A,ca,rfl,h'⟩:=HasR.shape h rfl;obtain ⟨k,hk⟩:=e_ (L.length);have HN:=z_ hk;rw [← hk] at ad ⊢;clear h h' hk;go_enter Tryz.func13,Tryz.ntmps13
 go_wp2_with fail
 refine (ad.out _ ?_).mono ?_
 ·exact c4_
 rintro e w1 ⟨v1,S1,rfl,ac,ab⟩;obtain ⟨A1,c1,rfl⟩:=OT.shape ac;rw [← HN.out] at ac ⊢;have ae:=z_ (ac.mono (lo':=w.heap.size+1+1+1) (by simp));have aa:w1.heap[w.heap.size+1]? =some (.cells #[.int .i64 0,.string { data:=#[] },.int .i64 0,.slice none 0 0] 38 (0,0)):=by
  rw [ab.block _ (by simp)];exact (Below.heap_alloc _ _ _ (by simp)).trans (qa5 _ _ _ (by simp))
 have d0:w1.cell? ⟨w.heap.size+1,0,none⟩=some (.int .i64 0):=h_ w1 _ 0 _ _ _ aa;have d1:w1.cell? ⟨w.heap.size+1,1,none⟩=some (.string { data:=#[] }):=h_ w1 _ 1 _ _ _ aa;have d2:w1.cell? ⟨w.heap.size+1,2,none⟩=some (.int .i64 0):=h_ w1 _ 2 _ _ _ aa;have d3:w1.cell? ⟨w.heap.size+1,3,none⟩=some (.slice none 0 0):=h_ w1 _ 3 _ _ _ aa;have e0:=g_ w1 _ 0 _ _ aa;have e1:=g_ w1 _ 1 _ _ aa;have e2:=g_ w1 _ 2 _ _ aa;have e3:=g_ w1 _ 3 _ _ aa;have af:Below w.heap.size w w1:=by
  refine Below.trans ?_ (ab.mono ?_)
  ·exact c4_
  ·simp;omega
 obtain ⟨ag,ah⟩:=qml ab;have hz:w.heap.size+2<w1.heap.size:=by have:=ab.size;simp at this;omega
 clear ac aa ab;go_wp2;refine bodyPost_ret (v:=.agg #[.int .i64 op,.string (bstr l),.int .i64 s,.slice A1 k c1]) (by simp [results,Tryz.results13,go_sem,d0,d1,d2,d3]) rfl ⟨_,S1,rfl,?_,?_⟩
 ·refine OT.mono (lo:=w.heap.size+1+1+1) ?_ o_
  refine ae.out.chg (S':=[w.heap.size+1,w.heap.size+2]) ?_ (fun q hq=>by have:=(ae.out.lt q hq).1;simp;omega);refine Chg.trans ?_ (Chg.set (by simp) _);repeat (refine Chg.trans ?_ (Chg.set (by simp) _))
  exact Chg.refl _ _
 ·repeat (refine Below.setCell ?_ Ab_ _)
  exact af
theorem qqd (hS:∀ k,n=k+1→ToS k):ToS n:=by
 intro L v w lo h hsz;obtain ⟨N,hN⟩:=e_ (L.length);obtain ⟨A,c,rfl,h⟩:=HasR.shape h hN.symm;obtain ⟨i0,hi,aw,ax,ay⟩:=info_parts qb1;have aC:N≤1048576:=by have:=qat L;omega
 have HH:=z_ h;have HN:=z_ hN;have HS:=z_ hS;have az:=z_ hsz;clear h hN hS hsz;go_enter Tryz.func43,Tryz.ntmps43
 go_wp2_with (at_make;refine wpList_make_full _ rfl _ _ 36 rfl w.heap.size 38 i0 _ 4 Tryz.underlying36 hi aw ax _ _ _ _ N rfl rfl rfl rfl (by rw [ay];omega) Aa_ n_ ?_)
 intro w1 hown ab;have ag:w.heap.size<w1.heap.size:=by
  rcases hown.2 with ⟨hv,_⟩|⟨g,cap,cur,hv,hb,hg,_⟩
  ·cases hv
  ·have:=(q_ hg);omega
 go_wp2
 go_loopw [4] (fun i wr=>∃ (j:Nat) (ys:List Value),j≤N∧i=.int .i64 j∧wr.ownsRow w.heap.size 38 4 (.slice (some ⟨w.heap.size,0,none⟩) N N) N ys∧
   Hid (Part 38 n (w.heap.size+1) wr ys L j)∧w.heap.size<wr.heap.size∧Below w.heap.size w wr) (fun i _=>N-(intOf i).toNat)
 case atStart=>exact ⟨0,_,y_,rfl,hown,z_ (Part.zero _ _ _ _ _ _),ag,b_.grown ab n_ (by intro k h;cases h)⟩
 case round=>
  obtain ⟨j,ys,hj,rfl,hown,HY,hsz,aa⟩:=hrel;by_cases aA:j<N
  ·obtain ⟨k',g,o,A2,c2,ae,rfl,_,hg,ah,ai,aj,ak,hh,al⟩:=qal HH.out aA
   rw [← aa.cell (p:=⟨g,o+j*4,none⟩) hg] at ah;rw [← aa.cell (p:=⟨g,o+j*4+1,none⟩) hg] at ai;rw [← aa.cell (p:=⟨g,o+j*4+2,none⟩) hg] at aj;rw [← aa.cell (p:=⟨g,o+j*4+3,none⟩) hg] at ak;have am:=hh.below n_ aa;have an:qa2 (L.getD j default).args≤1048576:=by
    have h1:=az.out;have h2:=qam (l:=L) (j:=j) Ac_;rw [← (L.getD j default).eta,qbe] at h2;omega
   obtain ⟨t,ht⟩:=e_ (L.getD j default);rw [← ht] at ah ai aj ak am al an;have HT:=z_ (ae ▸ qmm (HS.out k' ae) t.op t.name t.sort t.args an _ wr am:Calls Tryz.prog 13 _ wr fun e w'=>∃ v S,e=.returned (.agg #[.int .i64 t.op,.string (bstr t.name),.int .i64 t.sort,v])∧OT 38 n wr.heap.size w' v t.args S∧Below wr.heap.size wr w');have HX:=z_ ht;have HB:=z_ al;have ac:=z_ hown;obtain ⟨q,hq⟩:=e_ (t.args.length);obtain ⟨op,ao⟩:=e_ (t.op);obtain ⟨nm,ap⟩:=e_ (t.name);obtain ⟨so,aq⟩:=e_ (t.sort);rw [← hq] at ak HT;rw [← ao] at ah HT;rw [← ap] at ai HT;rw [← aq] at aj HT;have HE:=z_ (And.intro ao (And.intro ap aq));have HK:=z_ ae;have HQ:=z_ hq;clear hh am ht hown al hq ao ap aq ae an;go_wp2_with fail
   refine (HT.out).mono ?_;rintro e w2 ⟨v2,S2,rfl,au,af⟩;have ad:=z_ (own_below ac.out af);have HV:=z_ au;have aB:=z_ af;obtain ⟨⟨v0,aD⟩,aE⟩:=qaa ad.out (i:=j*4) o_;obtain ⟨⟨v1,aF⟩,aG⟩:=qaa ad.out (i:=j*4+1) o_;obtain ⟨⟨aH,aI⟩,aJ⟩:=qaa ad.out (i:=j*4+2) o_;obtain ⟨⟨v3,aK⟩,aL⟩:=qaa ad.out (i:=j*4+3) o_;obtain ⟨A3,c3,av⟩:∃ A c,v2=.slice A t.args.length c:=by
    have h:=au;rw [HK.out] at h;exact OT.shape h
   rw [← HQ.out] at av;subst av;clear au;go_wp2;go_roundw
   case rel=>
    refine ⟨j+1,_,by omega,by go_num,qa4 (qa4 (qa4 (qa4 ad.out (j*4) _) (j*4+1) _) (j*4+2) _) (j*4+3) _,z_ ?_,by simp [World.setCell];have:=af.size;omega,((((aa.trans (af.mono aa.size)).setCell n_ _).setCell n_ _).setCell n_ _).setCell n_ _⟩;have hlen:ys.length=N*4:=by have:=ac.out.1;omega
    obtain ⟨h1,h2,h3⟩:=HE.out;rw [h1,h2,h3];exact Part.step HY.out HX.out aB.out HV.out o_ (qhx (qhx (qhx (qhx (Chg.refl _ _) _ _) _ _) _ _) _ _) (Nat.lt_succ_self _) o_ HB.out
   case measure=>simp [intOf];omega
  ·obtain rfl:j=N:=o_
   have HW:Hid (∃ S,OT 38 (n+1) w.heap.size wr (.slice (some ⟨w.heap.size,0,none⟩) j j) L S):=z_ (by
    have h1:=HY.out;rw [HN.out] at h1 hown;rw [HN.out]
    exact Part.done h1 hown (fun g hg=>by simp [Value.ownBlock] at hg;omega) o_)
   clear hown;go_wp2;go_ret;obtain ⟨S,hS⟩:=HW.out;exact ⟨_,S,rfl,hS,aa⟩
theorem qii:∀ n,ToS n
 | 0=>qqd (fun k h=>by omega)
 | n+1=>qqd (fun k h=>Nat.succ.inj h ▸ qii n)
theorem qes (op:Int)(l:List UInt8)(s:Int)(L:List TermM)(hL:qa2 L≤1048576)(va:Value)(w:World)(h:HasTs n lo w va L):
  Calls Tryz.prog 13 #[.agg #[.int .i64 op,.string (bstr l),.int .i64 s,va]] w fun e w'=>∃ v S,e=.returned (.agg #[.int .i64 op,.string (bstr l),.int .i64 s,v])∧OT 38 (n+1) w.heap.size w' v L S∧Below w.heap.size w w':=
 qmm (qii n) op l s L hL va w h
end termt

namespace sortn
set_option maxRecDepth 100000
open mem split strl subs
def isL (b:UInt8):Bool:=decide ((97≤b.toNat∧b.toNat≤122)∨(65≤b.toNat∧b.toNat≤90))
def isDg (b:UInt8):Bool:=decide (48≤b.toNat∧b.toNat≤57)
def isLD (b:UInt8):Bool:=isL b || isDg b
def qb3 (l:List UInt8):Bool:=decide (1≤l.length∧l.length≤12)&&isL (l.getD 0 0)&&l.all isLD&&decide (l≠[105,102])&&decide (l≠[97,110,100])
theorem ql9 (l:List UInt8)(f:UInt8→Bool)(k:Nat)(h:k<l.length):(l.take (k+1)).all f=((l.take k).all f&&f (l.getD k 0)):=by
 rw [List.take_succ_eq_append_getElem h,List.all_append];simp [List.getD,List.getElem?_eq_getElem h]
theorem qub (l:List UInt8)(f:UInt8→Bool)(k:Nat)(h:k<l.length)(hf:f (l.getD k 0)=false):l.all f=false:=by
 simp only [List.all_eq_false];exact ⟨l[k],List.getElem_mem h,by simpa [List.getD,List.getElem?_eq_getElem h] using hf⟩
theorem qcl (l:List UInt8):(bstr l).toList=l:=by rw [ByteArray.toList_eq];exact qfb l
theorem i2_{p:Prop}(h:p:=by
 go_wp2;go_ret;exact ⟨qa0 (by first|exact HQ.out.symm|(rw [HQ.out];simp;omega)),rfl⟩
):p:=h
theorem j4_{p:Prop}(h:p:=by
 go_enter Tryz.func223,Tryz.ntmps223
 exact i2_
):p:=h
theorem c14_{p:Prop}(h:p:=by
 have HQ:Hid (r=false):=z_ (by rw [← HR.out];simp;omega);exact j4_
):p:=h
theorem c16_{p:Prop}(h:p:=by
 have HQ:Hid (r=true):=z_ (by rw [← HR.out];simp;omega);exact j4_
):p:=h
theorem qla (b:UInt8)(r:Bool)(hr:isL b=r)(w:World):
  Calls Tryz.prog 223 #[.int .u8 (b.toNat:Int)] w fun e w'=>e=.returned (.bool r)∧w=w':=by
 obtain ⟨x,hx⟩:=e_ (b.toNat);have HR:Hid (decide ((97≤x∧x≤122)∨(65≤x∧x≤90))=r):=z_ (by rw [← hr,isL,hx]);rw [← hx];clear hx hr;have aa:(97≤x∧x≤122)∨(122<x)∨(65≤x∧x≤90)∨(90<x∧x<97)∨x<65:=o_;rcases aa with ⟨h1,h2⟩|h1|⟨h1,h2⟩|⟨h1,h2⟩|h1
 ·exact c16_
 ·exact c14_
 ·exact c16_
 ·exact c14_
 ·exact c14_
theorem j5_{p:Prop}(h:p:=by
 go_enter Tryz.func224,Tryz.ntmps224
 exact i2_
):p:=h
theorem c15_{p:Prop}(h:p:=by
 have HQ:Hid (r=false):=z_ (by rw [← HR.out];simp;omega);exact j5_
):p:=h
theorem qqh (b:UInt8)(r:Bool)(hr:isDg b=r)(w:World):
  Calls Tryz.prog 224 #[.int .u8 (b.toNat:Int)] w fun e w'=>e=.returned (.bool r)∧w=w':=by
 obtain ⟨x,hx⟩:=e_ (b.toNat);have HR:Hid (decide (48≤x∧x≤57)=r):=z_ (by rw [← hr,isDg,hx]);rw [← hx];clear hx hr;have aa:(48≤x∧x≤57)∨(57<x)∨x<48:=o_;rcases aa with ⟨h1,h2⟩|h1|h1
 ·have HQ:Hid (r=true):=z_ (by rw [← HR.out];simp;omega)
  exact j5_
 ·exact c15_
 ·exact c15_
theorem i3_{p:Prop}(h:p:=by
 go_wp2;go_ret;exact ⟨qa0 HQ.out.symm,rfl⟩
):p:=h
theorem j7_{p:Prop}(h:p:=by
 exact i3_
):p:=h
theorem c18_{p:Prop}(h:p:=by
 have HQ:Hid (r=false):=z_ (by rw [← HR.out];simp [qb3];omega);go_enter Tryz.func187,Tryz.ntmps187
 exact j7_
):p:=h
theorem c21_{p:Prop}(h:p:=by
 go_round
 case rel=>exact ⟨k+1,by omega,by go_num,ag⟩
 case measure=>simp [intOf];omega
):p:=h
theorem c23_{p:Prop}(h:p:=by
 exact j7_
):p:=h
theorem qil (l:List UInt8)(hl:l.length≤maxLen)(r:Bool)(hr:qb3 l=r)(w:World):
  Calls Tryz.prog 187 #[.string (bstr l)] w fun e w'=>e=.returned (.bool r)∧w=w':=by
 unfold maxLen at hl;have hsz:(bstr l).size=l.length:=qbj l;have HR:=z_ hr;clear hr;by_cases al:l.length<1
 ·exact c18_
 by_cases am:12<l.length
 ·exact c18_
 have af:∀ w:World,(Instr.index 9 (.string (bstr l)) (.int .i64 0)).run Tryz.prog w=.ok (.int .u8 ((l.getD 0 0).toNat:Int)) w:=fun w=>qbt (i:=0) w Tryz.underlying9 o_
 have an:decide ((l.length:Int)<1)=false:=by simp;omega
 have ao:decide ((12:Int)<(l.length:Int))=false:=by simp;omega
 obtain ⟨b,hb⟩:=e_ (l.getD 0 0);rw [← hb] at af;cases hL:isL b with
 | false=>
  have HQ:Hid (r=false):=z_ (by rw [← HR.out];simp only [qb3];rw [← hb,hL];simp);have HC:=z_ (fun W=>qla b false hL W);clear hL hb;go_enter Tryz.func187,Tryz.ntmps187
  go_wp2_with (go_at_call 223;refine (HC.out _).mono ?_;rintro e w1 ⟨rfl,rfl⟩)
  go_ret;exact ⟨qa0 HQ.out.symm,rfl⟩
 | true=>
  have HC:=z_ (fun W=>qla b true hL W);have HL:=z_ hL;have HB:=z_ hb;clear hL hb;go_enter Tryz.func187,Tryz.ntmps187
  go_wp2_with (go_at_call 223;refine (HC.out _).mono ?_;rintro e w1 ⟨rfl,rfl⟩)
  go_loop [3,20] (fun u i=>∃ k:Nat,k≤l.length∧i=.int .i64 k∧Hid ((l.take k).all isLD=true)) (fun _ i=>l.length-(intOf i).toNat)
  case atStart=>exact ⟨0,y_,rfl,z_ (by simp)⟩
  case round=>
   obtain ⟨k,hk,rfl,HA⟩:=hrel;by_cases ad:k<l.length
   ·have ac:∀ w:World,(Instr.index 9 (.string (bstr l)) (.int .i64 (k:Int))).run Tryz.prog w=.ok (.int .u8 ((l.getD k 0).toNat:Int)) w:=fun w=>qbt w Tryz.underlying9 ad
    obtain ⟨c,hc⟩:=e_ (l.getD k 0);rw [← hc] at ac;cases aa:isL c with
    | true=>
     have ae:=z_ (fun W=>qla c true aa W);have ag:Hid ((l.take (k+1)).all isLD=true):=z_ (by rw [ql9 l _ k ad,HA.out,← hc,isLD,aa];rfl);clear aa hc;go_wp2_with (go_at_call 223;refine (ae.out _).mono ?_;rintro e w1 ⟨rfl,rfl⟩)
     exact c21_
    | false=>
     have ae:=z_ (fun W=>qla c false aa W);cases ab:isDg c with
     | true=>
      have ah:=z_ (fun W=>qqh c true ab W);have ag:Hid ((l.take (k+1)).all isLD=true):=z_ (by rw [ql9 l _ k ad,HA.out,← hc,isLD,ab];simp);clear aa hc ab;go_wp2_with (first|(go_at_call 223;refine (ae.out _).mono ?_;rintro e w1 ⟨rfl,rfl⟩)|(go_at_call 224;refine (ah.out _).mono ?_;rintro e w1 ⟨rfl,rfl⟩))
      exact c21_
     | false=>
      have ah:=z_ (fun W=>qqh c false ab W)
      have HQ:Hid (r=false):=z_ (by
       have ai:=qub l isLD k ad (by rw [← hc,isLD,aa,ab];rfl)
       rw [← HR.out];simp only [qb3];rw [ai];simp)
      clear aa hc ab;go_wp2_with (first|(go_at_call 223;refine (ae.out _).mono ?_;rintro e w1 ⟨rfl,rfl⟩)|(go_at_call 224;refine (ah.out _).mono ?_;rintro e w1 ⟨rfl,rfl⟩))
      go_ret;exact ⟨qa0 HQ.out.symm,rfl⟩
   ·obtain rfl:k=l.length:=o_
    have hA:l.all isLD=true:=by have:=HA.out;rwa [List.take_length] at this
    by_cases h1:l=[105,102]
    ·have HQ:Hid (r=false):=z_ (by rw [← HR.out];simp only [qb3];rw [h1];simp)
     have aj:((bstr l).toList==[105,102])=true:=by rw [qcl,h1];rfl
     have H1:=z_ h1;clear hA h1;exact c23_
    ·by_cases h2:l=[97,110,100]
     ·have HQ:Hid (r=false):=z_ (by rw [← HR.out];simp only [qb3];rw [h2];simp)
      have aj:((bstr l).toList==[105,102])=false:=by rw [qcl];simpa using h1
      have ak:((bstr l).toList==[97,110,100])=true:=by rw [qcl,h2];rfl
      have H1:=z_ h2;clear hA h1 h2;exact c23_
     ·have HQ:Hid (r=true):=z_ (by
       rw [← HR.out];simp only [qb3];rw [hA,← HB.out,HL.out];simp [h1,h2];omega)
      have aj:((bstr l).toList==[105,102])=false:=by rw [qcl];simpa using h1
      have ak:((bstr l).toList==[97,110,100])=false:=by rw [qcl];simpa using h2
      clear hA h1 h2;exact c23_
theorem qov (y:Int):
  (decide (97≤y)=true∧decide (y≤122)=true) ∨
  (decide (97≤y)=false∧decide (65≤y)=true∧decide (y≤90)=true) ∨
  (decide (97≤y)=false∧decide (65≤y)=false∧decide (48≤y)=true∧decide (y≤57)=true) ∨
  (decide (97≤y)=true∧decide (y≤122)=false∧decide (65≤y)=true∧decide (y≤90)=false∧decide (48≤y)=true∧decide (y≤57)=false) ∨
  (decide (97≤y)=false∧decide (65≤y)=true∧decide (y≤90)=false∧decide (48≤y)=true∧decide (y≤57)=false) ∨
  (decide (97≤y)=false∧decide (65≤y)=false∧decide (48≤y)=true∧decide (y≤57)=false) ∨
  (decide (97≤y)=false∧decide (65≤y)=false∧decide (48≤y)=false):=by
 simp only [decide_eq_true_eq,decide_eq_false_iff_not];omega
def clL (y:Int):Bool:=decide ((97≤y∧y≤122)∨(65≤y∧y≤90))
def clD (y:Int):Bool:=decide (48≤y∧y≤57)
theorem quc (b:UInt8):isL b=clL (b.toNat:Int):=by
 rw [isL,clL,decide_eq_decide];omega
theorem qud (b:UInt8):isLD b=(clL (b.toNat:Int) || clD (b.toNat:Int)):=by
 rw [isLD,quc,isDg,clD];congr 1;rw [decide_eq_decide];omega
theorem i1_{p:Prop}(h:p:=by
 go_wp2;go_round
 case rel=>exact ⟨k+1,by omega,by go_num,ac⟩
 case measure=>simp [intOf];omega
):p:=h
theorem j2_{p:Prop}(h:p:=by
 have ac:Hid ((l.take (k+1)).all isLD=true):=z_ (ad.out (by simp only [clL,clD,Bool.or_eq_true,decide_eq_true_eq,decide_eq_false_iff_not] at *;omega) HK.out);exact i1_
):p:=h
theorem j3_{p:Prop}(h:p:=by
 have HQ:Hid (r=false):=z_ (ab.out (by simp only [clL,clD,Bool.or_eq_false_iff,decide_eq_true_eq,decide_eq_false_iff_not] at *;omega));exact i3_
):p:=h
theorem c11_{p:Prop}(h:p:=by
 rcases qov y with ⟨g1,g2⟩|⟨g1,g2,g3⟩|⟨g1,g2,g3,g4⟩|⟨g1,g2,g3,g4,g5,g6⟩|⟨g1,g2,g3,g4,g5⟩|⟨g1,g2,g3,g4⟩|⟨g1,g2,g3⟩
 ·exact j2_
 ·exact j2_
 ·exact j2_
 ·exact j3_
 ·exact j3_
 ·exact j3_
 ·exact j3_
):p:=h
theorem j6_{p:Prop}(h:p:=by
 go_enter Tryz.func132,Tryz.ntmps132
 exact i3_
):p:=h
theorem c12_{p:Prop}(h:p:=by
 have HQ:Hid (r=false):=z_ (HL.out (by simp only [clL,decide_eq_true_eq,decide_eq_false_iff_not] at *;omega));exact j6_
):p:=h
theorem c17_{p:Prop}(h:p:=by
 obtain rfl:k=l.length:=o_;have HQ:Hid (r=true):=z_ (ag.out (by have:=HK.out;rwa [List.take_length] at this));exact j7_
):p:=h
theorem c19_{p:Prop}(h:p:=by
 have HQ:Hid (r=false):=z_ (by rw [← HR.out];simp [qb3];omega);exact j6_
):p:=h
theorem c22_{p:Prop}(h:p:=by
 exact j6_
):p:=h
set_option maxHeartbeats 1000000 in
theorem qfs (l:List UInt8)(hl:l.length≤maxLen)(r:Bool)(hr:qb3 l=r)(w:World):
  Calls Tryz.prog 132 #[.string (bstr l)] w fun e w'=>e=.returned (.bool r)∧w=w':=by
 unfold maxLen at hl;have hsz:(bstr l).size=l.length:=qbj l;have HR:=z_ hr;clear hr;by_cases h1:l=[105,102]
 ·have HQ:Hid (r=false):=z_ (by rw [← HR.out];simp only [qb3];rw [h1];simp)
  have ah:((bstr l).toList==[105,102])=true:=by rw [qcl,h1];rfl
  clear h1;exact c22_
 have ah:((bstr l).toList==[105,102])=false:=by rw [qcl];simpa using h1
 by_cases h2:l=[97,110,100]
 ·have HQ:Hid (r=false):=z_ (by rw [← HR.out];simp only [qb3];rw [h2];simp)
  have ai:((bstr l).toList==[97,110,100])=true:=by rw [qcl,h2];rfl
  clear h1 h2;exact c22_
 have ai:((bstr l).toList==[97,110,100])=false:=by rw [qcl];simpa using h2
 have H1:=z_ h1;have H2:=z_ h2;clear h1 h2;by_cases aj:l.length<1
 ·exact c19_
 by_cases ak:12<l.length
 ·exact c19_
 have ae:∀ w:World,(Instr.index 9 (.string (bstr l)) (.int .i64 0)).run Tryz.prog w=.ok (.int .u8 ((l.getD 0 0).toNat:Int)) w:=fun w=>qbt (i:=0) w Tryz.underlying9 o_
 have al:decide ((l.length:Int)<1)=false:=by simp;omega
 have am:decide ((12:Int)<(l.length:Int))=false:=by simp;omega
 have HL:Hid (clL ((l.getD 0 0).toNat:Int)=false→r=false):=z_ (by
  intro h;rw [← HR.out];simp only [qb3];rw [quc,h];simp)
 have HT:Hid (clL ((l.getD 0 0).toNat:Int)=true→l.all isLD=true→r=true):=z_ (by
  intro h h';rw [← HR.out];simp only [qb3];rw [quc,h,h'];have:=H1.out;have:=H2.out;simp [*];omega)
 have HF:Hid (∀ k,k<l.length→(clL ((l.getD k 0).toNat:Int) || clD ((l.getD k 0).toNat:Int))=false→r=false):=z_ (by
  intro k hk h;rw [← HR.out];simp only [qb3];rw [qub l isLD k hk (by rw [qud];exact h)];simp)
 have HA:Hid (∀ k,k<l.length→(clL ((l.getD k 0).toNat:Int) || clD ((l.getD k 0).toNat:Int))=true→(l.take k).all isLD=true→(l.take (k+1)).all isLD=true):=z_ (by
  intro k hk h h2;rw [ql9 l _ k hk,h2,qud,h];rfl)
 obtain ⟨x,hx⟩:∃ x:Int,x=((l.getD 0 0).toNat:Int):=⟨_,rfl⟩;rw [← hx] at ae HL HT;clear hx;rcases qov x with ⟨h1,h2⟩|⟨h1,h2,h3⟩|⟨h1,h2,_⟩|⟨h1,h2,h3,h4,_⟩|⟨h1,h2,h3,_⟩|⟨h1,h2,_⟩|⟨h1,h2,_⟩
 ·have ag:Hid (l.all isLD=true→r=true):=z_ (HT.out (by simp only [clL,decide_eq_true_eq] at *;omega))
  go_enter Tryz.func132,Tryz.ntmps132
  go_wp2;go_loop [3] (fun i=>∃ k:Nat,k≤l.length∧i=.int .i64 k∧Hid ((l.take k).all isLD=true)) (fun i=>l.length-(intOf i).toNat)
  case atStart=>exact ⟨0,y_,rfl,z_ (by simp)⟩
  case round=>
   obtain ⟨k,hk,rfl,HK⟩:=hrel;by_cases af:k<l.length
   ·have aa:∀ w:World,(Instr.index 9 (.string (bstr l)) (.int .i64 (k:Int))).run Tryz.prog w=.ok (.int .u8 ((l.getD k 0).toNat:Int)) w:=fun w=>qbt w Tryz.underlying9 af
    have ab:=z_ (HF.out k af);have ad:=z_ (HA.out k af);obtain ⟨y,hy⟩:∃ y:Int,y=((l.getD k 0).toNat:Int):=⟨_,rfl⟩;rw [← hy] at aa ab ad;clear hy ae h1 h2;exact c11_
   ·exact c17_
 ·have ag:Hid (l.all isLD=true→r=true):=z_ (HT.out (by simp only [clL,decide_eq_true_eq] at *;omega))
  go_enter Tryz.func132,Tryz.ntmps132
  go_wp2;go_loop [3] (fun i=>∃ k:Nat,k≤l.length∧i=.int .i64 k∧Hid ((l.take k).all isLD=true)) (fun i=>l.length-(intOf i).toNat)
  case atStart=>exact ⟨0,y_,rfl,z_ (by simp)⟩
  case round=>
   obtain ⟨k,hk,rfl,HK⟩:=hrel;by_cases af:k<l.length
   ·have aa:∀ w:World,(Instr.index 9 (.string (bstr l)) (.int .i64 (k:Int))).run Tryz.prog w=.ok (.int .u8 ((l.getD k 0).toNat:Int)) w:=fun w=>qbt w Tryz.underlying9 af
    have ab:=z_ (HF.out k af);have ad:=z_ (HA.out k af);obtain ⟨y,hy⟩:∃ y:Int,y=((l.getD k 0).toNat:Int):=⟨_,rfl⟩;rw [← hy] at aa ab ad;clear hy ae h1 h2 h3;exact c11_
   ·exact c17_
 ·exact c12_
 ·exact c12_
 ·exact c12_
 ·exact c12_
 ·exact c12_
theorem qqi (h:Has w (.slice A n c) xs)(hk:k≤n):Has w (.slice A k c) (xs.take k):=by
 obtain ⟨A',c',e,h1,h2,h3⟩:=h;simp only [Value.slice.injEq] at e;obtain ⟨rfl,rfl,rfl⟩:=e;refine ⟨A,c,by rw [List.length_take];congr 1;omega,by rw [List.length_take];omega,h2,fun j u hu=>?_⟩;rw [List.getElem?_take] at hu;split at hu
 ·exact h3 j u hu
 ·cases hu
theorem qqj (P:List (List UInt8))(k:Nat):(ssv P).take k=ssv (P.take k):=by simp [ssv,List.map_take]
theorem que{x:List UInt8}(hk:k<P.length)(h:P.getD k []=x):x∈P:=by
 rw [← h];simp only [List.getD,List.getElem?_eq_getElem hk,Option.getD_some];exact List.getElem_mem hk
theorem c20_{p:Prop}(h:p:=by
 clear ab hy;exact i1_
):p:=h
theorem quf (P:List (List UInt8))(x:List UInt8)(v:Value)(w:World)(h:Has w v (ssv P)):
  Calls Tryz.prog 234 #[v,.string (bstr x)] w fun e w'=>∃ i:Int,e=.returned (.int .i64 i)∧-1≤i∧i≤9223372036854775807∧(0≤i↔x∈P)∧w=w':=by
 obtain ⟨A,c,rfl,h⟩:=h.shape (qba P);have hl:=h.len.2;have HH:=z_ h;clear h;go_enter Tryz.func234,Tryz.ntmps234
 go_wp2;go_loop [5,8] (fun u i=>∃ k:Nat,k≤P.length∧i=.int .i64 k∧Hid (x ∉ P.take k)) (fun _ i=>P.length-(intOf i).toNat)
 case atStart=>exact ⟨0,y_,rfl,z_ (by simp)⟩
 case round=>
  obtain ⟨k,hk,rfl,HX⟩:=hrel;by_cases aa:k<P.length
  ·obtain ⟨g,o,rfl,hg,hcell⟩:=HH.out.cellAt aa
   rw [qea P k aa] at hcell;obtain ⟨y,hy⟩:=e_ (P.getD k []);rw [← hy] at hcell;by_cases ab:x=y
   ·subst ab
    have HM:Hid (x∈P):=z_ (que aa hy.symm);clear hy;go_wp2;go_ret;exact ⟨k,rfl,by omega,by omega,⟨fun _=>HM.out,fun _=>by omega⟩,rfl⟩
   ·have ad:((bstr x).toList==(bstr y).toList)=false:=by rw [qfc];simpa using ab
    have ac:Hid (x ∉ P.take (k+1)):=z_ (by rw [qfp P k aa,← hy];simp only [List.mem_append,List.mem_singleton,not_or];exact ⟨HX.out,ab⟩);exact c20_
  ·obtain rfl:k=P.length:=o_
   have HM:Hid (x ∉ P):=z_ (by have:=HX.out;rwa [List.take_length] at this);go_wp2;go_ret;exact ⟨-1,rfl,by omega,by omega,⟨fun h=>by omega,fun h=>absurd h HM.out⟩,rfl⟩
theorem qmq (P:List (List UInt8))(x:List UInt8)(v:Value)(r:Bool)(hr:decide (x∈P)=r)(w:World)(h:Has w v (ssv P)):
  Calls Tryz.prog 216 #[v,.string (bstr x)] w fun e w'=>e=.returned (.bool r)∧w=w':=by
 have HI:=z_ (quf P x v w h);have HR:=z_ hr;obtain ⟨A,c,rfl,_⟩:=h.shape (qba P);clear h hr;go_enter Tryz.func216,Tryz.ntmps216
 go_wp2_with (go_at_call 234;refine HI.out.mono ?_;rintro e w1 ⟨i,rfl,ab,ac,aa,rfl⟩)
 go_ret;exact ⟨qa0 (by first|exact HR.out|(rw [← HR.out,Bool.eq_iff_iff];simp only [decide_eq_true_eq];exact aa)),rfl⟩
theorem qug (P:List (List UInt8))(x:List UInt8)(v:Value)(r:Bool)(hr:decide (x∈P)=r)(w:World)(h:Has w v (ssv P)):
  Calls Tryz.prog 178 #[v,.string (bstr x)] w fun e w'=>e=.returned (.bool r)∧w=w':=by
 obtain ⟨A,c,rfl,h⟩:=h.shape (qba P);have hl:=h.len.2;have HH:=z_ h;have HR:=z_ hr;clear h hr;go_enter Tryz.func178,Tryz.ntmps178
 go_wp2;go_loop [5] (fun i=>∃ k:Nat,k≤P.length∧i=.int .i64 k∧Hid (x ∉ P.take k)) (fun i=>P.length-(intOf i).toNat)
 case atStart=>exact ⟨0,y_,rfl,z_ (by simp)⟩
 case round=>
  obtain ⟨k,hk,rfl,HX⟩:=hrel;by_cases aa:k<P.length
  ·obtain ⟨g,o,rfl,hg,hcell⟩:=HH.out.cellAt aa
   rw [qea P k aa] at hcell;obtain ⟨y,hy⟩:=e_ (P.getD k []);rw [← hy] at hcell;by_cases ab:y=x
   ·subst ab
    have HM:Hid (r=true):=z_ (by rw [← HR.out];simpa using que aa hy.symm);clear hy;go_wp2;go_ret;exact ⟨qa0 HM.out.symm,rfl⟩
   ·have ad:((bstr y).toList==(bstr x).toList)=false:=by rw [qfc];simpa using ab
    have ac:Hid (x ∉ P.take (k+1)):=z_ (by rw [qfp P k aa,← hy];simp only [List.mem_append,List.mem_singleton,not_or];exact ⟨HX.out,fun e=>ab e.symm⟩);exact c20_
  ·obtain rfl:k=P.length:=o_
   have HM:Hid (r=false):=z_ (by rw [← HR.out];simp only [decide_eq_false_iff_not];have:=HX.out;rwa [List.take_length] at this);go_wp2;go_ret;exact ⟨qa0 HM.out.symm,rfl⟩
def qb5 (P:List (List UInt8))(k:Nat):Bool:=(List.range k).all fun i=>qb3 (P.getD i [])&&!decide (P.getD i []∈P.take i)
theorem qed (P:List (List UInt8))(k:Nat):qb5 P (k+1)=(qb5 P k&&(qb3 (P.getD k [])&&!decide (P.getD k []∈P.take k))):=by
 rw [qb5,List.range_succ,List.all_append];simp [qb5]
theorem qfe (P:List (List UInt8))(k n:Nat)(hk:k<n)(h:qb3 (P.getD k [])=false∨P.getD k []∈P.take k):qb5 P n=false:=by
 simp only [qb5,List.all_eq_false];refine ⟨k,by simpa using hk,?_⟩;rcases h with h|h
 ·rw [h];simp
 ·rw [decide_eq_true h];simp
theorem qqk (P:List (List UInt8))(hP:∀ k,k<P.length→(P.getD k []).length≤maxLen)(v:Value)(r:Bool)(hr:qb5 P P.length=r)(w:World)(h:Has w v (ssv P)):
  Calls Tryz.prog 170 #[v] w fun e w'=>e=.returned (.bool r)∧w=w':=by
 obtain ⟨A,c,rfl,h⟩:=h.shape (qba P);have hl:=h.len.2;have ad:P.length≤c:=by obtain ⟨A',c',e,h1,h2,_⟩:=h;simp only [Value.slice.injEq] at e;rw [e.2.2,← qba P];exact h1
 have HH:=z_ h;have HR:=z_ hr;have HP:=z_ hP;clear h hr hP;go_enter Tryz.func170,Tryz.ntmps170
 go_wp2;go_loop [3,4,7] (fun _ _ i=>∃ k:Nat,k≤P.length∧i=.int .i64 k∧Hid (qb5 P k=true)) (fun _ _ i=>P.length-(intOf i).toNat)
 case atStart=>exact ⟨0,y_,rfl,z_ rfl⟩
 case round=>
  obtain ⟨k,hk,rfl,HX⟩:=hrel;by_cases aa:k<P.length
  ·obtain ⟨g,o,rfl,hg,hcell⟩:=HH.out.cellAt aa
   rw [qea P k aa] at hcell;have HT:=z_ (qqi HH.out (k:=k) o_);rw [qqj] at HT;have HS:=z_ (qed P k);have HB:=z_ (qfe P k P.length aa);have ab:=z_ (HP.out k aa);obtain ⟨x,hx⟩:=e_ (P.getD k []);rw [← hx] at hcell HS HB ab;have HC:=z_ (fun r hr=>qmq (P.take k) x (.slice (some ⟨g,o,none⟩) k c) r hr w HT.out);clear hx;cases hn:qb3 x with
   | false=>
    have HQ:Hid (r=false):=z_ (by rw [← HR.out];exact HB.out (.inl hn));have HN:=z_ (fun W=>qil x ab.out false hn W);clear hn;go_wp2_with (go_at_call 187;refine (HN.out _).mono ?_;rintro e w1 ⟨rfl,rfl⟩)
    go_ret;exact ⟨qa0 HQ.out.symm,rfl⟩
   | true=>
    have HN:=z_ (fun W=>qil x ab.out true hn W);by_cases hm:x∈P.take k
    ·have HQ:Hid (r=false):=z_ (by rw [← HR.out];exact HB.out (.inr hm))
     have ac:=z_ (HC.out true (by simpa using hm));clear hn hm;go_wp2_with (first|(go_at_call 187;refine (HN.out _).mono ?_;rintro e w1 ⟨rfl,rfl⟩)|(go_at_call 216;refine ac.out.mono ?_;rintro e w1 ⟨rfl,rfl⟩))
     go_ret;exact ⟨qa0 HQ.out.symm,rfl⟩
    ·have ae:Hid (qb5 P (k+1)=true):=z_ (by rw [HS.out,HX.out,hn];simpa using hm)
     have ac:=z_ (HC.out false (by simpa using hm));clear hn hm;go_wp2_with (first|(go_at_call 187;refine (HN.out _).mono ?_;rintro e w1 ⟨rfl,rfl⟩)|(go_at_call 216;refine ac.out.mono ?_;rintro e w1 ⟨rfl,rfl⟩))
     go_round
     case rel=>exact ⟨k+1,by omega,by go_num,ae⟩
     case measure=>simp [intOf];omega
  ·obtain rfl:k=P.length:=o_
   have HQ:Hid (r=true):=z_ (by rw [← HR.out];exact HX.out);exact c23_
def qbx (P:List (List UInt8)):Bool:=decide (1≤P.length∧P.length≤8)&&qb5 P P.length
theorem c13_{p:Prop}(h:p:=by
 have HQ:Hid (r=false):=z_ (by rw [← hr];simp [qbx];omega);clear hr;go_enter Tryz.func147,Tryz.ntmps147
 exact i2_
):p:=h
theorem qlb (P:List (List UInt8))(hP:∀ k,k<P.length→(P.getD k []).length≤maxLen)(v:Value)(r:Bool)(hr:qbx P=r)(w:World)(h:Has w v (ssv P)):
  Calls Tryz.prog 147 #[v] w fun e w'=>e=.returned (.bool r)∧w=w':=by
 have HD:=z_ (fun r hr=>qqk P hP v r hr w h);obtain ⟨A,c,rfl,h⟩:=h.shape (qba P);have hl:=h.len.2;clear h hP;by_cases ab:P.length<1
 ·exact c13_
 ·by_cases ac:8<P.length
  ·exact c13_
  ·have aa:=z_ (HD.out r (by rw [← hr,qbx];simp;omega))
   have h1:decide ((1:Int)≤(P.length:Int))=true:=by simp;omega
   have h2:decide ((P.length:Int)≤8)=true:=by simp;omega
   clear hr;go_enter Tryz.func147,Tryz.ntmps147
   go_wp2_with (go_at_call 170;refine aa.out.mono ?_;rintro e w1 ⟨rfl,rfl⟩)
   go_ret;exact ⟨rfl,rfl⟩
end sortn

namespace sortp
open Go.Maps (Keyed)
open mem split subs sortn setm sets sortm
def qfh (n:Nat)(p:Int×Int):Bool:=decide (0≤p.1∧p.1<n)&&decide (0≤p.2∧p.2<n)&&decide (p.1≠p.2)
def qe3 (n:Nat)(Q:List (Int×Int))(k:Nat):Bool:=(Q.take k).all (qfh n)
def qd7 (n:Nat)(Q:List (Int×Int)):Bool:=decide (Q.length≤16)&&Q.all (qfh n)
def prs (Q:List (Int×Int)):List (Nat×Nat):=Q.map fun p=>(p.1.toNat,p.2.toNat)
theorem qgt (Q:List (Int×Int)):(prs Q).length=Q.length:=by simp [prs]
theorem qow (Q:List (Int×Int))(k:Nat):(prs Q).getD k (0,0)=((Q.getD k (0,0)).1.toNat,(Q.getD k (0,0)).2.toNat):=by
 by_cases h:k<Q.length
 ·simp [prs,List.getD,List.getElem?_eq_getElem h]
 ·simp [prs,List.getD,List.getElem?_eq_none (Nat.le_of_not_lt h)]
theorem qis (n:Nat)(Q:List (Int×Int))(k:Nat)(h:k<Q.length):qe3 n Q (k+1)=(qe3 n Q k&&qfh n (Q.getD k (0,0))):=by
 rw [qe3,qAl Q k h,List.all_append];simp [qe3]
theorem qqr (n:Nat)(Q:List (Int×Int))(k:Nat)(h:k<Q.length)(hb:qfh n (Q.getD k (0,0))=false):Q.all (qfh n)=false:=by
 simp only [List.all_eq_false];exact ⟨Q[k],List.getElem_mem h,by simpa [List.getD,List.getElem?_eq_getElem h] using hb⟩
def PIn (n:Nat)(Q:List (Int×Int)):Prop:=∀ p∈Q,(0≤p.1∧p.1<n)∧(0≤p.2∧p.2<n)
theorem PIn.get (h:PIn n Q)(hk:k<Q.length):(0≤(Q.getD k (0,0)).1∧(Q.getD k (0,0)).1<n)∧(0≤(Q.getD k (0,0)).2∧(Q.getD k (0,0)).2<n):=by
 have:=h _ (List.getElem_mem hk);simpa [List.getD,List.getElem?_eq_getElem hk] using this
theorem PIn.inR (h:PIn n Q):InR n (prs Q):=by
 intro p hp;obtain ⟨q,hq,rfl⟩:=List.mem_map.1 hp;have:=h q hq;exact ⟨by show q.1.toNat<n;omega,by show q.2.toNat<n;omega⟩
theorem qgu (h:qd7 n Q=true):PIn n Q∧Q.length≤16:=by
 simp only [qd7,qfh,Bool.and_eq_true,decide_eq_true_eq,List.all_eq_true] at h;exact ⟨fun p hp=>⟨(h.2 p hp).1.1,(h.2 p hp).1.2⟩,h.1⟩
def circ (n:Nat)(U:List Nat):Bool:=(List.range n).any fun h=>(List.range h).any fun l=>(U.getD l 0).testBit h&&(U.getD h 0).testBit l
theorem qmy{h l:Nat}(hh:h<n)(hl:l<h)(h1:(U.getD l 0).testBit h=true)(h2:(U.getD h 0).testBit l=true):circ n U=true:=by
 simp only [circ,List.any_eq_true,List.mem_range,Bool.and_eq_true];exact ⟨h,hh,l,hl,h1,h2⟩
theorem qk0 (h:∀ h l,h<n→l<h→¬ ((U.getD l 0).testBit h=true∧(U.getD h 0).testBit l=true)):circ n U=false:=by
 cases hc:circ n U with
 | false=>rfl
 | true=>
  simp only [circ,List.any_eq_true,List.mem_range,Bool.and_eq_true] at hc;obtain ⟨a,ha,b,hb,h1,h2⟩:=hc;exact absurd ⟨h1,h2⟩ (h a b ha hb)
def okS (P:List (List UInt8))(Q:List (Int×Int)):Bool:=qbx P&&qd7 P.length Q&&!circ P.length (clo P.length (prs Q))
theorem qb2 (h:okS P Q=true):1≤P.length∧P.length≤8∧PIn P.length Q∧Q.length≤16∧circ P.length (clo P.length (prs Q))=false:=by
 simp only [okS,qbx,Bool.and_eq_true,decide_eq_true_eq,Bool.not_eq_true'] at h;obtain ⟨⟨⟨h1,_⟩,h2⟩,h3⟩:=h;obtain ⟨h4,h5⟩:=qgu h2;exact ⟨h1.1,h1.2,h4,h5,h3⟩
theorem mlaw:Keyed Tryz.prog 3:=Maps.int_keyed Tryz.underlying3
theorem qxz (w:World):(zeroValue 176).run Tryz.prog w=.ok (.int .u16 0) w:=by kernel_rfl
def lk (x:Int):Lit:=.int .i64 x
def lv (n:Nat):DataW Unit:=.lit (.int .u16 (n:Int))
def Fits (D:DataW Unit)(U:List Nat):Prop:=
 Maps.Tidy D∧Maps.size D=U.length∧(∀ i:Nat,i<U.length→Maps.has D (lk i)=true∧∀ z,D.atKey (lk i) z=lv (U.getD i 0))∧∀ x:Int,¬ (0≤x∧x<U.length)→Maps.has D (lk x)=false
theorem qk1 (x:Int):WideAt.IsKeyLit (lk x):=trivial
theorem qy0{y:Int}(h:x≠y):lk x≠lk y:=fun e=>h (by simpa [lk] using e)
theorem qy1:Fits (.map []) []:=⟨Maps.tidy_empty,rfl,fun i h=>by simp at h,fun x _=>rfl⟩
theorem qup{D:DataW Unit}(h:Fits D U)(v:Nat):Fits (D.put (lk U.length) (lv v)) (U++[v]):=by
 obtain ⟨h1,h2,h3,h4⟩:=h;have ac:Maps.has D (lk U.length)=false:=h4 _ o_;refine ⟨h1.put (qk1 _) _,?_,fun i hi=>?_,fun x hx=>?_⟩
 ·rw [Maps.size_put h1,ac,h2];simp
 ·by_cases ad:i=U.length
  ·subst ad
   refine ⟨Maps.has_put_same h1.isMap (qk1 _) _,fun z=>?_⟩;rw [Maps.atKey_put_same h1.isMap (qk1 _)];simp [List.getD]
  ·have ab:lk (i:Int)≠lk (U.length:Int):=qy0 o_
   have aa:i<U.length:=by simp at hi;omega
   refine ⟨by rw [Maps.has_put_other ab];exact (h3 i aa).1,fun z=>?_⟩;rw [Maps.atKey_put_other ab,(h3 i aa).2 z];simp [List.getD,List.getElem?_append_left aa]
 ·simp at hx
  rw [Maps.has_put_other (qy0 o_)];exact h4 x o_
theorem qy2{D:DataW Unit}(h:Fits D U)(k:Nat)(hk:k<U.length)(v:Nat):Fits (D.put (lk k) (lv v)) (U.set k v):=by
 obtain ⟨h1,h2,h3,h4⟩:=h;refine ⟨h1.put (qk1 _) _,?_,fun i hi=>?_,fun x hx=>?_⟩
 ·rw [Maps.size_put h1,(h3 k hk).1,h2];simp
 ·rw [List.length_set] at hi
  rw [qd6 _ _ hk];by_cases aa:i=k
  ·subst aa
   rw [if_pos rfl];exact ⟨Maps.has_put_same h1.isMap (qk1 _) _,fun z=>Maps.atKey_put_same h1.isMap (qk1 _) _ _⟩
  ·have ab:lk (i:Int)≠lk (k:Int):=qy0 o_
   rw [if_neg aa];exact ⟨by rw [Maps.has_put_other ab];exact (h3 i hi).1,fun z=>by rw [Maps.atKey_put_other ab];exact (h3 i hi).2 z⟩
 ·rw [List.length_set] at hx
  rw [Maps.has_put_other (qy0 o_)];exact h4 x hx
def MapU (w:World)(v:Value)(U:List Nat):Prop:=
 (v=.map none∧U=[])∨∃ b n D,v=.map (some b)∧w.ownsMap Tryz.prog 3 (plainElem (H:=Unit) Tryz.prog 176) b n D∧Fits D U
def atU (U:List Nat)(x:Int):Nat:=if 0≤x then U.getD x.toNat 0 else 0
theorem qgv (U:List Nat)(k:Nat):atU U (k:Int)=U.getD k 0:=by simp [atU]
theorem qAn (U:List Nat)(x:Int)(h:¬ (0≤x∧x<U.length)):atU U x=0:=by
 unfold atU;split
 ·rw [List.getD,List.getElem?_eq_none o_];rfl
 ·rfl
theorem quq{D:DataW Unit}(h:Fits D U)(x:Int):D.atKey (lk x) (lv 0)=lv (atU U x):=by
 obtain ⟨h1,h2,h3,h4⟩:=h;by_cases hx:0≤x∧x<U.length
 ·have e:x=((x.toNat:Nat):Int):=o_
  rw [e,(h3 x.toNat o_).2,qgv]
 ·rw [Maps.atKey_of_not_has (h4 x hx),qAn U x hx]
theorem qy3{D:DataW Unit}(h:Fits D U)(x:Int):Maps.has D (lk x)=decide (0≤x∧x<U.length):=by
 obtain ⟨h1,h2,h3,h4⟩:=h;by_cases hx:0≤x∧x<U.length
 ·have e:x=((x.toNat:Nat):Int):=o_
  rw [e,(h3 x.toNat o_).1];simp;omega
 ·rw [h4 x hx];simp;omega
theorem qgw (h1:-9223372036854775808≤x)(h2:x≤9223372036854775807):keyOf Tryz.prog 3 (.int .i64 x)=some (lk x):=Maps.keyOf_int_mk Tryz.underlying3 (WalkArith.wf_i64 o_)
theorem c27_{p:Prop}(h:p:=by
 simp only [lv,DataW.lit.injEq,Lit.int.injEq,true_and] at this;rw [this]
):p:=h
theorem MapU.look (h:MapU w v U)(h1:-9223372036854775808≤x)(h2:x≤9223372036854775807):
  (Instr.lookup 89 v (.int .i64 x) false).run Tryz.prog w=.ok (.int .u16 ((atU U x:Nat):Int)) w:=by
 rcases h with ⟨rfl,rfl⟩|⟨b,n,D,rfl,hown,hF⟩
 ·rw [Maps.look_nil false mlaw Tryz.underlying89 (qxz w) (qgw h1 h2)]
  simp [atU]
 ·obtain ⟨c,aa,ab,ac⟩:=hown.lookup_int mlaw Tryz.underlying89 Tryz.underlying176 (qxz w) (qgw h1 h2)
  rw [aa];have:=(quq hF x).symm.trans ab;exact c27_
theorem MapU.look_ok {w:World}{v:Value}{U:List Nat}(h:MapU w v U){x:Int}(h1:-9223372036854775808≤x)(h2:x≤9223372036854775807):
  (Instr.lookup 89 v (.int .i64 x) true).run Tryz.prog w=.ok (.tuple #[.int .u16 ((atU U x:Nat):Int),.bool (decide (0≤x∧x<U.length))]) w:=by
 rcases h with ⟨rfl,rfl⟩|⟨b,n,D,rfl,hown,hF⟩
 ·rw [Maps.look_nil true mlaw Tryz.underlying89 (qxz w) (qgw h1 h2)]
  have:decide (0≤x∧x<(([]:List Nat).length:Int))=false:=by first|(simp;done)|(simp;omega)
  rw [this];simp [atU]
 ·obtain ⟨v,ps,aa,hv⟩:=hown.look_ok mlaw Tryz.underlying89 (qxz w) (plainElem_int Tryz.underlying176 (by decide)) (qgw h1 h2)
  obtain ⟨c,rfl,hc,ab⟩:=plainElem_int_inv Tryz.underlying176 hv;rw [aa,qy3 hF];have:=(quq hF x).symm.trans (congrArg Prod.fst hc);exact c27_
theorem MapU.len {w:World}{v:Value}{U:List Nat}(h:MapU w v U)(ty:TypeId):(Builtin.len_ #[89] ty #[v]).run Tryz.prog w=.ok (.int .i64 (U.length:Nat)) w:=by
 rcases h with ⟨rfl,rfl⟩|⟨b,n,D,rfl,hown,hF⟩
 ·rw [Maps.len_nil Tryz.underlying89];rfl
 ·rw [hown.len Tryz.underlying89,hF.2.1]
theorem qk2{P:Program}{k:TypeId}{R:Value→Option (DataW Unit×List MemPlace)}{b:Nat}{D:DataW Unit}(h:w.ownsMap P k R b n D)(hb:Below w.heap.size w w'):w'.ownsMap P k R b n D:=
 h.kept (row:=none) ⟨hb.os,hb.tape,hb.output,hb.size,fun k hk _=>hb.block k hk⟩ (by simp)
theorem MapU.below (h:MapU w v U)(hb:Below w.heap.size w w'):MapU w' v U:=by
 rcases h with ⟨rfl,rfl⟩|⟨b,n,D,rfl,hown,hF⟩
 ·exact .inl ⟨rfl,rfl⟩
 ·exact .inr ⟨b,n,D,rfl,qk2 hown hb,hF⟩
theorem j9_{p:Prop}(h:p:=by
 go_enter Tryz.func174,Tryz.ntmps174
 go_wp2;go_ret;exact ⟨qa0 (by first|exact HQ.out.symm|(rw [HQ.out];simp;omega)),rfl⟩
):p:=h
theorem c26_{p:Prop}(h:p:=by
 have HQ:Hid (r=false):=z_ (by rw [← HR.out];simp;omega);exact j9_
):p:=h
theorem qbm (x:Int)(n:Nat)(r:Bool)(hr:decide (0≤x∧x<n)=r)(w:World):
  Calls Tryz.prog 174 #[.int .i64 x,.int .i64 n] w fun e w'=>e=.returned (.bool r)∧w=w':=by
 have HR:=z_ hr;clear hr;by_cases h1:0≤x
 ·by_cases h2:x<n
  ·have HQ:Hid (r=true):=z_ (by rw [← HR.out];simp;omega)
   exact j9_
  ·exact c26_
 ·exact c26_
theorem j8_{p:Prop}(h:p:=by
 (repeat (first|exact aa|refine Below.setCell ?_ Ap_ _|refine Below.alloc ?_ Ap_ _))
):p:=h
theorem c24_{p:Prop}(h:p:=by
 go_wp2_with (go_at_call 174;refine (qbm _ n _ (by first|exact HI.out|exact ac.out) _).mono ?_;rintro e w1 ⟨rfl,rfl⟩)
 go_ret;refine ⟨qa0 HQ.out.symm,?_⟩;exact j8_
):p:=h
theorem c25_{p:Prop}(h:p:=by
 exact j8_
):p:=h
theorem qox (n:Nat)(_hn:n≤1000)(Q:List (Int×Int))(ad:In64 Q)(v:Value)(r:Bool)(hr:qd7 n Q=r)(w:World)(h:HasP w v Q):
  Calls Tryz.prog 148 #[v,.int .i64 n] w fun e w'=>e=.returned (.bool r)∧Below w.heap.size w w':=by
 obtain ⟨m,hm⟩:=e_ (Q.length);obtain ⟨A,c,rfl,h⟩:=h.shape hm.symm;have hl:=h.len.2;have HH:=z_ h;have HR:=z_ hr;have HM:=z_ hm;have ae:=z_ ad;clear h hr hm ad;by_cases af:16<m
 ·have HQ:Hid (r=false):=z_ (by rw [← HR.out];have:=HM.out;simp [qd7];omega)
  go_enter Tryz.func148,Tryz.ntmps148
  go_wp2;go_ret;exact ⟨qa0 HQ.out.symm,Below.refl _ _⟩
 ·have aj:decide ((16:Int)<(m:Int))=false:=by simp;omega
  go_enter Tryz.func148,Tryz.ntmps148
  go_wp2;go_loopw [6,12] (fun _ i wr=>∃ k:Nat,k≤m∧i=.int .i64 k∧Hid (qe3 n Q k=true)∧Below w.heap.size w wr) (fun _ i _=>m-(intOf i).toNat)
  case atStart=>exact ⟨0,y_,rfl,z_ rfl,Below.refl _ _⟩
  case round=>
   obtain ⟨k,hk,rfl,HX,aa⟩:=hrel;by_cases ag:k<m
   ·obtain ⟨g,o,rfl,hg,hcell,ab⟩:=HH.out.cellAt ag
    rw [← aa.cell (p:=⟨g,o+k*2,none⟩) hg] at hcell;rw [← aa.cell (p:=⟨g,o+k*2+1,none⟩) hg] at ab;have ah:=ae.out.get k;have HB:Hid (qfh n (Q.getD k (0,0))=false→r=false):=z_ (by intro h;rw [← HR.out,qd7,qqr n Q k Af_ h];simp);have HG:Hid (qfh n (Q.getD k (0,0))=true→qe3 n Q (k+1)=true):=z_ (by intro h;rw [qis n Q k Af_,HX.out,h];rfl);have HS:Hid (qfh n (Q.getD k (0,0))=(decide (0≤(Q.getD k (0,0)).1∧(Q.getD k (0,0)).1<n)&&decide (0≤(Q.getD k (0,0)).2∧(Q.getD k (0,0)).2<n)&&decide ((Q.getD k (0,0)).1≠(Q.getD k (0,0)).2))):=z_ rfl;obtain ⟨s,hs⟩:=e_ (qfh n (Q.getD k (0,0)));rw [← hs] at HB HG HS;obtain ⟨x,hx⟩:=e_ ((Q.getD k (0,0)).1);obtain ⟨y,hy⟩:=e_ ((Q.getD k (0,0)).2);rw [← hx,← hy] at ah HS;rw [← hx] at hcell;rw [← hy] at ab;clear hs hx hy;cases h1:decide (0≤x∧x<(n:Int)) with
    | false=>
     have HI:=z_ (fun W=>qbm x n false h1 W);have HQ:Hid (r=false):=z_ (HB.out (by rw [HS.out,h1];rfl));clear h1;go_wp2_with (go_at_call 174;refine (HI.out _).mono ?_;rintro e w1 ⟨rfl,rfl⟩)
     go_ret;refine ⟨qa0 HQ.out.symm,?_⟩;exact c25_
    | true=>
     have HI:=z_ h1;cases h2:decide (0≤y∧y<(n:Int)) with
     | false=>
      have ac:=z_ h2;have HQ:Hid (r=false):=z_ (HB.out (by rw [HS.out,h1,h2];rfl));clear h1 h2;exact c24_
     | true=>
      have ac:=z_ h2;by_cases h3:x=y
      ·have HQ:Hid (r=false):=z_ (HB.out (by rw [HS.out,h1,h2,h3];simp))
       have he:(x==y)=true:=by simpa using h3
       clear h1 h2 h3;exact c24_
      ·have ai:Hid (qe3 n Q (k+1)=true):=z_ (HG.out (by rw [HS.out,h1,h2];simpa using h3))
       have he:(x==y)=false:=by simpa using h3
       clear h1 h2 h3;go_wp2_with (go_at_call 174;refine (qbm _ n _ (by first|exact HI.out|exact ac.out) _).mono ?_;rintro e w1 ⟨rfl,rfl⟩)
       go_roundw
       case rel=>
        refine ⟨k+1,by omega,by go_num,ai,?_⟩;exact c25_
       case measure=>simp [intOf];omega
   ·obtain rfl:k=m:=o_
    have HQ:Hid (r=true):=z_ (by
     rw [← HR.out,qd7];have h:=HX.out;rw [qe3,List.take_of_length_le Af_] at h
     rw [h,← HM.out];simp;omega)
    go_wp2;go_ret;exact ⟨qa0 HQ.out.symm,aa⟩
theorem qjp (w:World){ac:Array Oper}{rest:List Oper}{o:Oper}{a:Act}{Q:Exit→Act→World→Prop}(hg:o.guard=none)(m x:Operand)(ad:o.op=Op.lookup 89 m x false)(hm:a.eval m=v)(hM:MapU w v U)(aa:Int)(hx:a.eval x=.int .i64 aa)(h1:-9223372036854775808≤aa)(h2:aa≤9223372036854775807)(hK:wpList Tryz.prog ac Q rest (a.put o.dst (.int .u16 ((atU U aa:Nat):Int))) w):wpList Tryz.prog ac Q (o::rest) a w:=by
 refine wpList_plain hg fun K' ae=>?_
 have ab:=hM.look h1 h2;unfold Oper.wp;simp [execOp,ad,hm,hx,ab,Result.andThen];exact ae _ _ hK
theorem qA6 (n:Nat)(h:n<65536):plainElem (H:=Unit) Tryz.prog 176 (.int .u16 (n:Int))=some (lv n,[]):=plainElem_int Tryz.underlying176 (WalkArith.wf_u16 o_)
theorem qk3 (k:Nat):qch (k+1)=qch k++[2 ^ k]:=by simp [qch,List.range_succ]
theorem qf7 (n:Nat)(hn:n≤16)(Q:List (Int×Int))(hQ:Q.length≤32)(al:PIn n Q)(v:Value)(w:World)(h:HasP w v Q):
  Calls Tryz.prog 149 #[.int .i64 n,v] w fun e w'=>∃ b,e=.returned (.map (some b))∧MapU w' (.map (some b)) (clo n (prs Q))∧Below w.heap.size w w':=by
 obtain ⟨m,hm⟩:=e_ (Q.length);obtain ⟨A,c,rfl,h⟩:=h.shape hm.symm;have hl:=h.len.2;rw [← hm] at hQ;have HH:=z_ h;have HM:=z_ hm;have ao:=z_ al;have ap:=z_ (fun k (hk:k<16) W=>qmj 0 k o_ hk W);clear h hm al;have hmm:=@run_makeMap Tryz.prog;go_enter Tryz.func149,Tryz.ntmps149
 go_wp2;clear hmm;go_loopw [6,11] (fun _ i wr=>∃ k:Nat,k≤n∧i=.int .i64 k∧(∃ D,wr.ownsMap Tryz.prog 3 (plainElem (H:=Unit) Tryz.prog 176) w.heap.size k D∧Fits D (qch k))∧Below w.heap.size w wr) (fun _ i _=>n-(intOf i).toNat)
 case atStart=>exact ⟨0,y_,rfl,⟨_,World.ownsMap_made _ _ _ _,qy1⟩,b_.alloc n_ _⟩
 case round=>
  obtain ⟨k,hk,rfl,⟨D,hown,hF⟩,ae⟩:=hrel;by_cases aw:k<n
  ·have hp:2 ^ k<65536:=qqb o_
   have ah:=z_ hown;clear hown
   go_wp2_with (first
    | (go_at_call 186;refine (ap.out k o_ _).mono ?_;rintro e w1 ⟨rfl,rfl⟩)
    | (at_mapUpdate;refine wpList_mapUpdate_own _ rfl _ _ _ 89 rfl 3 176 mlaw Tryz.underlying89 _ w.heap.size k _ rfl ah.out Aa_ _ _ _ rfl rfl (qgw o_ o_) (lv (2 ^ k)) [] ?_ ?_))
   ·show plainElem _ _ (Value.int .u16 ((2:Int) ^ k))=_
    rw [show ((2:Int) ^ k)=((2 ^ k:Nat):Int) by simp];exact qA6 _ hp
   intro w2 ac ab;have HB:=ae.grown ab ae.size (by intro j hj;cases hj;exact Nat.le_refl _)
   have ax:Hid (Fits (D.put (lk k) (lv (2 ^ k))) (qch (k+1))):=z_ (by
    have:=qup hF (2 ^ k);rw [qcw] at this
    rw [qk3];exact this)
   clear ab ae;go_wp2;go_roundw
   case rel=>exact ⟨k+1,by omega,by go_num,⟨_,ac,ax.out⟩,HB⟩
   case measure=>simp [intOf];omega
  ·obtain rfl:k=n:=o_
   clear aw;go_wp2;go_loopw [8,20,22,23,24,25,26,27,28,29,30,31,32,33,34,35,36,37] (fun _ i _ _ _ _ _ _ _ _ _ _ _ _ _ _ _ _ wr=>∃ t:Nat,t≤k∧i=.int .i64 t∧(∃ D q,q≤16+t*32∧wr.ownsMap Tryz.prog 3 (plainElem (H:=Unit) Tryz.prog 176) w.heap.size q D∧Fits D (qe6 (prs Q) (qch k) t))∧Below w.heap.size w wr) (fun _ i _ _ _ _ _ _ _ _ _ _ _ _ _ _ _ _ _=>k-(intOf i).toNat)
   case atStart=>exact ⟨0,y_,rfl,⟨D,k,by omega,hown,hF⟩,ae⟩
   case round=>
    obtain ⟨t,ht,rfl,⟨D2,q,hq,ac,aq⟩,af⟩:=hrel;clear hown hF ae;by_cases aw:t<k
    ·go_wp2
     go_loopw [8,24,25,26,27,28,29,30,31,32,33,34,35,36,37] (fun _ i _ _ _ _ _ _ _ _ _ _ _ _ _ wx=>∃ j:Nat,j≤m∧i=.int .i64 j∧(∃ D q,q≤16+t*32+j∧wx.ownsMap Tryz.prog 3 (plainElem (H:=Unit) Tryz.prog 176) w.heap.size q D∧Fits D (midU k (prs Q) t j))∧Below w.heap.size w wx) (fun _ i _ _ _ _ _ _ _ _ _ _ _ _ _ _=>m-(intOf i).toNat)
     case atStart=>exact ⟨0,y_,rfl,⟨D2,q,by omega,ac,by rw [qmt];exact aq⟩,af⟩
     case round=>
      obtain ⟨j,hj,rfl,⟨D3,q3,aD,ad,ai⟩,aa⟩:=hrel;clear ac aq af;by_cases au:j<m
      ·obtain ⟨g,o,rfl,hg,hcell,ag⟩:=HH.out.cellAt au
       rw [← aa.cell (p:=⟨g,o+j*2,none⟩) hg] at hcell;rw [← aa.cell (p:=⟨g,o+j*2+1,none⟩) hg] at ag;have al:=ao.out.get (k:=j) Af_;have hs:=qmu k (prs Q) t j (by rw [qgt];have:=HM.out;omega);rw [qow] at hs;have am:=qlf ao.out.inR t j (Q.getD j (0,0)).1.toNat;have an:=qlf ao.out.inR t j (Q.getD j (0,0)).2.toNat;have aE:2 ^ k≤65536:=Nat.pow_le_pow_right (n:=2) (by decide) (show k≤16 by omega);have aj:=z_ (qqo k (prs Q) t j);obtain ⟨x,hx⟩:=e_ ((Q.getD j (0,0)).1);obtain ⟨y,hy⟩:=e_ ((Q.getD j (0,0)).2);rw [← hx,← hy] at al hs;rw [← hx] at hcell am;rw [← hy] at ag an;obtain ⟨x',rfl⟩:∃ x':Nat,x=(x':Int):=⟨x.toNat,by omega⟩;obtain ⟨y',rfl⟩:∃ y':Nat,y=(y':Int):=⟨y.toNat,by omega⟩;simp only [Int.toNat_natCast] at hs am an;obtain ⟨U,hU⟩:=e_ (midU k (prs Q) t j);rw [← hU] at hs am an ai aj;have HS:Hid (midU k (prs Q) t (j+1)=U.set x' (U.getD x' 0 ||| U.getD y' 0)):=z_ (by rw [hs,qgq]);have ay:=qqa (U.getD x' 0) (U.getD y' 0) o_ o_;have hM:MapU wr (.map (some w.heap.size)) U:=.inr ⟨_,_,_,rfl,ad,ai⟩;have az:=z_ hM;have ah:=z_ ad;have aA:=qgv U x';have aB:=qgv U y';obtain ⟨a,ha⟩:=e_ (U.getD x' 0);obtain ⟨b,hb⟩:=e_ (U.getD y' 0);rw [← ha,← hb] at ay HS;rw [← ha] at am aA;rw [← hb] at an aB;have aC:a ||| b<65536:=Nat.or_lt_two_pow (n:=16) o_ o_
       clear hx hy hs hU ha hb hM ad
       go_wp2_with (first
        | (at_lookup;refine qjp _ rfl _ _ rfl rfl (az.out.below (by (repeat (first|exact Below.refl _ _|refine Below.setCell ?_ (by simp) _|refine Below.alloc ?_ (by simp) _)))) _ rfl o_ o_ ?_)
        | (at_mapUpdate;refine wpList_mapUpdate_own _ rfl _ _ _ 89 rfl 3 176 mlaw Tryz.underlying89 _ w.heap.size q3 _ rfl (qk2 ah.out (by (repeat (first|exact Below.refl _ _|refine Below.setCell ?_ (by simp) _|refine Below.alloc ?_ (by simp) _)))) Aa_ _ _ _ rfl rfl (qgw o_ o_) (lv (a ||| b)) [] ?_ ?_))
       ·show plainElem _ _ (Value.int .u16 ((a ||| b:Nat):Int))=_
        exact qA6 _ aC
       intro w2 ak ab;have HB:Below w.heap.size w w2:=Below.grown (w:=_) (by repeat (first|exact aa|refine Below.setCell ?_ Ap_ _|refine Below.alloc ?_ Ap_ _)) ab An_ (by intro j hj;cases hj;exact Nat.le_refl _);have av:Hid (Fits (D3.put (lk x') (lv (a ||| b))) (midU k (prs Q) t (j+1))):=z_ (by rw [HS.out];exact qy2 ai x' (by have:=aj.out;omega) _);clear ab ai;go_wp2;go_roundw
       case rel=>exact ⟨j+1,by omega,by go_num,⟨_,_,by omega,ak,av.out⟩,HB⟩
       case measure=>simp [intOf];omega
      ·obtain rfl:j=m:=o_
       have av:Hid (Fits D3 (qe6 (prs Q) (qch k) (t+1))):=z_ (by rw [← qmv,qgt,← HM.out];exact ai);clear ai;go_wp2;go_roundw
       case rel=>exact ⟨t+1,by omega,by go_num,⟨_,q3,by omega,ad,av.out⟩,aa⟩
       case measure=>simp [intOf];omega
    ·obtain rfl:t=k:=o_
     go_wp2;go_ret;exact ⟨_,rfl,.inr ⟨_,_,_,rfl,ac,aq⟩,af⟩
end sortp

namespace sigm
open sortm sortn sortp
structure OpM where
 name:List UInt8
 decls:List (List Int×Int)
 ass:Bool
 com:Bool
 unt:Int
instance:Inhabited OpM:=⟨⟨[],[],false,false,0⟩⟩
def inN (n:Nat)(x:Int):Bool:=decide (0≤x∧x<n)
def okD (n:Nat)(d:List Int×Int):Bool:=decide (d.1.length≤3)&&inN n d.2&&d.1.all (inN n)
def kD (κ:Int→Nat)(d:List Int×Int):List Nat×Nat:=(d.1.map κ,κ d.2)
def hd0 (D:List (List Int×Int)):List Int×Int:=D.getD 0 ([],0)
def qaf (n:Nat)(κ:Int→Nat)(D:List (List Int×Int)):Bool:=
 decide (1≤D.length∧D.length≤4)&&D.all fun d=>okD n d&&decide (kD κ d=kD κ (hd0 D))
def qc7 (O:List OpM)(o:OpM):OpM:=O.getD (o.unt.toNat-1) default
def a0 (o:OpM):Int:=(hd0 o.decls).1.getD 0 0
def a1 (o:OpM):Int:=(hd0 o.decls).1.getD 1 0
def rs (o:OpM):Int:=(hd0 o.decls).2
def ar (o:OpM):Nat:=(hd0 o.decls).1.length
def qdf (κ:Int→Nat)(o:OpM):Bool:=
 (!o.ass&&!o.com&&decide (o.unt=0)) || (decide (ar o=2)&&decide (κ (a0 o)=κ (a1 o))&&((!o.ass&&decide (o.unt=0)) || decide (κ (a0 o)=κ (rs o))))
def qe4 (κ:Int→Nat)(O:List OpM)(o:OpM):Bool:=
 decide (o.unt=0) || (decide (0≤o.unt∧o.unt≤O.length)&&decide (ar (qc7 O o)=0)&&decide (κ (rs (qc7 O o))=κ (rs o)))
def axOk (κ:Int→Nat)(O:List OpM)(o:OpM):Bool:=qdf κ o&&qe4 κ O o
def nms (O:List OpM):List (List UInt8):=O.map (·.name)
theorem qlg (O:List OpM):(nms O).length=O.length:=by simp [nms]
theorem qit (O:List OpM)(k:Nat)(h:k<O.length):(nms O).getD k []=(O.getD k default).name:=by
 simp [nms,List.getD,List.getElem?_eq_getElem h]
def qf6 (n:Nat)(κ:Int→Nat)(O:List OpM):Bool:=
 decide (O.length≤14)&&qb5 (nms O) O.length&&(O.all fun o=>qaf n κ o.decls)&&O.all (axOk κ O)
def qlh (n:Nat)(κ κ':Int→Nat):Prop:=∀ x y,inN n x=true→inN n y=true→(κ x=κ y↔κ' x=κ' y)
theorem qmz {n:Nat}{κ κ':Int→Nat}(h:qlh n κ κ'):∀ l m:List Int,l.all (inN n)=true→m.all (inN n)=true→(l.map κ=m.map κ↔l.map κ'=m.map κ')
 | [],[],_,_=>by simp
 | [],_::_,_,_=>by simp
 | _::_,[],_,_=>by simp
 | a::l,b::m,h1,h2=>by
  simp only [List.all_cons,Bool.and_eq_true] at h1 h2;simp only [List.map_cons,List.cons.injEq];rw [h a b h1.1 h2.1,qmz h l m h1.2 h2.2]
theorem qy4 (h:qlh n κ κ'){d e:List Int×Int}(hd:okD n d=true)(he:okD n e=true):kD κ d=kD κ e↔kD κ' d=kD κ' e:=by
 simp only [okD,Bool.and_eq_true] at hd he;simp only [kD,Prod.mk.injEq];rw [qmz h _ _ hd.2 he.2,h _ _ hd.1.2 he.1.2]
theorem qAo (h:1≤D.length):hd0 D∈D:=by
 match D,h with
 | d::D,_=>simp [hd0]
theorem qap (h:qaf n κ D=true):
  1≤D.length∧D.length≤4∧(∀ d∈D,okD n d=true∧kD κ d=kD κ (hd0 D))∧okD n (hd0 D)=true:=by
 simp only [qaf,Bool.and_eq_true,decide_eq_true_eq,List.all_eq_true] at h;exact ⟨h.1.1,h.1.2,h.2,(h.2 _ (qAo h.1.1)).1⟩
theorem qli (h:qlh n κ κ')(D:List (List Int×Int)):qaf n κ D=qaf n κ' D:=by
 have aa:∀ κ κ':Int→Nat,qlh n κ κ'→qaf n κ D=true→qaf n κ' D=true:=by
  intro κ κ' h hd;obtain ⟨h1,h2,h3,h4⟩:=qap hd;simp only [qaf,Bool.and_eq_true,decide_eq_true_eq,List.all_eq_true];exact ⟨⟨h1,h2⟩,fun d hd=>⟨(h3 d hd).1,(qy4 h (h3 d hd).1 h4).1 (h3 d hd).2⟩⟩
 rw [Bool.eq_iff_iff];exact ⟨aa _ _ h,aa _ _ (fun x y hx hy=>(h x y hx hy).symm)⟩
theorem qaj{d:List Int×Int}(h:okD n d=true):d.1.length≤3∧inN n d.2=true∧∀ k,k<d.1.length→inN n (d.1.getD k 0)=true:=by
 simp only [okD,Bool.and_eq_true,decide_eq_true_eq,List.all_eq_true] at h;refine ⟨h.1.1,h.1.2,fun k hk=>?_⟩;have:=h.2 _ (List.getElem_mem hk);simpa [List.getD,List.getElem?_eq_getElem hk] using this
def qqs (n:Nat)(O:List OpM):Prop:=∀ o∈O,okD n (hd0 o.decls)=true
theorem qn0 (h:qlh n κ κ'){o:OpM}(ho:okD n (hd0 o.decls)=true):qdf κ o=qdf κ' o:=by
 obtain ⟨h1,h2,h3⟩:=qaj ho;unfold qdf;by_cases hl:ar o=2
 ·have e0:inN n (a0 o)=true:=h3 0 (by unfold ar at hl;omega)
  have e1:inN n (a1 o)=true:=h3 1 (by unfold ar at hl;omega);have k1:decide (κ (a0 o)=κ (a1 o))=decide (κ' (a0 o)=κ' (a1 o)):=decide_eq_decide.2 (h _ _ e0 e1);have k2:decide (κ (a0 o)=κ (rs o))=decide (κ' (a0 o)=κ' (rs o)):=decide_eq_decide.2 (h _ _ e0 h2);rw [k1,k2]
 ·simp [hl]
theorem qsg{O:List OpM}{o:OpM}(h:¬ o.unt=0)(h1:0≤o.unt)(h2:o.unt≤O.length):qc7 O o∈O:=by
 have hk:o.unt.toNat-1<O.length:=o_;unfold qc7;rw [List.getD_eq_getElem?_getD,List.getElem?_eq_getElem hk];exact List.getElem_mem hk
theorem qn1 (h:qlh n κ κ'){O:List OpM}(hO:qqs n O){o:OpM}(ho:o∈O):qe4 κ O o=qe4 κ' O o:=by
 unfold qe4;by_cases h0:o.unt=0
 ·simp [h0]
 ·by_cases h1:0≤o.unt∧o.unt≤O.length
  ·have hu:=hO _ (qsg h0 h1.1 h1.2)
   have k:decide (κ (rs (qc7 O o))=κ (rs o))=decide (κ' (rs (qc7 O o))=κ' (rs o)):=decide_eq_decide.2 (h _ _ (qaj hu).2.1 (qaj (hO _ ho)).2.1);rw [k]
  ·simp [h1]
theorem qk4 (h:qlh n κ κ'){O:List OpM}(hO:qqs n O){o:OpM}(ho:o∈O):axOk κ O o=axOk κ' O o:=by
 rw [axOk,axOk,qn0 h (hO _ ho),qn1 h hO ho]
theorem qn2{O:List OpM}(h:(O.all fun o=>qaf n κ o.decls)=true):qqs n O:=by
 intro o ho;rw [List.all_eq_true] at h;exact (qap (h o ho)).2.2.2
theorem qoy (h:qlh n κ κ')(O:List OpM):qf6 n κ O=qf6 n κ' O:=by
 unfold qf6;have e:(O.all fun o=>qaf n κ o.decls)=(O.all fun o=>qaf n κ' o.decls):=by simp only [qli h]
 cases hd:(O.all fun o=>qaf n κ o.decls) with
 | false=>rw [← e,hd];simp
 | true=>
  have hO:=qn2 hd;have e2:O.all (axOk κ O)=O.all (axOk κ' O):=by
   rw [Bool.eq_iff_iff];simp only [List.all_eq_true];exact ⟨fun h' o ho=>(qk4 h hO ho) ▸ h' o ho,fun h' o ho=>(qk4 h hO ho).symm ▸ h' o ho⟩
  rw [← e,hd,e2]
def κC (n:Nat)(Q:List (Int×Int))(x:Int):Nat:=(clo n (both (prs Q))).getD x.toNat 0
def κK (n:Nat)(Q:List (Int×Int))(x:Int):Nat:=(kin n (prs Q)).getD x.toNat 0
theorem qqt (hQ:PIn n Q):qlh n (κC n Q) (κK n Q):=by
 intro x y hx hy;simp only [inN,decide_eq_true_eq] at hx hy;obtain ⟨i,rfl⟩:∃ i:Nat,x=(i:Int):=⟨x.toNat,by omega⟩;obtain ⟨j,rfl⟩:∃ j:Nat,y=(j:Int):=⟨y.toNat,by omega⟩;have hi:i<n:=o_;have hj:j<n:=o_;have hP:=hQ.inR;have hB:=qgs hP;simp only [κC,κK,Int.toNat_natCast];obtain ⟨p1,p2,p3⟩:=qqq hP hi;obtain ⟨q1,q2,q3⟩:=qqq hP hj;constructor
 ·intro h
  have k1:=(qgr hB hi _).2 ⟨p1,p2⟩;have k2:=(qgr hB hj _).2 ⟨q1,q2⟩;rw [h] at k1;rw [← h] at k2;have:=q3 _ ((qgr hB hj _).1 k1).2;have:=p3 _ ((qgr hB hi _).1 k2).2;omega
 ·intro h
  rw [← h] at q2;have aa:rea (both (prs Q)) n i j=true:=qfu hB hj p2 (qqp hP hj p1 q2);have ab:rea (both (prs Q)) n j i=true:=qqp hP hi hj aa;refine Nat.eq_of_testBit_eq fun b=>?_
  rw [Bool.eq_iff_iff,qgr hB hi,qgr hB hj];exact ⟨fun h=>⟨h.1,qfu hB h.1 ab h.2⟩,fun h=>⟨h.1,qfu hB h.1 aa h.2⟩⟩
def qah (P:List (List UInt8))(Q:List (Int×Int))(O:List OpM):Bool:=okS P Q&&qf6 P.length (κK P.length Q) O
theorem qAp (P:List (List UInt8))(Q:List (Int×Int))(O:List OpM):qah P Q O=(okS P Q&&qf6 P.length (κC P.length Q) O):=by
 unfold qah;cases h:okS P Q with
 | false=>rfl
 | true=>rw [qoy (qqt (qb2 h).2.2.1)]
theorem qa8{O:List OpM}(h:qah P Q O=true):
  okS P Q=true∧O.length≤14∧qb5 (nms O) O.length=true∧(∀ o∈O,qaf P.length (κK P.length Q) o.decls=true)∧∀ o∈O,axOk (κK P.length Q) O o=true:=by
 simp only [qah,qf6,Bool.and_eq_true,List.all_eq_true,decide_eq_true_eq] at h;exact ⟨h.1,h.2.1.1.1,h.2.1.1.2,h.2.1.2,h.2.2⟩
theorem qy5{N:List (List UInt8)}{x:List UInt8}(hk:k<N.length)(h:x ∉ N.take k)(h2:¬ N.getD k []=x):x ∉ N.take (k+1):=by
 rw [List.take_succ_eq_append_getElem hk];have h3:N.getD k []=N[k]:=by simp [List.getD,List.getElem?_eq_getElem hk]
 rw [h3] at h2;simp only [List.mem_append,List.mem_singleton,not_or];exact ⟨h,fun e=>h2 e.symm⟩
end sigm

namespace sorti
open mem split subs sortn setm sets sortm sortp
def Lim (U:List Nat):Prop:=U.length≤8∧∀ i,U.getD i 0<2 ^ U.length
theorem Lim.lt (h:Lim U)(i:Nat):U.getD i 0<65536:=w_ (h.2 i) (Nat.le_trans (Nat.pow_le_pow_right (n:=2) (by decide) h.1) (by decide))
theorem pow8 (h:n≤8):2 ^ n≤256:=Nat.le_trans (Nat.pow_le_pow_right (n:=2) (by decide) h) (by decide)
theorem Lim.nil:Lim []:=⟨by simp,fun i=>by simp⟩
theorem c28_{p:Prop}(h:p:=by
 go_round
 case rel=>exact ⟨l+1,by omega,by go_num,ab⟩
 case measure=>simp [intOf];omega
):p:=h
theorem qjq (U:List Nat)(hU:Lim U)(v:Value)(r:Bool)(hr:circ U.length U=r)(w:World)(hM:MapU w v U):
  Calls Tryz.prog 150 #[v] w fun e w'=>e=.returned (.bool r)∧w=w':=by
 have hlen:=hM.len;have HM:=z_ hM;have HR:=z_ hr;have HU:=z_ hU;obtain ⟨n,hn⟩:=e_ (U.length);rw [← hn] at hlen;have al:n≤8:=by rw [hn];exact hU.1
 have HN:=z_ hn;clear hM hr hU hn;go_enter Tryz.func150,Tryz.ntmps150
 go_wp2;go_loop [7] (fun i=>∃ h:Nat,h≤n∧i=.int .i64 h∧Hid (∀ a b,a<h→b<a→¬ ((U.getD b 0).testBit a=true∧(U.getD a 0).testBit b=true))) (fun i=>n-(intOf i).toNat)
 case atStart=>exact ⟨0,y_,rfl,z_ (fun a b h=>by omega)⟩
 case round=>
  obtain ⟨h,hh,rfl,HX⟩:=hrel;by_cases am:h<n
  ·go_wp2
   go_loop [11] (fun i=>∃ l:Nat,l≤h∧i=.int .i64 l∧Hid (∀ b,b<l→¬ ((U.getD b 0).testBit h=true∧(U.getD h 0).testBit b=true))) (fun i=>h-(intOf i).toNat)
   case atStart=>exact ⟨0,y_,rfl,z_ (fun b h=>by omega)⟩
   case round=>
    obtain ⟨l,hl,rfl,HY⟩:=hrel;by_cases aa:l<h
    ·have k1:=HM.out.look (x:=(l:Int)) o_ o_
     have k2:=HM.out.look (x:=(h:Int)) o_ o_;rw [qgv] at k1 k2;have ad:=z_ (fun b hb W=>qck (U.getD l 0) h (HU.out.lt l) o_ b hb W);have ag:=z_ (fun b hb W=>qck (U.getD h 0) l (HU.out.lt h) o_ b hb W);have HT:Hid ((U.getD l 0).testBit h=true→(U.getD h 0).testBit l=true→r=true):=z_ (fun e1 e2=>by rw [← HR.out];exact qmy Ac_ aa e1 e2)
     have HF:Hid (¬ ((U.getD l 0).testBit h=true∧(U.getD h 0).testBit l=true)→∀ b,b<l+1→¬ ((U.getD b 0).testBit h=true∧(U.getD h 0).testBit b=true)):=z_ (fun e b hb=>by
      by_cases ah:b=l
      ·subst ah;exact e
      ·exact HY.out b o_)
     obtain ⟨s,hs⟩:=e_ (U.getD l 0);obtain ⟨t,ht⟩:=e_ (U.getD h 0);rw [← hs] at k1 ad;rw [← ht] at k2 ag;rw [← hs,← ht] at HT;have ae:Hid (s<65536):=z_ (by rw [hs];exact HU.out.lt l);have af:Hid (t<65536):=z_ (by rw [ht];exact HU.out.lt h);have ai:=z_ hs;have aj:=z_ ht;clear hs ht;cases h1:s.testBit h with
     | false=>
      have HD:=z_ (ad.out false h1);have ab:=z_ (HF.out (by rw [← ai.out,h1];simp));clear h1;go_wp2_with (go_at_call 153;refine (HD.out _).mono ?_;rintro e w1 ⟨rfl,rfl⟩)
      exact c28_
     | true=>
      have HD:=z_ h1;cases h2:t.testBit l with
      | false=>
       have ac:=z_ h2;have ab:=z_ (HF.out (by rw [← aj.out,h2];simp));clear h1 h2;go_wp2_with (go_at_call 153;refine (qck _ _ (by first|exact ae.out|exact af.out) o_ _ (by first|exact HD.out|exact ac.out) _).mono ?_;rintro e w1 ⟨rfl,rfl⟩)
       exact c28_
      | true=>
       have ac:=z_ h2;have HQ:=z_ (HT.out h1 h2);clear h1 h2;go_wp2_with (go_at_call 153;refine (qck _ _ (by first|exact ae.out|exact af.out) o_ _ (by first|exact HD.out|exact ac.out) _).mono ?_;rintro e w1 ⟨rfl,rfl⟩)
       go_ret;exact ⟨qa0 HQ.out.symm,rfl⟩
    ·obtain rfl:l=h:=o_
     go_wp2;go_round
     case rel=>
      refine ⟨l+1,by omega,by go_num,z_ (fun a b ha hb=>?_)⟩;by_cases ak:a=l
      ·subst ak;exact HY.out b hb
      ·exact HX.out a b o_ hb
     case measure=>simp [intOf];omega
  ·obtain rfl:h=n:=o_
   have HQ:Hid (r=false):=z_ (by rw [← HR.out];exact qk0 (fun a b ha hb=>HX.out a b Ac_ hb));go_wp2;go_ret;exact ⟨qa0 HQ.out.symm,rfl⟩
theorem qiu (U:List Nat)(v:Value)(x:Int)(h1:-9223372036854775808≤x)(h2:x≤9223372036854775807)(r:Bool)(hr:decide (0≤x∧x<U.length)=r)(w:World)(hM:MapU w v U):
  Calls Tryz.prog 188 #[v,.int .i64 x] w fun e w'=>e=.returned (.bool r)∧w=w':=by
 have hl:=hM.look_ok h1 h2;rw [hr] at hl;clear hM hr;go_enter Tryz.func188,Tryz.ntmps188
 go_wp2;go_ret;exact ⟨rfl,rfl⟩
theorem qav (E:List Nat)(j:Nat):(nats E).getD j 0=((E.getD j 0:Nat):Int):=by
 simp only [nats,List.getD,List.getElem?_map];cases E[j]? <;> simp
theorem qCu (E:List Nat)(k:Nat)(h:k<E.length):E.take (k+1)=E.take k++[E.getD k 0]:=by
 rw [List.take_succ_eq_append_getElem h];simp [List.getD,List.getElem?_eq_getElem h]
theorem qC8{S:Nat}(h:j<(els S).length):(els S).getD j 0<16:=by
 have hm:(els S).getD j 0∈els S:=by
  simp only [List.getD,List.getElem?_eq_getElem h,Option.getD_some];exact List.getElem_mem h
 exact (ql4.1 hm).1
def qgx (Q:List (Int×Int)):List (Int×Int):=Q.flatMap fun p=>[p,(p.2,p.1)]
theorem qur (Q:List (Int×Int)):(qgx Q).length=2*Q.length:=by
 induction Q with
 | nil=>rfl
 | cons p Q ih=>simp [qgx] at ih ⊢;omega
theorem qus (Q:List (Int×Int)):prs (qgx Q)=both (prs Q):=by
 induction Q with
 | nil=>rfl
 | cons p Q ih=>simp [qgx,prs,both] at ih ⊢;exact ih
theorem qut (h:PIn n Q):PIn n (qgx Q):=by
 intro q hq;obtain ⟨p,hp,aa⟩:=List.mem_flatMap.1 hq;simp only [List.mem_cons,List.not_mem_nil,or_false] at aa;rcases aa with rfl|rfl
 ·exact h _ hp
 ·exact ⟨(h p hp).2,(h p hp).1⟩
theorem qsh (Q:List (Int×Int))(k:Nat)(h:k<Q.length):qgx (Q.take (k+1))=qgx (Q.take k)++[((Q.getD k (0,0)).1,(Q.getD k (0,0)).2),((Q.getD k (0,0)).2,(Q.getD k (0,0)).1)]:=by
 rw [qAl Q k h,qgx,List.flatMap_append];simp [qgx]
theorem qsi (w:World)(a b c d:Value)(t:TypeId):∀ (j:Nat) (x:Value),[a,b,c,d][j]? =some x→(w.alloc (.cells #[a,b,c,d] t)).cell? ((⟨w.heap.size,0,none⟩:Addr).add j)=some x:=by
 intro j x hj;match j,hj with
 | 0,hj=>simp at hj;subst hj;simp [Addr.add]
 | 1,hj=>simp at hj;subst hj;simp [Addr.add]
 | 2,hj=>simp at hj;subst hj;simp [Addr.add]
 | 3,hj=>simp at hj;subst hj;simp [Addr.add]
theorem qaw (a b c d:Int):∀ x∈([.int .i64 a,.int .i64 b,.int .i64 c,.int .i64 d]:List Value),x.oneCell'=true:=by
 intro x hx;simp at hx;rcases hx with rfl|rfl|rfl|rfl<;>rfl
theorem qfz (Q:List (Int×Int))(hQ:Q.length≤16)(v:Value)(w:World)(h:HasP w v Q):
  Calls Tryz.prog 215 #[v] w fun e w'=>∃ v',e=.returned v'∧HasP w' v' (qgx Q)∧Below w.heap.size w w':=by
 obtain ⟨i0,hi,ai,aj,ak⟩:=info_parts qqg;obtain ⟨m,hm⟩:=e_ (Q.length);obtain ⟨A,c,rfl,h⟩:=h.shape hm.symm;have hl:=h.len.2;rw [← hm] at hQ;have HH:=z_ h;have HM:=z_ hm;clear h hm;go_enter Tryz.func215,Tryz.ntmps215
 go_wp2_with (at_make;refine wpList_make_own _ rfl _ _ 41 rfl w.heap.size 201 i0 _ 2 Tryz.underlying41 hi ai aj _ _ _ (2*m) rfl rfl (by go_num) (by rw [ak];omega) Aa_ n_ ?_)
 intro w1 hown ae;have al:Below w.heap.size w w1:=(Below.refl w.heap.size w).grown ae n_ Be_;clear ae;go_wp2;go_loopw [3,12] (fun v i wr=>∃ k:Nat,k≤m∧i=.int .i64 k∧wr.ownsRow w.heap.size 201 2 v (2*k) (pcs (qgx (Q.take k)))∧Below w.heap.size w wr) (fun _ i _=>m-(intOf i).toNat)
 case atStart=>exact ⟨0,y_,rfl,hown,al⟩
 case round=>
  obtain ⟨k,hk,rfl,ab,aa⟩:=hrel;clear hown;have HO:=z_ (qb7 ab);by_cases am:k<m
  ·obtain ⟨g,o,rfl,hg,hcell,ac⟩:=HH.out.cellAt am
   rw [← aa.cell (p:=⟨g,o+k*2,none⟩) hg] at hcell;rw [← aa.cell (p:=⟨g,o+k*2+1,none⟩) hg] at ac;have HB:=z_ (qsh Q k Af_);obtain ⟨x,hx⟩:=e_ ((Q.getD k (0,0)).1);obtain ⟨y,hy⟩:=e_ ((Q.getD k (0,0)).2);rw [← hx] at hcell HB;rw [← hy] at ac HB;have ah:=z_ ab;clear hx hy ab;go_wp2_with (at_builtin;refine wpList_append_own _ rfl _ _ 41 rfl w.heap.size 201 i0 _ 2 16 Tryz.underlying41 hi ai aj ak rfl (by decide) _ _ _ rfl (own_below ah.out ?_) ⟨wr.heap.size+1,0,none⟩ 2 2 [.int .i64 x,.int .i64 y,.int .i64 y,.int .i64 x] rfl rfl ?_ (qaw _ _ _ _) Aa_ o_ An_ ?_)
   ·repeat (first|exact Below.refl _ _|refine Below.setCell ?_ (by simp) _|refine Below.alloc ?_ (by simp) _)
   ·intro j u hj
    have:=qsi (wr.alloc (.cells #[.int .i64 x,.int .i64 y] 201)) _ _ _ _ 201 j u hj;simpa using this
   intro v2 w2 af ad _;have an:Below w.heap.size w w2:=Below.grown (w:=_) (by repeat (first|exact aa|refine Below.alloc ?_ Ap_ _)) ad An_ HO.out;have ag:w2.ownsRow w.heap.size 201 2 v2 (2*(k+1)) (pcs (qgx (Q.take (k+1)))):=by
    rw [HB.out,qjz,show 2*(k+1)=2*k+2 by omega];exact af
   clear af ad aa;go_wp2;go_roundw
   case rel=>exact ⟨k+1,by omega,by go_num,ag,an⟩
   case measure=>simp [intOf];omega
  ·obtain rfl:k=m:=o_
   go_wp2;go_ret;refine ⟨_,rfl,?_,aa⟩;have h1:=HasP.of_own ab;rw [List.take_of_length_le Af_] at h1;exact h1
def ordU (P:List (List UInt8))(Q:List (Int×Int)):List Nat:=if okS P Q then clo P.length (prs Q) else []
theorem qy6 (P:List (List UInt8))(Q:List (Int×Int)):Lim (ordU P Q):=by
 unfold ordU;split
 ·rename_i h
  obtain ⟨h1,h2,h3,h4,h5⟩:=qb2 h;exact ⟨by rw [qc9];exact h2,fun i=>by rw [qc9];exact qqn h3.inR i⟩
 ·exact Lim.nil
theorem qlj (h:okS P Q=true):ordU P Q=clo P.length (prs Q):=by rw [ordU,if_pos h]
theorem qoz (h:okS P Q=false):ordU P Q=[]:=by rw [ordU,if_neg (by simp [h])]
structure HasS (w:World) (va vb:Value) (P:List (List UInt8)) (Q:List (Int×Int)):Prop where
 a:Has w va (ssv P)
 b:HasP w vb Q
 short:∀ k,k<P.length→(P.getD k []).length≤maxLen
 in64:In64 Q
theorem HasS.below {w w':World}{va vb:Value}{P:List (List UInt8)}{Q:List (Int×Int)}(h:HasS w va vb P Q){B:Nat}(hB:w.heap.size≤B)(hb:Below B w w'):HasS w' va vb P Q:=⟨h.a.below hB hb,h.b.below hB hb,h.short,h.in64⟩
theorem HasS.shape {w:World}{va vb:Value}{P:List (List UInt8)}{Q:List (Int×Int)}(h:HasS w va vb P Q):
  ∃ A ca B cb,va=.slice A P.length ca∧vb=.slice B Q.length cb∧P.length≤9223372036854775807∧Q.length≤9223372036854775807∧HasS w (.slice A P.length ca) (.slice B Q.length cb) P Q:=by
 obtain ⟨A,ca,rfl,ha⟩:=h.a.shape (qba P);obtain ⟨B,cb,rfl,hb⟩:=h.b.shape rfl;exact ⟨A,ca,B,cb,rfl,rfl,ha.len.2,hb.len.2,h⟩
theorem qg0 (P:List (List UInt8))(Q:List (Int×Int))(va vb:Value)(w:World)(h:HasS w va vb P Q):
  Calls Tryz.prog 90 #[.agg #[va,vb]] w fun e w'=>∃ mv,e=.returned mv∧MapU w' mv (ordU P Q)∧(okS P Q=true→∃ b,mv=.map (some b))∧(okS P Q=false→mv=.map none)∧Below w.heap.size w w':=by
 obtain ⟨A,ca,B,cb,rfl,rfl,ap,ax,h'⟩:=h.shape;have HH:=z_ h';have al:=z_ (fun r hr W hW=>qlb P h'.short _ r hr W (h'.below n_ hW).a);clear h h';cases hn:qbx P with
 | false=>
  have aa:okS P Q=false:=by rw [okS,hn];rfl
  have HQ:Hid (ordU P Q=[]):=z_ (qoz aa);have af:=z_ aa;have HN:=z_ (al.out false hn);clear hn aa;go_enter Tryz.func90,Tryz.ntmps90
  go_wp2_with (go_at_call 147;refine (HN.out _ (b_.alloc n_ _)).mono ?_;rintro e w1 ⟨rfl,rfl⟩)
  go_ret;exact ⟨_,rfl,.inl ⟨rfl,HQ.out⟩,fun e=>(by rw [af.out] at e;cases e),fun _=>rfl,b_.alloc n_ _⟩
 | true=>
  have HN:=z_ (al.out true hn);have hP:1≤P.length∧P.length≤8:=by simp only [qbx,Bool.and_eq_true,decide_eq_true_eq] at hn;exact hn.1
  obtain ⟨n,ad⟩:=e_ (P.length);rw [← ad] at ap hP HN HH ⊢;have ay:=z_ ad;have am:=z_ (fun r hr W hW=>qox n o_ Q HH.out.in64 _ r hr W (HH.out.below n_ hW).b);cases hs:qd7 n Q with
  | false=>
   have aa:okS P Q=false:=by rw [okS,hn,← ad,hs];rfl
   have HQ:Hid (ordU P Q=[]):=z_ (qoz aa);have af:=z_ aa;have aq:=z_ (am.out false hs);clear hn aa ad hs;go_enter Tryz.func90,Tryz.ntmps90
   go_wp2_with (first
    | (go_at_call 147;refine (HN.out _ (b_.alloc n_ _)).mono ?_;rintro e w1 ⟨rfl,rfl⟩)
    | (go_at_call 148;refine (aq.out _ (b_.alloc n_ _)).mono ?_;rintro e w1 ⟨rfl,ab⟩))
   go_ret;exact ⟨_,rfl,.inl ⟨rfl,HQ.out⟩,fun e=>(by rw [af.out] at e;cases e),fun _=>rfl,(b_.alloc n_ _).trans (ab.mono (by simp))⟩
  | true=>
   obtain ⟨ac,au⟩:=qgu hs;have an:=z_ (am.out true hs);have ao:=z_ (fun W hW=>qf7 n o_ Q o_ ac _ W (HH.out.below n_ hW).b);have ae:Lim (clo n (prs Q)):=⟨by rw [qc9];omega,fun i=>by rw [qc9];exact qqn ac.inR i⟩;have ai:=z_ (fun r hr v W hM=>qjq (clo n (prs Q)) ae v r hr W hM);rw [qc9] at ai;have av:=z_ ac;have aw:=z_ ae;cases hc:circ n (clo n (prs Q)) with
   | true=>
    have aa:okS P Q=false:=by rw [okS,hn,← ad,hs,hc];rfl
    have HQ:Hid (ordU P Q=[]):=z_ (qoz aa);have af:=z_ aa;have aj:=z_ (ai.out true hc);clear hn aa ad hs hc ac ae;go_enter Tryz.func90,Tryz.ntmps90
    go_wp2_with (first
     | (go_at_call 147;refine (HN.out _ (b_.alloc n_ _)).mono ?_;rintro e w1 ⟨rfl,rfl⟩)
     | (go_at_call 148;refine (an.out _ (b_.alloc n_ _)).mono ?_;rintro e w1 ⟨rfl,ab⟩
        have ag:Below w.heap.size w w1:=(b_.alloc n_ _).trans (ab.mono (by simp));have c0:w1.cell? ⟨w.heap.size,0,none⟩=some (.slice A n ca):=by rw [ab.cell (p:=⟨w.heap.size,0,none⟩) (by simp)];simp
        have c1:w1.cell? ⟨w.heap.size,1,none⟩=some (.slice B Q.length cb):=by rw [ab.cell (p:=⟨w.heap.size,1,none⟩) (by simp)];simp
        clear ab)
     | (go_at_call 149;refine (ao.out _ ag).mono ?_;rintro e w2 ⟨b,rfl,hM,ak⟩;have ah:=z_ hM;clear hM)
     | (go_at_call 150;refine (aj.out _ _ ah.out).mono ?_;rintro e w3 ⟨rfl,rfl⟩))
    go_ret;exact ⟨_,rfl,.inl ⟨rfl,HQ.out⟩,fun e=>(by rw [af.out] at e;cases e),fun _=>rfl,ag.trans (ak.mono ag.size)⟩
   | false=>
    have aa:okS P Q=true:=by rw [okS,hn,← ad,hs,hc];rfl
    have HQ:Hid (ordU P Q=clo n (prs Q)):=z_ (by rw [qlj aa,ad]);have af:=z_ aa;have aj:=z_ (ai.out false hc);clear hn aa ad hs hc ac ae;go_enter Tryz.func90,Tryz.ntmps90
    go_wp2_with (first
     | (go_at_call 147;refine (HN.out _ (b_.alloc n_ _)).mono ?_;rintro e w1 ⟨rfl,rfl⟩)
     | (go_at_call 148;refine (an.out _ (b_.alloc n_ _)).mono ?_;rintro e w1 ⟨rfl,ab⟩
        have ag:Below w.heap.size w w1:=(b_.alloc n_ _).trans (ab.mono (by simp));have c0:w1.cell? ⟨w.heap.size,0,none⟩=some (.slice A n ca):=by rw [ab.cell (p:=⟨w.heap.size,0,none⟩) (by simp)];simp
        have c1:w1.cell? ⟨w.heap.size,1,none⟩=some (.slice B Q.length cb):=by rw [ab.cell (p:=⟨w.heap.size,1,none⟩) (by simp)];simp
        clear ab)
     | (go_at_call 149;refine (ao.out _ ag).mono ?_;rintro e w2 ⟨b,rfl,hM,ak⟩;have ah:=z_ hM;clear hM)
     | (go_at_call 150;refine (aj.out _ _ ah.out).mono ?_;rintro e w3 ⟨rfl,rfl⟩))
    go_ret;exact ⟨_,rfl,by rw [HQ.out];exact ah.out,fun _=>⟨_,rfl⟩,fun e=>(by rw [af.out] at e;cases e),ag.trans (ak.mono ag.size)⟩
end sorti

namespace sigs
open mem join subs setm sortp sorti rowl sigm
def RD:qhq (List Int×Int):=fun lo w cs d=>∃ va,cs=[va,.int .i64 d.2]∧HasL lo w va (ivs d.1)∧I64 d.2∧∀ x∈d.1,I64 x
theorem qa6:Steady RD:=⟨fun ⟨va,e,h,r⟩ hk=>⟨va,e,h.kept hk,r⟩,fun ⟨va,e,h,r⟩ hl=>⟨va,e,h.mono hl,r⟩⟩
abbrev HasD (lo:Nat)(w:World)(v:Value)(D:List (List Int×Int)):Prop:=HasR RD 2 lo w v D
theorem HasL.shape (h:HasL lo w v xs)(hn:xs.length=n):∃ A c,v=.slice A n c∧HasL lo w (.slice A n c) xs:=by
 subst hn;obtain ⟨A,c,rfl,h'⟩:=h;exact ⟨A,c,rfl,A,c,rfl,h'⟩
theorem qbb (h:HasD lo w (.slice A n c) D)(hj:j<n):
  ∃ g o A2 c2,A=some ⟨g,o,none⟩∧lo≤g∧g<w.heap.size∧w.cell? ⟨g,o+j*2,none⟩=some (.slice A2 (D.getD j default).1.length c2)∧w.cell? ⟨g,o+j*2+1,none⟩=some (.int .i64 (D.getD j default).2)∧
   HasL lo w (.slice A2 (D.getD j default).1.length c2) (ivs (D.getD j default).1)∧I64 (D.getD j default).2∧∀ x∈(D.getD j default).1,I64 x:=by
 obtain ⟨g,o,cs,e,hl,hg,hc,va,rfl,hh,h1,h2⟩:=h.get hj;obtain ⟨A2,c2,rfl,aa⟩:=HasL.shape hh (qau _);exact ⟨g,o,A2,c2,e,hl,hg,hc 0 o_,hc 1 o_,aa,h1,h2⟩
def RO:qhq OpM:=fun lo w cs o=>∃ va,cs=[.string (bstr o.name),va,.bool o.ass,.bool o.com,.int .i64 o.unt]∧HasD lo w va o.decls∧o.name.length≤maxLen∧I64 o.unt
theorem qcx:Steady RO:=⟨fun ⟨va,e,h,r⟩ hk=>⟨va,e,h.kept qa6 hk,r⟩,fun ⟨va,e,h,r⟩ hl=>⟨va,e,h.mono qa6 hl,r⟩⟩
abbrev HasO (lo:Nat)(w:World)(v:Value)(O:List OpM):Prop:=HasR RO 5 lo w v O
theorem qcm{O:List OpM}(h:HasO lo w (.slice A n c) O)(hj:j<n):
  ∃ g o A2 c2,A=some ⟨g,o,none⟩∧lo≤g∧g<w.heap.size∧w.cell? ⟨g,o+j*5,none⟩=some (.string (bstr (O.getD j default).name))∧w.cell? ⟨g,o+j*5+1,none⟩=some (.slice A2 (O.getD j default).decls.length c2)∧
   w.cell? ⟨g,o+j*5+2,none⟩=some (.bool (O.getD j default).ass)∧w.cell? ⟨g,o+j*5+3,none⟩=some (.bool (O.getD j default).com)∧w.cell? ⟨g,o+j*5+4,none⟩=some (.int .i64 (O.getD j default).unt)∧
   HasD lo w (.slice A2 (O.getD j default).decls.length c2) (O.getD j default).decls∧(O.getD j default).name.length≤maxLen∧I64 (O.getD j default).unt:=by
 obtain ⟨g,o,cs,e,hl,hg,hc,va,rfl,hh,h1,h2⟩:=h.get hj;obtain ⟨A2,c2,rfl,aa⟩:=HasR.shape hh rfl;exact ⟨g,o,A2,c2,e,hl,hg,hc 0 o_,hc 1 o_,hc 2 o_,hc 3 o_,hc 4 o_,aa,h1,h2⟩
structure HasG (w:World) (va vb vc:Value) (P:List (List UInt8)) (Q:List (Int×Int)) (O:List OpM):Prop where
 s:HasS w va vb P Q
 o:HasO 0 w vc O
theorem HasG.below {w w':World}{va vb vc:Value}{P:List (List UInt8)}{Q:List (Int×Int)}{O:List OpM}(h:HasG w va vb vc P Q O){B:Nat}(hB:w.heap.size≤B)(hb:Below B w w'):HasG w' va vb vc P Q O:=⟨h.s.below hB hb,h.o.below qcx hB hb⟩
theorem HasG.shape {w:World}{va vb vc:Value}{P:List (List UInt8)}{Q:List (Int×Int)}{O:List OpM}(h:HasG w va vb vc P Q O):
  ∃ A ca B cb C cc,va=.slice A P.length ca∧vb=.slice B Q.length cb∧vc=.slice C O.length cc∧P.length≤9223372036854775807∧Q.length≤9223372036854775807∧O.length≤9223372036854775807∧
   HasG w (.slice A P.length ca) (.slice B Q.length cb) (.slice C O.length cc) P Q O:=by
 obtain ⟨A,ca,B,cb,rfl,rfl,h1,h2,hs⟩:=h.s.shape;obtain ⟨C,cc,rfl,ho⟩:=HasR.shape h.o rfl;exact ⟨A,ca,B,cb,C,cc,rfl,rfl,rfl,h1,h2,ho.len.2.1,hs,ho⟩
def SmD (D:List (List Int×Int)):Prop:=D.length≤1048576∧∀ j,j<D.length→(D.getD j default).1.length≤1048576
def SmO (O:List OpM):Prop:=O.length≤1048576∧∀ j,j<O.length→SmD (O.getD j default).decls
theorem qsj (A:Option Addr)(n c:Nat)(hl:n≤9223372036854775807)(w:World)(m:Int)(hm:0≤m)(ab:m≤1048576):
  Calls Tryz.prog 62 #[.slice A n c,.int .i64 m] w fun e w'=>∃ r:Int,e=.returned (.int .i64 r)∧(0≤r→n≤1048576)∧-1≤r∧r≤1048576∧w=w':=by
 by_cases aa:m-(n:Int)<0
 ·go_enter Tryz.func62,Tryz.ntmps62
  go_wp2;go_ret;exact ⟨-1,rfl,fun h=>by omega,by omega,by omega,rfl⟩
 ·go_enter Tryz.func62,Tryz.ntmps62
  go_wp2;go_ret;exact ⟨_,rfl,fun h=>by omega,by omega,by omega,rfl⟩
theorem c31_{p:Prop}(h:p:=by
 go_wp2;go_ret;exact ⟨-1,rfl,fun h=>by omega,by omega,by omega,b_.alloc n_ _⟩
):p:=h
theorem qsk (A:Option Addr)(n c:Nat)(x:Int)(hl:n≤9223372036854775807)(w:World)(m:Int)(hm:0≤m)(aa:m≤1048576):
  Calls Tryz.prog 177 #[.agg #[.slice A n c,.int .i64 x],.int .i64 m] w fun e w'=>∃ r:Int,e=.returned (.int .i64 r)∧(0≤r→n≤1048576)∧-1≤r∧r≤1048576∧Below w.heap.size w w':=by
 go_enter Tryz.func177,Tryz.ntmps177
 go_wp2_with fail
 refine (qsj A n c hl _ m hm aa).mono ?_;rintro e w1 ⟨r,rfl,hr,ab,ac,rfl⟩;by_cases ad:r<0
 ·exact c31_
 ·go_wp2
  go_ret;exact ⟨r,rfl,hr,ab,ac,b_.alloc n_ _⟩
theorem c29_{p:Prop}(h:p:=by
 obtain rfl:k=n:=o_;go_wp2;go_ret;exact ⟨r,rfl,fun _=>⟨by have:=HN.out;omega,fun j hj=>HS.out j Ac_⟩,by omega,ad,aa⟩
):p:=h
theorem c30_{p:Prop}(h:p:=by
 go_wp2;go_ret;exact ⟨-1,rfl,fun h=>by omega,by omega,by omega,Below.refl _ _⟩
):p:=h
theorem qp0 (D:List (List Int×Int))(v:Value)(w:World)(h:HasD lo w v D)(m:Int)(hm:0≤m)(ap:m≤1048576):
  Calls Tryz.prog 130 #[v,.int .i64 m] w fun e w'=>∃ r:Int,e=.returned (.int .i64 r)∧(0≤r→SmD D)∧-1≤r∧r≤1048576∧Below w.heap.size w w':=by
 obtain ⟨n,hn⟩:=e_ (D.length);obtain ⟨A,c,rfl,h⟩:=HasR.shape h hn.symm;have hl:=h.len.2.1;have HH:=z_ h;have HN:=z_ hn;clear h hn;by_cases ak:m-(n:Int)<0
 ·go_enter Tryz.func130,Tryz.ntmps130
  exact c30_
 ·have aq:(n:Int)≤m:=o_
  go_enter Tryz.func130,Tryz.ntmps130
  go_wp2;go_loopw [1,5] (fun v i wr=>∃ (k:Nat) (r:Int),k≤n∧i=.int .i64 k∧v=.int .i64 r∧0≤r∧r≤1048576∧Hid (∀ j,j<k→(D.getD j default).1.length≤1048576)∧Below w.heap.size w wr) (fun _ i _=>n-(intOf i).toNat)
  case atStart=>exact ⟨0,_,y_,rfl,rfl,by omega,by omega,z_ (fun j hj=>by omega),Below.refl _ _⟩
  case round=>
   obtain ⟨k,r,hk,rfl,rfl,al,ad,HS,aa⟩:=hrel;by_cases am:k<n
   ·obtain ⟨g,o,A2,c2,rfl,_,hg,ae,af,hh,_,_⟩:=qbb HH.out am
    have ab:=hh.has.len;rw [qau] at ab;rw [← aa.cell (p:=⟨g,o+k*2,none⟩) hg] at ae;rw [← aa.cell (p:=⟨g,o+k*2+1,none⟩) hg] at af
    have ag:Hid ((D.getD k default).1.length≤1048576→∀ j,j<k+1→(D.getD j default).1.length≤1048576):=z_ (fun h1 j hj=>by
     by_cases e:j=k
     ·subst e;exact h1
     ·exact HS.out j o_)
    obtain ⟨n2,ah⟩:=e_ ((D.getD k default).1.length);obtain ⟨x,hx⟩:=e_ ((D.getD k default).2);rw [← ah] at ae ab ag;rw [← hx] at af;have an:=ab.2;clear hh ab ah hx;go_wp2_with fail
    refine (qsk A2 n2 c2 x an _ r al ad).mono ?_;rintro e w2 ⟨r2,rfl,hs,au,ao,ai⟩;by_cases aj:r2<0
    ·go_wp2
     go_ret;exact ⟨-1,rfl,fun h=>by omega,by omega,by omega,aa.trans (ai.mono aa.size)⟩
    ·have ac:=z_ (ag.out (hs o_))
     clear hs;go_wp2;go_roundw
     case rel=>exact ⟨k+1,r2,by omega,by go_num,rfl,by omega,ao,ac,aa.trans (ai.mono aa.size)⟩
     case measure=>simp [intOf];omega
   ·exact c29_
theorem qy7 (l:List UInt8)(hl:l.length≤maxLen)(D:List (List Int×Int))(v:Value)(a b:Bool)(u:Int)(w:World)(h:HasD lo w v D)(m:Int)(hm:0≤m)(ah:m≤1048576):
  Calls Tryz.prog 78 #[.agg #[.string (bstr l),v,.bool a,.bool b,.int .i64 u],.int .i64 m] w fun e w'=>∃ r:Int,e=.returned (.int .i64 r)∧(0≤r→SmD D)∧-1≤r∧r≤1048576∧Below w.heap.size w w':=by
 have hsz:=qbj l;have aa:=z_ (fun W (hW:Below w.heap.size w W) m h1 h2=>qp0 D v W (h.below qa6 n_ hW) m h1 h2);obtain ⟨A,c,rfl,h⟩:=HasR.shape h rfl;obtain ⟨n,hn⟩:=e_ (D.length);rw [← hn] at aa ⊢;unfold maxLen at hl;clear h hn;by_cases ae:m-(l.length:Int)<0
 ·go_enter Tryz.func78,Tryz.ntmps78
  exact c31_
 ·go_enter Tryz.func78,Tryz.ntmps78
  go_wp2_with fail
  refine (aa.out _ (b_.alloc n_ _) _ o_ o_).mono ?_;rintro e w1 ⟨r,rfl,hr,af,ag,ab⟩;have ac:Below w.heap.size w w1:=(b_.alloc n_ _).trans (ab.mono (by simp));clear ab;by_cases ad:r<0
  ·go_wp2
   go_ret;exact ⟨-1,rfl,fun h=>by omega,by omega,by omega,ac⟩
  ·go_wp2
   go_ret;exact ⟨r,rfl,hr,af,ag,ac⟩
theorem quu (O:List OpM)(v:Value)(w:World)(h:HasO lo w v O)(m:Int)(hm:0≤m)(av:m≤1048576):
  Calls Tryz.prog 33 #[v,.int .i64 m] w fun e w'=>∃ r:Int,e=.returned (.int .i64 r)∧(0≤r→SmO O)∧-1≤r∧r≤1048576∧Below w.heap.size w w':=by
 obtain ⟨n,hn⟩:=e_ (O.length);obtain ⟨A,c,rfl,h⟩:=HasR.shape h hn.symm;have hl:=h.len.2.1;have HH:=z_ h;have HN:=z_ hn;clear h hn;by_cases ao:m-(n:Int)<0
 ·go_enter Tryz.func33,Tryz.ntmps33
  exact c30_
 ·have aw:(n:Int)≤m:=o_
  go_enter Tryz.func33,Tryz.ntmps33
  go_wp2;go_loopw [1,5] (fun v i wr=>∃ (k:Nat) (r:Int),k≤n∧i=.int .i64 k∧v=.int .i64 r∧0≤r∧r≤1048576∧Hid (∀ j,j<k→SmD (O.getD j default).decls)∧Below w.heap.size w wr) (fun _ i _=>n-(intOf i).toNat)
  case atStart=>exact ⟨0,_,y_,rfl,rfl,by omega,by omega,z_ (fun j hj=>by omega),Below.refl _ _⟩
  case round=>
   obtain ⟨k,r,hk,rfl,rfl,ap,ad,HS,aa⟩:=hrel;by_cases aq:k<n
   ·obtain ⟨g,o,A2,c2,rfl,_,hg,ae,af,ag,ah,ai,hh,aj,_⟩:=qcm HH.out aq
    rw [← aa.cell (p:=⟨g,o+k*5,none⟩) hg] at ae;rw [← aa.cell (p:=⟨g,o+k*5+1,none⟩) hg] at af;rw [← aa.cell (p:=⟨g,o+k*5+2,none⟩) hg] at ag;rw [← aa.cell (p:=⟨g,o+k*5+3,none⟩) hg] at ah;rw [← aa.cell (p:=⟨g,o+k*5+4,none⟩) hg] at ai
    have ak:Hid (SmD (O.getD k default).decls→∀ j,j<k+1→SmD (O.getD j default).decls):=z_ (fun h1 j hj=>by
     by_cases e:j=k
     ·subst e;exact h1
     ·exact HS.out j o_)
    have ab:=hh.below qa6 n_ aa;obtain ⟨⟨nm,D,a,b,u⟩,al⟩:∃ x,x=O.getD k default:=⟨_,rfl⟩;rw [← al] at ae af ag ah ai ak ab aj;have HD:=z_ ab;clear hh ab al;go_wp2_with fail
    refine (qy7 nm aj D _ a b u _ HD.out r ap ad).mono ?_;rintro e w2 ⟨r2,rfl,hs,ax,au,am⟩;by_cases an:r2<0
    ·go_wp2
     go_ret;exact ⟨-1,rfl,fun h=>by omega,by omega,by omega,aa.trans (am.mono aa.size)⟩
    ·have ac:=z_ (ak.out (hs o_))
     clear hs;go_wp2;go_roundw
     case rel=>exact ⟨k+1,r2,by omega,by go_num,rfl,by omega,au,ac,aa.trans (am.mono aa.size)⟩
     case measure=>simp [intOf];omega
   ·exact c29_
theorem qiv (P:List (List UInt8))(Q:List (Int×Int))(O:List OpM)(va vb vc:Value)(w:World)(h:HasG w va vb vc P Q O):
  Calls Tryz.prog 7 #[.agg #[va,vb,vc],.int .i64 1048576] w fun e w'=>∃ r:Int,e=.returned (.int .i64 r)∧(0≤r→(Small P∧Q.length≤1048576)∧SmO O)∧-1≤r∧r≤1048576∧Below w.heap.size w w':=by
 have ag:=z_ (fun W (hW:Below w.heap.size w W)=>qot P h.s.short Q _ _ W (h.below n_ hW).s.a (h.below n_ hW).s.b);have ad:=z_ (fun W (hW:Below w.heap.size w W) m h1 h2=>quu O vc W (h.below n_ hW).o m h1 h2);obtain ⟨A,ca,B,cb,C,cc,rfl,rfl,rfl,al,am,ah,_⟩:=h.shape;obtain ⟨n,hn⟩:=e_ (O.length);rw [← hn] at ad ah ⊢;clear h hn;go_enter Tryz.func7,Tryz.ntmps7
 go_wp2_with fail
 refine (ag.out _ (b_.alloc n_ _)).mono ?_;rintro e w1 ⟨r,rfl,hr,an,ao,ac⟩;have aa:Below w.heap.size w w1:=(b_.alloc n_ _).trans (ac.mono (by simp));have c2:w1.cell? ⟨w.heap.size,2,none⟩=some (.slice C n cc):=by rw [ac.cell (p:=⟨w.heap.size,2,none⟩) (by simp)];simp
 clear ac;by_cases ai:r<0
 ·go_wp2
  go_ret;exact ⟨-1,rfl,fun h=>by omega,by omega,by omega,aa⟩
 ·go_wp2_with fail
  refine (ad.out _ aa r o_ o_).mono ?_;rintro e w2 ⟨r2,rfl,hs,aj,ak,ae⟩;have ab:=aa.trans (ae.mono aa.size);clear ae;by_cases af:r2<0
  ·go_wp2
   go_ret;exact ⟨-1,rfl,fun h=>by omega,by omega,by omega,ab⟩
  ·go_wp2
   go_ret;exact ⟨r2,rfl,fun h=>⟨hr o_,hs h⟩,aj,ak,ab⟩
end sigs

namespace sortf
open mem split subs setm sortm sortp sorti
theorem qn3 (P:List (List UInt8))(Q:List (Int×Int))(va vb:Value)(r:Bool)(hr:okS P Q=r)(w:World)(h:HasS w va vb P Q):
  Calls Tryz.prog 214 #[.agg #[va,vb]] w fun e w'=>e=.returned (.bool r)∧Below w.heap.size w w':=by
 have HO:=z_ (fun W hW=>qg0 P Q va vb W (h.below n_ hW));obtain ⟨A,ca,B,cb,rfl,rfl,ae,af,h'⟩:=h.shape;have ag:∀ (m:Option Nat) (W:World),(binOp .neq 89 (.map m) (.map none)).run Tryz.prog W=.ok (.bool (!m.isNone)) W:=fun m W=>run_neq_map_nil W 89 _ _ m Tryz.underlying89
 clear h h';subst hr;cases aa:okS P Q with
 | false=>
  have ac:=z_ aa;clear aa;go_enter Tryz.func214,Tryz.ntmps214
  go_wp2_with (go_at_call 90;refine (HO.out _ (b_.alloc n_ _)).mono ?_;rintro e w1 ⟨mv,rfl,hM,hy,ab,ad⟩;obtain rfl:=ab ac.out;clear hM hy ab)
  go_ret;exact ⟨rfl,(b_.alloc n_ _).trans (ad.mono (by simp))⟩
 | true=>
  have ac:=z_ aa;clear aa;go_enter Tryz.func214,Tryz.ntmps214
  go_wp2_with (go_at_call 90;refine (HO.out _ (b_.alloc n_ _)).mono ?_;rintro e w1 ⟨mv,rfl,hM,hy,ab,ad⟩;obtain ⟨b,rfl⟩:=hy ac.out;clear hM ab)
  go_ret;exact ⟨rfl,(b_.alloc n_ _).trans (ad.mono (by simp))⟩
theorem qCv{wr w0:World}{p q:Addr}(h:(w0.cell? p=some a∧w0.cell? q=some b)∧Below wr.heap.size wr w0)(hp:p.block<wr.heap.size∧q.block<wr.heap.size)(hb:Below w0.heap.size w0 w1):
  (w1.cell? p=some a∧w1.cell? q=some b)∧Below wr.heap.size wr w1:=by
 have hs:=h.2.size;exact ⟨⟨(hb.cell o_).trans h.1.1,(hb.cell o_).trans h.1.2⟩,h.2.trans (hb.mono hs)⟩
def qaq (P:List (List UInt8))(Q:List (Int×Int)):List Nat:=if okS P Q then clo P.length (both (prs Q)) else []
theorem qgy (P:List (List UInt8))(Q:List (Int×Int)):(qaq P Q).length=if okS P Q then P.length else 0:=by
 unfold qaq;split
 ·rw [qc9]
 ·rfl
theorem qlk (P:List (List UInt8))(Q:List (Int×Int))(va vb:Value)(w:World)(h:HasS w va vb P Q):
  Calls Tryz.prog 169 #[.agg #[va,vb]] w fun e w'=>∃ mv,e=.returned mv∧MapU w' mv (qaq P Q)∧(okS P Q=true→∃ b,mv=.map (some b))∧(okS P Q=false→mv=.map none)∧Below w.heap.size w w':=by
 have ad:=z_ (fun r hr W hW=>qn3 P Q va vb r hr W (h.below n_ hW));obtain ⟨A,ca,B,cb,rfl,rfl,aj,ak,h'⟩:=h.shape;have HH:=z_ h';clear h h';cases aa:okS P Q with
 | false=>
  have HQ:Hid (qaq P Q=[]):=z_ (by rw [qaq,aa];rfl);have ah:=z_ aa;have HI:=z_ (ad.out false aa);clear aa;go_enter Tryz.func169,Tryz.ntmps169
  go_wp2_with (go_at_call 214;refine (HI.out _ (b_.alloc n_ _)).mono ?_;rintro e w1 ⟨rfl,ab⟩)
  go_ret;exact ⟨_,rfl,.inl ⟨rfl,HQ.out⟩,fun e=>(by cases e),fun _=>rfl,(b_.alloc n_ _).trans (ab.mono (by simp))⟩
 | true=>
  obtain ⟨p1,p2,p3,p4,p5⟩:=qb2 aa;have HQ:Hid (qaq P Q=clo P.length (both (prs Q))):=z_ (by rw [qaq,if_pos aa]);have ah:=z_ aa;have HI:=z_ (ad.out true aa);have HB:=z_ (fun W hW=>qfz Q p4 _ W (HH.out.below n_ hW).b);have ae:=z_ (fun v W hW=>qf7 P.length o_ (qgx Q) (by rw [qur];omega) (qut p3) v W hW);rw [qus] at ae;clear aa p1 p2 p3 p4 p5;go_enter Tryz.func169,Tryz.ntmps169
  go_wp2_with fail
  refine (HI.out _ (b_.alloc n_ _)).mono ?_;rintro e w1 ⟨rfl,ab⟩;have ac:Below w.heap.size w w1:=(b_.alloc n_ _).trans (ab.mono (by simp));have c0:w1.cell? ⟨w.heap.size,0,none⟩=some (.slice A P.length ca):=by rw [ab.cell (p:=⟨w.heap.size,0,none⟩) (by simp)];simp
  have c1:w1.cell? ⟨w.heap.size,1,none⟩=some (.slice B Q.length cb):=by rw [ab.cell (p:=⟨w.heap.size,1,none⟩) (by simp)];simp
  have af:w.heap.size<w1.heap.size:=by have:=ab.size;simp at this;omega
  clear ab;go_wp2_with fail
  go_region_held3 (fun w'=>(w'.cell? ⟨w.heap.size,0,none⟩=some (.slice A P.length ca)∧w'.cell? ⟨w.heap.size,1,none⟩=some (.slice B Q.length cb))∧Below w1.heap.size w1 w')
   (first|(refine ⟨⟨?_,?_⟩,b_.drew⟩<;>assumption)|(go_split_ands;exact qCv (p:=⟨w.heap.size,0,none⟩) (q:=⟨w.heap.size,1,none⟩) ⟨⟨by assumption,by assumption⟩,by assumption⟩ ⟨af,af⟩ (by assumption)))
   (first
    | (go_at_call 215;go_split_ands;refine (HB.out _ (ac.trans (Below.mono (by assumption) ac.size))).mono ?_;rintro e w2 ⟨bv,rfl,ag,al⟩;have ai:=z_ ag;clear ag)
    | (go_at_call 149;go_split_ands;refine (ae.out _ _ ai.out).mono ?_;rintro e w3 ⟨b,rfl,hM,am⟩;have HM:=z_ hM;clear hM))
  go_wp2;have hh:(w3.cell? ⟨w.heap.size,0,none⟩=some (.slice A P.length ca)∧w3.cell? ⟨w.heap.size,1,none⟩=some (.slice B Q.length cb))∧Below w1.heap.size w1 w3:=by assumption
  go_ret;exact ⟨_,rfl,by rw [HQ.out];exact HM.out,fun _=>⟨_,rfl⟩,fun e=>(by cases e),ac.trans (hh.2.mono ac.size)⟩
end sortf
end Go.Proofs.YtiilamngcoegiaaGreat
