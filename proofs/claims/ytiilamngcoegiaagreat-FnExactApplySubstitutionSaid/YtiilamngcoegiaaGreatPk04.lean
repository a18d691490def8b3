/- parts -/
import Derived.Test.YtiilamngcoegiaaGreatPk02
import Derived.Deep.RegionHeld3
import Derived.Test.YtiilamngcoegiaaGreatSortp
import Derived.Laws.Cover3
namespace Go.Proofs.YtiilamngcoegiaaGreat
open Go.ChangeShapes Go.WideShapes Go.ChangeAt Go.RowKit
namespace termt
open mem rowl trm trmv terml
def SzS (n:Nat):Prop:=∀ (L:List TermM) (v:Value) (w:World) (lo:Nat),HasTs n lo w v L→∀ m:Int,0≤m→m≤1048576→
 Calls Tryz.prog 35 #[v,.int .i64 m] w fun e w'=>∃ r:Int,e=.returned (.int .i64 r)∧(0≤r→r+sizes L≤m)∧-1≤r∧r≤1048576∧Below w.heap.size w w'
theorem qmb {n:Nat}(hS:SzS n)(op:Int)(l:List UInt8)(s:Int)(L:List TermM)(va:Value)(w:World){lo:Nat}(hl:l.length≤maxLen)(h:HasTs n lo w va L)(m:Int)(hm:0≤m)(ag:m≤1048576):
  Calls Tryz.prog 9 #[.agg #[.int .i64 op,.string (bstr l),.int .i64 s,va],.int .i64 m] w fun e w'=>∃ r:Int,e=.returned (.int .i64 r)∧(0≤r→r+sizes L≤m)∧-1≤r∧r≤1048576∧Below w.heap.size w w':=by
 have hsz:=qbg l;have aa:=z_ (fun W (hW:Below w.heap.size w W) m h1 h2=>hS L va W lo (h.below n_ hW) m h1 h2);obtain ⟨A,c,rfl,h⟩:=HasR.shape h rfl;obtain ⟨k,hk⟩:=e_ (L.length);rw [← hk] at aa ⊢;unfold maxLen at hl;clear h hk;by_cases ad:m-(l.length:Int)<0
 ·go_enter Tryz.func9,Tryz.ntmps9
  go_wp2;go_ret;exact ⟨-1,rfl,fun h=>by omega,by omega,by omega,b_.alloc n_ _⟩
 ·go_enter Tryz.func9,Tryz.ntmps9
  go_wp2_with fail
  refine (aa.out _ (b_.alloc n_ _) (m-l.length) o_ o_).mono ?_;rintro e w1 ⟨r,rfl,hr,ae,af,hb⟩;have ab:Below w.heap.size w w1:=(b_.alloc n_ _).trans (hb.mono (by simp));clear hb;by_cases ac:r<0
  ·go_wp2
   go_ret;exact ⟨-1,rfl,fun h=>by omega,by omega,by omega,ab⟩
  ·go_wp2
   go_ret;exact ⟨r,rfl,fun h=>by have:=hr h;omega,ae,af,ab⟩
theorem qji {L:List TermM}{k:Nat}(h:k<L.length):sizes (L.take (k+1))=sizes (L.take k)+size (L.getD k default):=by
 rw [List.take_succ_eq_append_getElem h,qar h];simp only [sizes,List.map_append,List.map_cons,List.map_nil,List.sum_append,List.sum_cons,List.sum_nil];omega
theorem qaq (L:List TermM):L.length≤sizes L:=by
 induction L with
 | nil=>simp
 | cons a l ih=>
  have:=qko a;simp only [sizes,List.map_cons,List.sum_cons,List.length_cons] at ih ⊢;omega
theorem qah {l:List TermM}:∀ {j:Nat},j<l.length→size (l.getD j default)≤sizes l:=by
 induction l with
 | nil=>intro j h;simp at h
 | cons a l ih=>
  intro j h;simp only [sizes,List.map_cons,List.sum_cons] at ih ⊢;cases j with
  | zero=>simp
  | succ j=>
   have:=ih (j:=j) (by simpa using h);rw [List.getD_cons_succ];omega
theorem qqb {n:Nat}(hS:∀ k,n=k+1→SzS k):SzS n:=by
 intro L v w lo h m hm av;obtain ⟨N,hN⟩:=e_ (L.length);obtain ⟨A,c,rfl,h⟩:=HasR.shape h hN.symm;have hl:=h.len.2.1;have HH:=z_ h;have HN:=z_ hN;have HS:=z_ hS;clear h hN hS;by_cases an:m-(N:Int)<0
 ·go_enter Tryz.func35,Tryz.ntmps35
  go_wp2;go_ret;exact ⟨-1,rfl,fun h=>by omega,by omega,by omega,Below.refl _ _⟩
 ·have ab:(N:Int)≤m:=o_
  go_enter Tryz.func35,Tryz.ntmps35
  go_wp2;go_loopw [1,5] (fun v i wr=>∃ (k:Nat) (r:Int),k≤N∧i=.int .i64 k∧v=.int .i64 r∧0≤r∧r≤1048576∧Hid (r+(N-k)+sizes (L.take k)≤m)∧Below w.heap.size w wr) (fun _ i _=>N-(intOf i).toNat)
  case atStart=>exact ⟨0,_,y_,rfl,rfl,by omega,by omega,z_ (by have:sizes (L.take 0)=0:=rfl;omega),Below.refl _ _⟩
  case round=>
   obtain ⟨k,r,hk,rfl,rfl,ao,ai,aj,aa⟩:=hrel;by_cases hlt:k<N
   ·obtain ⟨k',g,o,A2,c2,ap,rfl,_,hg,ae,af,ag,ac,hh,ab,_,_⟩:=qaj HH.out hlt
    rw [← aa.cell (p:=⟨g,o+k*4,none⟩) hg] at ae;rw [← aa.cell (p:=⟨g,o+k*4+1,none⟩) hg] at af;rw [← aa.cell (p:=⟨g,o+k*4+2,none⟩) hg] at ag;rw [← aa.cell (p:=⟨g,o+k*4+3,none⟩) hg] at ac;have ad:=hh.below n_ aa;have ah:Hid (sizes (L.take (k+1))=sizes (L.take k)+size (L.getD k default)):=z_ (qji (by have:=HN.out;omega));obtain ⟨⟨op,l,s,ak⟩,ht⟩:∃ t,t=L.getD k default:=⟨_,rfl⟩;rw [← ht] at ae af ag ac ad ab ah;rw [qb7] at ah;simp only [TermM.op,TermM.name,TermM.sort,TermM.args] at ae af ag ac ad ab;have HZ:=z_ (fun W (hW:Below wr.heap.size wr W) m h1 h2=>qmb (HS.out k' ap) op l s ak _ W ab (ad.below n_ hW) m h1 h2);obtain ⟨n2,al⟩:=e_ (ak.length);rw [← al] at ac HZ;clear hh ad al ht ab;go_wp2_with fail
    refine (HZ.out _ b_ r ao ai).mono ?_;rintro e w2 ⟨r2,rfl,hs,aw,aq,hb2⟩;have au:=z_ hs;clear hs;by_cases am:r2<0
    ·go_wp2
     go_ret;exact ⟨-1,rfl,fun h=>by omega,by omega,by omega,aa.trans (hb2.mono aa.size)⟩
    ·go_wp2
     go_roundw
     case rel=>exact ⟨k+1,r2,by omega,by go_num,rfl,by omega,aq,z_ (by have h1:=au.out o_;have h2:=aj.out;have h3:=ah.out;omega),aa.trans (hb2.mono aa.size)⟩
     case measure=>simp [intOf];omega
   ·obtain rfl:k=N:=o_
    have HE:Hid (r+sizes L≤m):=z_ (by have h2:=aj.out;rw [HN.out,List.take_length] at h2;omega);go_wp2;go_ret;exact ⟨r,rfl,fun _=>HE.out,by omega,ai,aa⟩
theorem qi0:∀ n,SzS n
 | 0=>qqb (fun k h=>by omega)
 | n+1=>qqb (fun k h=>Nat.succ.inj h ▸ qi0 n)
theorem qge {n:Nat}(op:Int)(l:List UInt8)(s:Int)(L:List TermM)(va:Value)(w:World){lo:Nat}(hl:l.length≤maxLen)(h:HasTs n lo w va L)(m:Int)(hm:0≤m)(aa:m≤1048576):
  Calls Tryz.prog 9 #[.agg #[.int .i64 op,.string (bstr l),.int .i64 s,va],.int .i64 m] w fun e w'=>∃ r:Int,e=.returned (.int .i64 r)∧(0≤r→r+sizes L≤m)∧-1≤r∧r≤1048576∧Below w.heap.size w w':=
 qmb (qi0 n) op l s L va w hl h m hm aa
theorem qkp {W w1:World}(hb:Below W.heap.size W w1):(∀ b o,b<W.heap.size→w1.cell? ⟨b,o,none⟩=W.cell? ⟨b,o,none⟩)∧(∀ b o,b<W.heap.size→w1.frozen? ⟨b,o,none⟩=W.frozen? ⟨b,o,none⟩):=
 ⟨fun b _ h=>hb.cell (p:=⟨b,_,none⟩) h,fun b _ h=>hb.frozen (p:=⟨b,_,none⟩) h⟩
theorem qa5 (w:World)(o:Obj)(g:Nat)(h:g=w.heap.size):(w.alloc o).heap[g]? =some o:=by subst h;show (w.heap.push o)[w.heap.size]? =_;simp
theorem qfj {ys:List Value}{p:Nat}{a b c d:Value}{i:Nat}(h:i<p∨p+4≤i):((((ys.set p a).set (p+1) b).set (p+2) c).set (p+3) d)[i]? =ys[i]? := by
 rw [List.getElem?_set_ne o_,List.getElem?_set_ne o_,List.getElem?_set_ne o_,List.getElem?_set_ne o_]
theorem qkq {ys:List Value}{p:Nat}{a b c d:Value}(h:p+4≤ys.length):((((ys.set p a).set (p+1) b).set (p+2) c).set (p+3) d)[p]? =some a∧((((ys.set p a).set (p+1) b).set (p+2) c).set (p+3) d)[p+1]? =some b∧
  ((((ys.set p a).set (p+1) b).set (p+2) c).set (p+3) d)[p+2]? =some c∧((((ys.set p a).set (p+1) b).set (p+2) c).set (p+3) d)[p+3]? =some d:=by
 refine ⟨?_,?_,?_,?_⟩
 ·rw [List.getElem?_set_ne o_,List.getElem?_set_ne o_,List.getElem?_set_ne o_,List.getElem?_set_self o_]
 ·rw [List.getElem?_set_ne o_,List.getElem?_set_ne o_,List.getElem?_set_self (by simp;omega)]
 ·rw [List.getElem?_set_ne o_,List.getElem?_set_self (by simp;omega)]
 ·rw [List.getElem?_set_self (by simp;omega)]
theorem qe1 {l:List Nat}{f g:Nat→List Nat}(h:∀ a∈l,f a=g a):l.flatMap f=l.flatMap g:=by
 rw [List.flatMap_def,List.flatMap_def,List.map_congr_left h]
def qcl (ys:List Value)(j:Nat)(t:TermM)(v:Value):Prop:=ys[j*4]? =some (.int .i64 t.op)∧ys[j*4+1]? =some (.string (bstr t.name))∧ys[j*4+2]? =some (.int .i64 t.sort)∧ys[j*4+3]? =some v
def Bnd (t:TermM):Prop:=t.name.length≤maxLen∧I64 t.op∧I64 t.sort
def Part (T:TypeId)(n B:Nat)(w:World)(ys:List Value)(L:List TermM)(j:Nat):Prop:=
 ∃ (vs:Nat→Value) (Ss:Nat→List Nat),((List.range j).flatMap Ss).Nodup∧∀ i,i<j→qcl ys i (L.getD i default) (vs i)∧Bnd (L.getD i default)∧OT T n B w (vs i) (L.getD i default).args (Ss i)
theorem Part.zero (T:TypeId)(n B:Nat)(w:World)(ys:List Value)(L:List TermM):Part T n B w ys L 0:=⟨fun _=>undef,fun _=>[],by simp,fun i hi=>by omega⟩
theorem Part.step {T:TypeId}{n B:Nat}{w w2 w3:World}{ys:List Value}{L:List TermM}{j g:Nat}{v2:Value}{S2:List Nat}{t:TermM}(h:Part T n B w ys L j)(ht:t=L.getD j default)(hb:Below w.heap.size w w2)
  (ho:OT T n w.heap.size w2 v2 t.args S2) (hB:B≤w.heap.size) (hc:Chg [g] w2 w3) (hg:g<B) (hl:j*4+4≤ys.length) (ab:Bnd t):
  Part T n B w3 ((((ys.set (j*4) (.int .i64 t.op)).set (j*4+1) (.string (bstr t.name))).set (j*4+2) (.int .i64 t.sort)).set (j*4+3) v2) L (j+1):=by
 subst ht;obtain ⟨vs,Ss,ac,hi⟩:=h;refine ⟨fun i=>if i=j then v2 else vs i,fun i=>if i=j then S2 else Ss i,?_,fun i ae=>?_⟩
 ·rw [List.range_succ,List.flatMap_append,qe1 (g:=Ss) (fun a ha=>by rw [if_neg (by have:=List.mem_range.1 ha;omega)])]
  simp only [List.flatMap_cons,List.flatMap_nil,List.append_nil,if_pos];refine List.nodup_append.2 ⟨ac,ho.nodup,fun a ha b hb2 e=>?_⟩;obtain ⟨q,hq,ad⟩:=List.mem_flatMap.1 ha;have h1:=((hi q (List.mem_range.1 hq)).2.2.lt a ad).2;have h2:=(ho.lt b hb2).1;omega
 ·show qcl _ i _ (if i=j then v2 else vs i)∧_∧OT T n B w3 (if i=j then v2 else vs i) _ (if i=j then S2 else Ss i)
  by_cases e:i=j
  ·subst e
   obtain ⟨a,b,c,d⟩:=qkq (a:=.int .i64 (L.getD i default).op) (b:=.string (bstr (L.getD i default).name)) (c:=.int .i64 (L.getD i default).sort) (d:=v2) hl;refine ⟨⟨a,b,c,by rw [if_pos rfl];exact d⟩,ab,?_⟩;rw [if_pos rfl,if_pos rfl];exact (ho.chg hc (fun k hk=>by have:=(ho.lt k hk).1;simp;omega)).mono hB
  ·obtain ⟨⟨a,b,c,d⟩,aa,h3⟩:=hi i o_
   rw [if_neg e,if_neg e];refine ⟨⟨?_,?_,?_,?_⟩,aa,?_⟩
   ·rw [qfj o_];exact a
   ·rw [qfj o_];exact b
   ·rw [qfj o_];exact c
   ·rw [qfj o_];exact d
   ·exact (h3.below hb).chg hc (fun k hk=>by have:=(h3.lt k hk).1;simp;omega)
theorem Part.done {T:TypeId}{n B lo:Nat}{w:World}{ys:List Value}{L:List TermM}{v:Value}(h:Part T n B w ys L L.length)(ho:w.ownsRow lo T 4 v L.length ys)(hv:∀ g,v.ownBlock=some g→g<B)(hB:lo≤B):∃ S,OT T (n+1) lo w v L S:=by
 obtain ⟨vs,Ss,aa,hi⟩:=h;refine ⟨_,ys,vs,Ss,ho,rfl,?_,fun j hj=>⟨(hi j hj).1,(hi j hj).2.1,(hi j hj).2.2.mono hB⟩⟩;refine List.nodup_append.2 ⟨?_,aa,fun a ha b hb2 e=>?_⟩
 ·cases v.ownBlock<;>simp
 ·obtain ⟨q,hq,ab⟩:=List.mem_flatMap.1 hb2
  have h1:=((hi q (List.mem_range.1 hq)).2.2.lt b ab).1;have h2:=hv a (by simpa using ha);omega
theorem qb3 {w w':World}{g:Nat}(h:Chg [g] w w')(j:Nat)(u:Value):Chg [g] w (w'.setCell ⟨g,j,none⟩ u):=h.trans (Chg.set (by simp) u)
theorem qb1:(Tryz.prog.info? 38).map (fun i=>(i.zero,i.size,i.bytes))=some (some (.agg #[.int .i64 0,.string { data:=#[] },.int .i64 0,.slice none 0 0]),4,56):=by kernel_rfl
def ToS (n:Nat):Prop:=∀ (L:List TermM) (v:Value) (w:World) (lo:Nat),HasTs n lo w v L→sizes L≤1048576→
 Calls Tryz.prog 43 #[v] w fun e w'=>∃ v' S,e=.returned v'∧OT 38 (n+1) w.heap.size w' v' L S∧Below w.heap.size w w'
theorem OT.shape {T:TypeId}{n lo:Nat}{w:World}{v:Value}{L:List TermM}{S:List Nat}(h:OT T (n+1) lo w v L S):∃ A c,v=.slice A L.length c:=by
 obtain ⟨xs,vs,Ss,ho,_⟩:=h;obtain ⟨A,c,e,_⟩:=qae ho;exact ⟨A,c,e⟩
theorem c4_ {p:Prop}(h:p:=by
 repeat (first|exact Below.refl _ _|refine Below.setCell ?_ (by first|(simp;done)|(simp;omega)) _|refine Below.alloc ?_ (by first|(simp;done)|(simp;omega)) _)
):p:=h
theorem qmc {n:Nat}(hT:ToS n)(op:Int)(l:List UInt8)(s:Int)(L:List TermM)(hL:sizes L≤1048576)(va:Value)(w:World){lo:Nat}(h:HasTs n lo w va L):
  Calls Tryz.prog 13 #[.agg #[.int .i64 op,.string (bstr l),.int .i64 s,va]] w fun e w'=>∃ v S,e=.returned (.agg #[.int .i64 op,.string (bstr l),.int .i64 s,v])∧OT 38 (n+1) w.heap.size w' v L S∧Below w.heap.size w w':=by
 have ad:=z_ (fun W (hW:Below w.heap.size w W)=>hT L va W lo (h.below n_ hW) hL);obtain ⟨A,ca,rfl,h'⟩:=HasR.shape h rfl;obtain ⟨k,hk⟩:=e_ (L.length);have HN:=z_ hk;rw [← hk] at ad ⊢;clear h h' hk;go_enter Tryz.func13,Tryz.ntmps13
 go_wp2_with fail
 refine (ad.out _ ?_).mono ?_
 ·exact c4_
 rintro e w1 ⟨v1,S1,rfl,ac,ab⟩;obtain ⟨A1,c1,rfl⟩:=OT.shape ac;rw [← HN.out] at ac ⊢;have ae:=z_ (ac.mono (lo':=w.heap.size+1+1+1) (by simp));have aa:w1.heap[w.heap.size+1]? =some (.cells #[.int .i64 0,.string { data:=#[] },.int .i64 0,.slice none 0 0] 38 (0,0)):=by
  rw [ab.block _ (by simp)];exact (Below.heap_alloc _ _ _ (by simp)).trans (qa5 _ _ _ (by simp))
 have d0:w1.cell? ⟨w.heap.size+1,0,none⟩=some (.int .i64 0):=h_ w1 _ 0 _ _ _ aa;have d1:w1.cell? ⟨w.heap.size+1,1,none⟩=some (.string { data:=#[] }):=h_ w1 _ 1 _ _ _ aa;have d2:w1.cell? ⟨w.heap.size+1,2,none⟩=some (.int .i64 0):=h_ w1 _ 2 _ _ _ aa;have d3:w1.cell? ⟨w.heap.size+1,3,none⟩=some (.slice none 0 0):=h_ w1 _ 3 _ _ _ aa;have e0:=g_ w1 _ 0 _ _ aa;have e1:=g_ w1 _ 1 _ _ aa;have e2:=g_ w1 _ 2 _ _ aa;have e3:=g_ w1 _ 3 _ _ aa;have af:Below w.heap.size w w1:=by
  refine Below.trans ?_ (ab.mono ?_)
  ·exact c4_
  ·simp;omega
 obtain ⟨ag,ah⟩:=qkp ab;have hz:w.heap.size+2<w1.heap.size:=by have:=ab.size;simp at this;omega
 clear ac aa ab;go_wp2;refine bodyPost_ret (v:=.agg #[.int .i64 op,.string (bstr l),.int .i64 s,.slice A1 k c1]) (by simp [results,Tryz.results13,go_sem,d0,d1,d2,d3]) rfl ⟨_,S1,rfl,?_,?_⟩
 ·refine OT.mono (lo:=w.heap.size+1+1+1) ?_ o_
  refine ae.out.chg (S':=[w.heap.size+1,w.heap.size+2]) ?_ (fun q hq=>by have:=(ae.out.lt q hq).1;simp;omega);refine Chg.trans ?_ (Chg.set (by simp) _);repeat (refine Chg.trans ?_ (Chg.set (by simp) _))
  exact Chg.refl _ _
 ·repeat (refine Below.setCell ?_ (by first|(simp;done)|(simp;omega)) _)
  exact af
theorem qqc {n:Nat}(hS:∀ k,n=k+1→ToS k):ToS n:=by
 intro L v w lo h hsz;obtain ⟨N,hN⟩:=e_ (L.length);obtain ⟨A,c,rfl,h⟩:=HasR.shape h hN.symm;obtain ⟨i0,hi,av,aw,ax⟩:=info_parts qb1;have aA:N≤1048576:=by have:=qaq L;omega
 have HH:=z_ h;have HN:=z_ hN;have HS:=z_ hS;have ay:=z_ hsz;clear h hN hS hsz;go_enter Tryz.func43,Tryz.ntmps43
 go_wp2_with (at_make;refine wpList_make_full _ rfl _ _ 36 rfl w.heap.size 38 i0 _ 4 Tryz.underlying36 hi av aw _ _ _ _ N rfl rfl rfl rfl (by rw [ax];omega) (by unfold maxLen;omega) n_ ?_)
 intro w1 hown ab;have af:w.heap.size<w1.heap.size:=by
  rcases hown.2 with ⟨hv,_⟩|⟨g,cap,cur,hv,hb,hg,_⟩
  ·cases hv
  ·have:=(q_ hg);omega
 go_wp2
 go_loopw [4] (fun i wr=>∃ (j:Nat) (ys:List Value),j≤N∧i=.int .i64 j∧wr.ownsRow w.heap.size 38 4 (.slice (some ⟨w.heap.size,0,none⟩) N N) N ys∧
   Hid (Part 38 n (w.heap.size+1) wr ys L j)∧w.heap.size<wr.heap.size∧Below w.heap.size w wr) (fun i _=>N-(intOf i).toNat)
 case atStart=>exact ⟨0,_,y_,rfl,hown,z_ (Part.zero _ _ _ _ _ _),af,b_.grown ab n_ (by intro k h;cases h)⟩
 case round=>
  obtain ⟨j,ys,hj,rfl,hown,HY,hsz,aa⟩:=hrel;by_cases hlt:j<N
  ·obtain ⟨k',g,o,A2,c2,ae,rfl,_,hg,ag,ah,ai,aj,hh,ak⟩:=qaj HH.out hlt
   rw [← aa.cell (p:=⟨g,o+j*4,none⟩) hg] at ag;rw [← aa.cell (p:=⟨g,o+j*4+1,none⟩) hg] at ah;rw [← aa.cell (p:=⟨g,o+j*4+2,none⟩) hg] at ai;rw [← aa.cell (p:=⟨g,o+j*4+3,none⟩) hg] at aj;have al:=hh.below n_ aa;have am:sizes (L.getD j default).args≤1048576:=by
    have h1:=ay.out;have h2:=qah (l:=L) (j:=j) (by have:=HN.out;omega);rw [← (L.getD j default).eta,qb7] at h2;omega
   obtain ⟨t,ht⟩:=e_ (L.getD j default);rw [← ht] at ag ah ai aj al ak am;have HT:=z_ (ae ▸ qmc (HS.out k' ae) t.op t.name t.sort t.args am _ wr al:Calls Tryz.prog 13 _ wr fun e w'=>∃ v S,e=.returned (.agg #[.int .i64 t.op,.string (bstr t.name),.int .i64 t.sort,v])∧OT 38 n wr.heap.size w' v t.args S∧Below wr.heap.size wr w');have HX:=z_ ht;have HB:=z_ ak;have ac:=z_ hown;obtain ⟨q,hq⟩:=e_ (t.args.length);obtain ⟨op,an⟩:=e_ (t.op);obtain ⟨nm,ao⟩:=e_ (t.name);obtain ⟨so,ap⟩:=e_ (t.sort);rw [← hq] at aj HT;rw [← an] at ag HT;rw [← ao] at ah HT;rw [← ap] at ai HT;have HE:=z_ (And.intro an (And.intro ao ap));have HK:=z_ ae;have HQ:=z_ hq;clear hh al ht hown ak hq an ao ap ae am;go_wp2_with fail
   refine (HT.out).mono ?_;rintro e w2 ⟨v2,S2,rfl,aq,hb2⟩;have ad:=z_ (qa2 ac.out hb2);have HV:=z_ aq;have az:=z_ hb2;obtain ⟨⟨v0,aB⟩,aC⟩:=qai ad.out (i:=j*4) o_;obtain ⟨⟨v1,aD⟩,aE⟩:=qai ad.out (i:=j*4+1) o_;obtain ⟨⟨aF,aG⟩,aH⟩:=qai ad.out (i:=j*4+2) o_;obtain ⟨⟨v3,aI⟩,aJ⟩:=qai ad.out (i:=j*4+3) o_;obtain ⟨A3,c3,au⟩:∃ A c,v2=.slice A t.args.length c:=by
    have h:=aq;rw [HK.out] at h;exact OT.shape h
   rw [← HQ.out] at au;subst au;clear aq;go_wp2;go_roundw
   case rel=>
    refine ⟨j+1,_,by omega,by go_num,qa4 (qa4 (qa4 (qa4 ad.out (j*4) _) (j*4+1) _) (j*4+2) _) (j*4+3) _,z_ ?_,by simp [World.setCell];have:=hb2.size;omega,((((aa.trans (hb2.mono aa.size)).setCell n_ _).setCell n_ _).setCell n_ _).setCell n_ _⟩;have hlen:ys.length=N*4:=by have:=ac.out.1;omega
    obtain ⟨h1,h2,h3⟩:=HE.out;rw [h1,h2,h3];exact Part.step HY.out HX.out az.out HV.out o_ (qb3 (qb3 (qb3 (qb3 (Chg.refl _ _) _ _) _ _) _ _) _ _) (Nat.lt_succ_self _) o_ HB.out
   case measure=>simp [intOf];omega
  ·obtain rfl:j=N:=o_
   have HW:Hid (∃ S,OT 38 (n+1) w.heap.size wr (.slice (some ⟨w.heap.size,0,none⟩) j j) L S):=z_ (by
    have h1:=HY.out;rw [HN.out] at h1 hown;rw [HN.out]
    exact Part.done h1 hown (fun g hg=>by simp [Value.ownBlock] at hg;omega) o_)
   clear hown;go_wp2;go_ret;obtain ⟨S,hS⟩:=HW.out;exact ⟨_,S,rfl,hS,aa⟩
theorem qi1:∀ n,ToS n
 | 0=>qqc (fun k h=>by omega)
 | n+1=>qqc (fun k h=>Nat.succ.inj h ▸ qi1 n)
theorem qgf {n:Nat}(op:Int)(l:List UInt8)(s:Int)(L:List TermM)(hL:sizes L≤1048576)(va:Value)(w:World){lo:Nat}(h:HasTs n lo w va L):
  Calls Tryz.prog 13 #[.agg #[.int .i64 op,.string (bstr l),.int .i64 s,va]] w fun e w'=>∃ v S,e=.returned (.agg #[.int .i64 op,.string (bstr l),.int .i64 s,v])∧OT 38 (n+1) w.heap.size w' v L S∧Below w.heap.size w w':=
 qmc (qi1 n) op l s L hL va w h
end termt

namespace sigm
open sortm sortn sortp
structure OpM where
 name:List UInt8
 decls:List (List Int×Int)
 ass:Bool
 com:Bool
 unt:Int
instance:Inhabited OpM:=⟨⟨[],[],false,false,0⟩⟩
def inN (n:Nat)(x:Int):Bool:=decide (0≤x∧x<n)
def okD (n:Nat)(d:List Int×Int):Bool:=decide (d.1.length≤3)&&inN n d.2&&d.1.all (inN n)
def kD (κ:Int→Nat)(d:List Int×Int):List Nat×Nat:=(d.1.map κ,κ d.2)
def hd0 (D:List (List Int×Int)):List Int×Int:=D.getD 0 ([],0)
def qab (n:Nat)(κ:Int→Nat)(D:List (List Int×Int)):Bool:=
 decide (1≤D.length∧D.length≤4)&&D.all fun d=>okD n d&&decide (kD κ d=kD κ (hd0 D))
def qc2 (O:List OpM)(o:OpM):OpM:=O.getD (o.unt.toNat-1) default
def a0 (o:OpM):Int:=(hd0 o.decls).1.getD 0 0
def a1 (o:OpM):Int:=(hd0 o.decls).1.getD 1 0
def rs (o:OpM):Int:=(hd0 o.decls).2
def ar (o:OpM):Nat:=(hd0 o.decls).1.length
def qd2 (κ:Int→Nat)(o:OpM):Bool:=
 (!o.ass&&!o.com&&decide (o.unt=0)) || (decide (ar o=2)&&decide (κ (a0 o)=κ (a1 o))&&((!o.ass&&decide (o.unt=0)) || decide (κ (a0 o)=κ (rs o))))
def qds (κ:Int→Nat)(O:List OpM)(o:OpM):Bool:=
 decide (o.unt=0) || (decide (0≤o.unt∧o.unt≤O.length)&&decide (ar (qc2 O o)=0)&&decide (κ (rs (qc2 O o))=κ (rs o)))
def axOk (κ:Int→Nat)(O:List OpM)(o:OpM):Bool:=qd2 κ o&&qds κ O o
def nms (O:List OpM):List (List UInt8):=O.map (·.name)
theorem ql2 (O:List OpM):(nms O).length=O.length:=by simp [nms]
theorem qic (O:List OpM)(k:Nat)(h:k<O.length):(nms O).getD k []=(O.getD k default).name:=by
 simp [nms,List.getD,List.getElem?_eq_getElem h]
def qex (n:Nat)(κ:Int→Nat)(O:List OpM):Bool:=
 decide (O.length≤14)&&qb2 (nms O) O.length&&(O.all fun o=>qab n κ o.decls)&&O.all (axOk κ O)
def ql3 (n:Nat)(κ κ':Int→Nat):Prop:=∀ x y,inN n x=true→inN n y=true→(κ x=κ y↔κ' x=κ' y)
theorem qmp {n:Nat}{κ κ':Int→Nat}(h:ql3 n κ κ'):∀ l m:List Int,l.all (inN n)=true→m.all (inN n)=true→(l.map κ=m.map κ↔l.map κ'=m.map κ')
 | [],[],_,_=>by simp
 | [],_::_,_,_=>by simp
 | _::_,[],_,_=>by simp
 | a::l,b::m,h1,h2=>by
  simp only [List.all_cons,Bool.and_eq_true] at h1 h2;simp only [List.map_cons,List.cons.injEq];rw [h a b h1.1 h2.1,qmp h l m h1.2 h2.2]
theorem qxu {n:Nat}{κ κ':Int→Nat}(h:ql3 n κ κ'){d e:List Int×Int}(hd:okD n d=true)(he:okD n e=true):kD κ d=kD κ e↔kD κ' d=kD κ' e:=by
 simp only [okD,Bool.and_eq_true] at hd he;simp only [kD,Prod.mk.injEq];rw [qmp h _ _ hd.2 he.2,h _ _ hd.1.2 he.1.2]
theorem qAg {D:List (List Int×Int)}(h:1≤D.length):hd0 D∈D:=by
 match D,h with
 | d::D,_=>simp [hd0]
theorem qak {n:Nat}{κ:Int→Nat}{D:List (List Int×Int)}(h:qab n κ D=true):
  1≤D.length∧D.length≤4∧(∀ d∈D,okD n d=true∧kD κ d=kD κ (hd0 D))∧okD n (hd0 D)=true:=by
 simp only [qab,Bool.and_eq_true,decide_eq_true_eq,List.all_eq_true] at h;exact ⟨h.1.1,h.1.2,h.2,(h.2 _ (qAg h.1.1)).1⟩
theorem ql4 {n:Nat}{κ κ':Int→Nat}(h:ql3 n κ κ')(D:List (List Int×Int)):qab n κ D=qab n κ' D:=by
 have aa:∀ κ κ':Int→Nat,ql3 n κ κ'→qab n κ D=true→qab n κ' D=true:=by
  intro κ κ' h hd;obtain ⟨h1,h2,h3,h4⟩:=qak hd;simp only [qab,Bool.and_eq_true,decide_eq_true_eq,List.all_eq_true];exact ⟨⟨h1,h2⟩,fun d hd=>⟨(h3 d hd).1,(qxu h (h3 d hd).1 h4).1 (h3 d hd).2⟩⟩
 rw [Bool.eq_iff_iff];exact ⟨aa _ _ h,aa _ _ (fun x y hx hy=>(h x y hx hy).symm)⟩
theorem qaf {n:Nat}{d:List Int×Int}(h:okD n d=true):d.1.length≤3∧inN n d.2=true∧∀ k,k<d.1.length→inN n (d.1.getD k 0)=true:=by
 simp only [okD,Bool.and_eq_true,decide_eq_true_eq,List.all_eq_true] at h;refine ⟨h.1.1,h.1.2,fun k hk=>?_⟩;have:=h.2 _ (List.getElem_mem hk);simpa [List.getD,List.getElem?_eq_getElem hk] using this
def qqr (n:Nat)(O:List OpM):Prop:=∀ o∈O,okD n (hd0 o.decls)=true
theorem qmq {n:Nat}{κ κ':Int→Nat}(h:ql3 n κ κ'){o:OpM}(ho:okD n (hd0 o.decls)=true):qd2 κ o=qd2 κ' o:=by
 obtain ⟨h1,h2,h3⟩:=qaf ho;unfold qd2;by_cases hl:ar o=2
 ·have e0:inN n (a0 o)=true:=h3 0 (by unfold ar at hl;omega)
  have e1:inN n (a1 o)=true:=h3 1 (by unfold ar at hl;omega);have k1:decide (κ (a0 o)=κ (a1 o))=decide (κ' (a0 o)=κ' (a1 o)):=decide_eq_decide.2 (h _ _ e0 e1);have k2:decide (κ (a0 o)=κ (rs o))=decide (κ' (a0 o)=κ' (rs o)):=decide_eq_decide.2 (h _ _ e0 h2);rw [k1,k2]
 ·simp [hl]
theorem qsd {O:List OpM}{o:OpM}(h:¬ o.unt=0)(h1:0≤o.unt)(h2:o.unt≤O.length):qc2 O o∈O:=by
 have hk:o.unt.toNat-1<O.length:=o_;unfold qc2;rw [List.getD_eq_getElem?_getD,List.getElem?_eq_getElem hk];exact List.getElem_mem hk
theorem qmr {n:Nat}{κ κ':Int→Nat}(h:ql3 n κ κ'){O:List OpM}(hO:qqr n O){o:OpM}(ho:o∈O):qds κ O o=qds κ' O o:=by
 unfold qds;by_cases h0:o.unt=0
 ·simp [h0]
 ·by_cases h1:0≤o.unt∧o.unt≤O.length
  ·have hu:=hO _ (qsd h0 h1.1 h1.2)
   have k:decide (κ (rs (qc2 O o))=κ (rs o))=decide (κ' (rs (qc2 O o))=κ' (rs o)):=decide_eq_decide.2 (h _ _ (qaf hu).2.1 (qaf (hO _ ho)).2.1);rw [k]
  ·simp [h1]
theorem qjo {n:Nat}{κ κ':Int→Nat}(h:ql3 n κ κ'){O:List OpM}(hO:qqr n O){o:OpM}(ho:o∈O):axOk κ O o=axOk κ' O o:=by
 rw [axOk,axOk,qmq h (hO _ ho),qmr h hO ho]
theorem qms {n:Nat}{κ:Int→Nat}{O:List OpM}(h:(O.all fun o=>qab n κ o.decls)=true):qqr n O:=by
 intro o ho;rw [List.all_eq_true] at h;exact (qak (h o ho)).2.2.2
theorem qoq {n:Nat}{κ κ':Int→Nat}(h:ql3 n κ κ')(O:List OpM):qex n κ O=qex n κ' O:=by
 unfold qex;have e:(O.all fun o=>qab n κ o.decls)=(O.all fun o=>qab n κ' o.decls):=by simp only [ql4 h]
 cases hd:(O.all fun o=>qab n κ o.decls) with
 | false=>rw [← e,hd];simp
 | true=>
  have hO:=qms hd;have e2:O.all (axOk κ O)=O.all (axOk κ' O):=by
   rw [Bool.eq_iff_iff];simp only [List.all_eq_true];exact ⟨fun h' o ho=>(qjo h hO ho) ▸ h' o ho,fun h' o ho=>(qjo h hO ho).symm ▸ h' o ho⟩
  rw [← e,hd,e2]
def κC (n:Nat)(Q:List (Int×Int))(x:Int):Nat:=(clo n (both (prs Q))).getD x.toNat 0
def κK (n:Nat)(Q:List (Int×Int))(x:Int):Nat:=(kin n (prs Q)).getD x.toNat 0
theorem qqs {n:Nat}{Q:List (Int×Int)}(hQ:PIn n Q):ql3 n (κC n Q) (κK n Q):=by
 intro x y hx hy;simp only [inN,decide_eq_true_eq] at hx hy;obtain ⟨i,rfl⟩:∃ i:Nat,x=(i:Int):=⟨x.toNat,by omega⟩;obtain ⟨j,rfl⟩:∃ j:Nat,y=(j:Int):=⟨y.toNat,by omega⟩;have hi:i<n:=o_;have hj:j<n:=o_;have hP:=hQ.inR;have hB:=qgj hP;simp only [κC,κK,Int.toNat_natCast];obtain ⟨p1,p2,p3⟩:=qqp hP hi;obtain ⟨q1,q2,q3⟩:=qqp hP hj;constructor
 ·intro h
  have k1:=(qgi hB hi _).2 ⟨p1,p2⟩;have k2:=(qgi hB hj _).2 ⟨q1,q2⟩;rw [h] at k1;rw [← h] at k2;have:=q3 _ ((qgi hB hj _).1 k1).2;have:=p3 _ ((qgi hB hi _).1 k2).2;omega
 ·intro h
  rw [← h] at q2;have aa:rea (both (prs Q)) n i j=true:=qfn hB hj p2 (qqo hP hj p1 q2);have ab:rea (both (prs Q)) n j i=true:=qqo hP hi hj aa;refine Nat.eq_of_testBit_eq fun b=>?_
  rw [Bool.eq_iff_iff,qgi hB hi,qgi hB hj];exact ⟨fun h=>⟨h.1,qfn hB h.1 ab h.2⟩,fun h=>⟨h.1,qfn hB h.1 aa h.2⟩⟩
def qad (P:List (List UInt8))(Q:List (Int×Int))(O:List OpM):Bool:=okS P Q&&qex P.length (κK P.length Q) O
theorem qAh (P:List (List UInt8))(Q:List (Int×Int))(O:List OpM):qad P Q O=(okS P Q&&qex P.length (κC P.length Q) O):=by
 unfold qad;cases h:okS P Q with
 | false=>rfl
 | true=>rw [qoq (qqs (qax h).2.2.1)]
theorem qa9 {P:List (List UInt8)}{Q:List (Int×Int)}{O:List OpM}(h:qad P Q O=true):
  okS P Q=true∧O.length≤14∧qb2 (nms O) O.length=true∧(∀ o∈O,qab P.length (κK P.length Q) o.decls=true)∧∀ o∈O,axOk (κK P.length Q) O o=true:=by
 simp only [qad,qex,Bool.and_eq_true,List.all_eq_true,decide_eq_true_eq] at h;exact ⟨h.1,h.2.1.1.1,h.2.1.1.2,h.2.1.2,h.2.2⟩
theorem qxv {N:List (List UInt8)}{x:List UInt8}{k:Nat}(hk:k<N.length)(h:x ∉ N.take k)(h2:¬ N.getD k []=x):x ∉ N.take (k+1):=by
 rw [List.take_succ_eq_append_getElem hk];have h3:N.getD k []=N[k]:=by simp [List.getD,List.getElem?_eq_getElem hk]
 rw [h3] at h2;simp only [List.mem_append,List.mem_singleton,not_or];exact ⟨h,fun e=>h2 e.symm⟩
end sigm

namespace sorti
open mem split subs sortn setm sets sortm sortp
def Lim (U:List Nat):Prop:=U.length≤8∧∀ i,U.getD i 0<2 ^ U.length
theorem Lim.lt {U:List Nat}(h:Lim U)(i:Nat):U.getD i 0<65536:=w_ (h.2 i) (Nat.le_trans (Nat.pow_le_pow_right (n:=2) (by decide) h.1) (by decide))
theorem pow8 {n:Nat}(h:n≤8):2 ^ n≤256:=Nat.le_trans (Nat.pow_le_pow_right (n:=2) (by decide) h) (by decide)
theorem Lim.nil:Lim []:=⟨by simp,fun i=>by simp⟩
theorem c28_ {p:Prop}(h:p:=by
 go_round
 case rel=>exact ⟨l+1,by omega,by go_num,ab⟩
 case measure=>simp [intOf];omega
):p:=h
theorem qja (U:List Nat)(hU:Lim U)(v:Value)(r:Bool)(hr:circ U.length U=r)(w:World)(hM:MapU w v U):
  Calls Tryz.prog 150 #[v] w fun e w'=>e=.returned (.bool r)∧w=w':=by
 have hlen:=hM.len;have HM:=z_ hM;have HR:=z_ hr;have HU:=z_ hU;obtain ⟨n,hn⟩:=e_ (U.length);rw [← hn] at hlen;have al:n≤8:=by rw [hn];exact hU.1
 have HN:=z_ hn;clear hM hr hU hn;go_enter Tryz.func150,Tryz.ntmps150
 go_wp2;go_loop [7] (fun i=>∃ h:Nat,h≤n∧i=.int .i64 h∧Hid (∀ a b,a<h→b<a→¬ ((U.getD b 0).testBit a=true∧(U.getD a 0).testBit b=true))) (fun i=>n-(intOf i).toNat)
 case atStart=>exact ⟨0,y_,rfl,z_ (fun a b h=>by omega)⟩
 case round=>
  obtain ⟨h,hh,rfl,HX⟩:=hrel;by_cases hlt:h<n
  ·go_wp2
   go_loop [11] (fun i=>∃ l:Nat,l≤h∧i=.int .i64 l∧Hid (∀ b,b<l→¬ ((U.getD b 0).testBit h=true∧(U.getD h 0).testBit b=true))) (fun i=>h-(intOf i).toNat)
   case atStart=>exact ⟨0,y_,rfl,z_ (fun b h=>by omega)⟩
   case round=>
    obtain ⟨l,hl,rfl,HY⟩:=hrel;by_cases aa:l<h
    ·have k1:=HM.out.look (x:=(l:Int)) o_ o_
     have k2:=HM.out.look (x:=(h:Int)) o_ o_;rw [qgm] at k1 k2;have ad:=z_ (fun b hb W=>qce (U.getD l 0) h (HU.out.lt l) o_ b hb W);have ag:=z_ (fun b hb W=>qce (U.getD h 0) l (HU.out.lt h) o_ b hb W);have HT:Hid ((U.getD l 0).testBit h=true→(U.getD h 0).testBit l=true→r=true):=z_ (fun e1 e2=>by rw [← HR.out];exact qmo (by have:=HN.out;omega) aa e1 e2)
     have HF:Hid (¬ ((U.getD l 0).testBit h=true∧(U.getD h 0).testBit l=true)→∀ b,b<l+1→¬ ((U.getD b 0).testBit h=true∧(U.getD h 0).testBit b=true)):=z_ (fun e b hb=>by
      by_cases ah:b=l
      ·subst ah;exact e
      ·exact HY.out b o_)
     obtain ⟨s,hs⟩:=e_ (U.getD l 0);obtain ⟨t,ht⟩:=e_ (U.getD h 0);rw [← hs] at k1 ad;rw [← ht] at k2 ag;rw [← hs,← ht] at HT;have ae:Hid (s<65536):=z_ (by rw [hs];exact HU.out.lt l);have af:Hid (t<65536):=z_ (by rw [ht];exact HU.out.lt h);have ai:=z_ hs;have aj:=z_ ht;clear hs ht;cases h1:s.testBit h with
     | false=>
      have HD:=z_ (ad.out false h1);have ab:=z_ (HF.out (by rw [← ai.out,h1];simp));clear h1;go_wp2_with (go_at_call 153;refine (HD.out _).mono ?_;rintro e w1 ⟨rfl,rfl⟩)
      exact c28_
     | true=>
      have HD:=z_ h1;cases h2:t.testBit l with
      | false=>
       have ac:=z_ h2;have ab:=z_ (HF.out (by rw [← aj.out,h2];simp));clear h1 h2;go_wp2_with (go_at_call 153;refine (qce _ _ (by first|exact ae.out|exact af.out) o_ _ (by first|exact HD.out|exact ac.out) _).mono ?_;rintro e w1 ⟨rfl,rfl⟩)
       exact c28_
      | true=>
       have ac:=z_ h2;have HQ:=z_ (HT.out h1 h2);clear h1 h2;go_wp2_with (go_at_call 153;refine (qce _ _ (by first|exact ae.out|exact af.out) o_ _ (by first|exact HD.out|exact ac.out) _).mono ?_;rintro e w1 ⟨rfl,rfl⟩)
       go_ret;exact ⟨qa0 HQ.out.symm,rfl⟩
    ·obtain rfl:l=h:=o_
     go_wp2;go_round
     case rel=>
      refine ⟨l+1,by omega,by go_num,z_ (fun a b ha hb=>?_)⟩;by_cases ak:a=l
      ·subst ak;exact HY.out b hb
      ·exact HX.out a b o_ hb
     case measure=>simp [intOf];omega
  ·obtain rfl:h=n:=o_
   have HQ:Hid (r=false):=z_ (by rw [← HR.out];exact qjk (fun a b ha hb=>HX.out a b (by have:=HN.out;omega) hb));go_wp2;go_ret;exact ⟨qa0 HQ.out.symm,rfl⟩
theorem qid (U:List Nat)(v:Value)(x:Int)(h1:-9223372036854775808≤x)(h2:x≤9223372036854775807)(r:Bool)(hr:decide (0≤x∧x<U.length)=r)(w:World)(hM:MapU w v U):
  Calls Tryz.prog 188 #[v,.int .i64 x] w fun e w'=>e=.returned (.bool r)∧w=w':=by
 have hl:=hM.look_ok h1 h2;rw [hr] at hl;clear hM hr;go_enter Tryz.func188,Tryz.ntmps188
 go_wp2;go_ret;exact ⟨rfl,rfl⟩
theorem qat (E:List Nat)(j:Nat):(nats E).getD j 0=((E.getD j 0:Nat):Int):=by
 simp only [nats,List.getD,List.getElem?_map];cases E[j]? <;> simp
theorem qCp (E:List Nat)(k:Nat)(h:k<E.length):E.take (k+1)=E.take k++[E.getD k 0]:=by
 rw [List.take_succ_eq_append_getElem h];simp [List.getD,List.getElem?_eq_getElem h]
theorem qBy {S j:Nat}(h:j<(els S).length):(els S).getD j 0<16:=by
 have hm:(els S).getD j 0∈els S:=by
  simp only [List.getD,List.getElem?_eq_getElem h,Option.getD_some];exact List.getElem_mem h
 exact (qkn.1 hm).1
def qgo (Q:List (Int×Int)):List (Int×Int):=Q.flatMap fun p=>[p,(p.2,p.1)]
theorem qul (Q:List (Int×Int)):(qgo Q).length=2*Q.length:=by
 induction Q with
 | nil=>rfl
 | cons p Q ih=>simp [qgo] at ih ⊢;omega
theorem qum (Q:List (Int×Int)):prs (qgo Q)=both (prs Q):=by
 induction Q with
 | nil=>rfl
 | cons p Q ih=>simp [qgo,prs,both] at ih ⊢;exact ih
theorem qun {n:Nat}{Q:List (Int×Int)}(h:PIn n Q):PIn n (qgo Q):=by
 intro q hq;obtain ⟨p,hp,aa⟩:=List.mem_flatMap.1 hq;simp only [List.mem_cons,List.not_mem_nil,or_false] at aa;rcases aa with rfl|rfl
 ·exact h _ hp
 ·exact ⟨(h p hp).2,(h p hp).1⟩
theorem qse (Q:List (Int×Int))(k:Nat)(h:k<Q.length):qgo (Q.take (k+1))=qgo (Q.take k)++[((Q.getD k (0,0)).1,(Q.getD k (0,0)).2),((Q.getD k (0,0)).2,(Q.getD k (0,0)).1)]:=by
 rw [qAd Q k h,qgo,List.flatMap_append];simp [qgo]
theorem qsf (w:World)(a b c d:Value)(t:TypeId):∀ (j:Nat) (x:Value),[a,b,c,d][j]? =some x→(w.alloc (.cells #[a,b,c,d] t)).cell? ((⟨w.heap.size,0,none⟩:Addr).add j)=some x:=by
 intro j x hj;match j,hj with
 | 0,hj=>simp at hj;subst hj;simp [Addr.add]
 | 1,hj=>simp at hj;subst hj;simp [Addr.add]
 | 2,hj=>simp at hj;subst hj;simp [Addr.add]
 | 3,hj=>simp at hj;subst hj;simp [Addr.add]
theorem qcv (a b c d:Int):∀ x∈([.int .i64 a,.int .i64 b,.int .i64 c,.int .i64 d]:List Value),x.oneCell'=true:=by
 intro x hx;simp at hx;rcases hx with rfl|rfl|rfl|rfl<;>rfl
theorem qfs (Q:List (Int×Int))(hQ:Q.length≤16)(v:Value)(w:World)(h:HasP w v Q):
  Calls Tryz.prog 215 #[v] w fun e w'=>∃ v',e=.returned v'∧HasP w' v' (qgo Q)∧Below w.heap.size w w':=by
 obtain ⟨i0,hi,ai,aj,ak⟩:=info_parts qqf;obtain ⟨m,hm⟩:=e_ (Q.length);obtain ⟨A,c,rfl,h⟩:=h.shape hm.symm;have hl:=h.len.2;rw [← hm] at hQ;have HH:=z_ h;have HM:=z_ hm;clear h hm;go_enter Tryz.func215,Tryz.ntmps215
 go_wp2_with (at_make;refine wpList_make_own _ rfl _ _ 41 rfl w.heap.size 201 i0 _ 2 Tryz.underlying41 hi ai aj _ _ _ (2*m) rfl rfl (by go_num) (by rw [ak];omega) (by unfold maxLen;omega) n_ ?_)
 intro w1 hown ae;have al:Below w.heap.size w w1:=(Below.refl w.heap.size w).grown ae n_ (by intro k hk;cases hk);clear ae;go_wp2;go_loopw [3,12] (fun v i wr=>∃ k:Nat,k≤m∧i=.int .i64 k∧wr.ownsRow w.heap.size 201 2 v (2*k) (pcs (qgo (Q.take k)))∧Below w.heap.size w wr) (fun _ i _=>m-(intOf i).toNat)
 case atStart=>exact ⟨0,y_,rfl,hown,al⟩
 case round=>
  obtain ⟨k,hk,rfl,ab,aa⟩:=hrel;clear hown;have HO:=z_ (qb4 ab);by_cases hlt:k<m
  ·obtain ⟨g,o,rfl,hg,hcell,ac⟩:=HH.out.cellAt hlt
   rw [← aa.cell (p:=⟨g,o+k*2,none⟩) hg] at hcell;rw [← aa.cell (p:=⟨g,o+k*2+1,none⟩) hg] at ac;have HB:=z_ (qse Q k (by have:=HM.out;omega));obtain ⟨x,hx⟩:=e_ ((Q.getD k (0,0)).1);obtain ⟨y,hy⟩:=e_ ((Q.getD k (0,0)).2);rw [← hx] at hcell HB;rw [← hy] at ac HB;have ah:=z_ ab;clear hx hy ab;go_wp2_with (at_builtin;refine wpList_append_own _ rfl _ _ 41 rfl w.heap.size 201 i0 _ 2 16 Tryz.underlying41 hi ai aj ak rfl (by decide) _ _ _ rfl (qa2 ah.out ?_) ⟨wr.heap.size+1,0,none⟩ 2 2 [.int .i64 x,.int .i64 y,.int .i64 y,.int .i64 x] rfl rfl ?_ (qcv _ _ _ _) (by unfold maxLen;omega) o_ (by have:=aa.size;simp;omega) ?_)
   ·repeat (first|exact Below.refl _ _|refine Below.setCell ?_ (by simp) _|refine Below.alloc ?_ (by simp) _)
   ·intro j u hj
    have:=qsf (wr.alloc (.cells #[.int .i64 x,.int .i64 y] 201)) _ _ _ _ 201 j u hj;simpa using this
   intro v2 w2 af ad _;have am:Below w.heap.size w w2:=Below.grown (w:=_) (by repeat (first|exact aa|refine Below.alloc ?_ (by first|exact aa.size|(have:=aa.size;simp;omega)) _)) ad (by have:=aa.size;simp;omega) HO.out;have ag:w2.ownsRow w.heap.size 201 2 v2 (2*(k+1)) (pcs (qgo (Q.take (k+1)))):=by
    rw [HB.out,qjj,show 2*(k+1)=2*k+2 by omega];exact af
   clear af ad aa;go_wp2;go_roundw
   case rel=>exact ⟨k+1,by omega,by go_num,ag,am⟩
   case measure=>simp [intOf];omega
  ·obtain rfl:k=m:=o_
   go_wp2;go_ret;refine ⟨_,rfl,?_,aa⟩;have h1:=HasP.of_own ab;rw [List.take_of_length_le (by have:=HM.out;omega)] at h1;exact h1
def ordU (P:List (List UInt8))(Q:List (Int×Int)):List Nat:=if okS P Q then clo P.length (prs Q) else []
theorem qxw (P:List (List UInt8))(Q:List (Int×Int)):Lim (ordU P Q):=by
 unfold ordU;split
 ·rename_i h
  obtain ⟨h1,h2,h3,h4,h5⟩:=qax h;exact ⟨by rw [qc3];exact h2,fun i=>by rw [qc3];exact qqm h3.inR i⟩
 ·exact Lim.nil
theorem ql5 {P:List (List UInt8)}{Q:List (Int×Int)}(h:okS P Q=true):ordU P Q=clo P.length (prs Q):=by rw [ordU,if_pos h]
theorem qor {P:List (List UInt8)}{Q:List (Int×Int)}(h:okS P Q=false):ordU P Q=[]:=by rw [ordU,if_neg (by simp [h])]
structure HasS (w:World) (va vb:Value) (P:List (List UInt8)) (Q:List (Int×Int)):Prop where
 a:Has w va (ssv P)
 b:HasP w vb Q
 short:∀ k,k<P.length→(P.getD k []).length≤maxLen
 in64:In64 Q
theorem HasS.below {w w':World}{va vb:Value}{P:List (List UInt8)}{Q:List (Int×Int)}(h:HasS w va vb P Q){B:Nat}(hB:w.heap.size≤B)(hb:Below B w w'):HasS w' va vb P Q:=⟨h.a.below hB hb,h.b.below hB hb,h.short,h.in64⟩
theorem HasS.shape {w:World}{va vb:Value}{P:List (List UInt8)}{Q:List (Int×Int)}(h:HasS w va vb P Q):
  ∃ A ca B cb,va=.slice A P.length ca∧vb=.slice B Q.length cb∧P.length≤9223372036854775807∧Q.length≤9223372036854775807∧HasS w (.slice A P.length ca) (.slice B Q.length cb) P Q:=by
 obtain ⟨A,ca,rfl,ha⟩:=h.a.shape (qb9 P);obtain ⟨B,cb,rfl,hb⟩:=h.b.shape rfl;exact ⟨A,ca,B,cb,rfl,rfl,ha.len.2,hb.len.2,h⟩
theorem qft (P:List (List UInt8))(Q:List (Int×Int))(va vb:Value)(w:World)(h:HasS w va vb P Q):
  Calls Tryz.prog 90 #[.agg #[va,vb]] w fun e w'=>∃ mv,e=.returned mv∧MapU w' mv (ordU P Q)∧(okS P Q=true→∃ b,mv=.map (some b))∧(okS P Q=false→mv=.map none)∧Below w.heap.size w w':=by
 obtain ⟨A,ca,B,cb,rfl,rfl,ao,aw,h'⟩:=h.shape;have HH:=z_ h';have ak:=z_ (fun r hr W hW=>qkx P h'.short _ r hr W (h'.below n_ hW).a);clear h h';cases hn:qbt P with
 | false=>
  have aa:okS P Q=false:=by rw [okS,hn];rfl
  have HQ:Hid (ordU P Q=[]):=z_ (qor aa);have af:=z_ aa;have HN:=z_ (ak.out false hn);clear hn aa;go_enter Tryz.func90,Tryz.ntmps90
  go_wp2_with (go_at_call 147;refine (HN.out _ (b_.alloc n_ _)).mono ?_;rintro e w1 ⟨rfl,rfl⟩)
  go_ret;exact ⟨_,rfl,.inl ⟨rfl,HQ.out⟩,fun e=>(by rw [af.out] at e;cases e),fun _=>rfl,b_.alloc n_ _⟩
 | true=>
  have HN:=z_ (ak.out true hn);have hP:1≤P.length∧P.length≤8:=by simp only [qbt,Bool.and_eq_true,decide_eq_true_eq] at hn;exact hn.1
  obtain ⟨n,ad⟩:=e_ (P.length);rw [← ad] at ao hP HN HH ⊢;have ax:=z_ ad;have al:=z_ (fun r hr W hW=>qop n o_ Q HH.out.in64 _ r hr W (HH.out.below n_ hW).b);cases hs:qcu n Q with
  | false=>
   have aa:okS P Q=false:=by rw [okS,hn,← ad,hs];rfl
   have HQ:Hid (ordU P Q=[]):=z_ (qor aa);have af:=z_ aa;have ap:=z_ (al.out false hs);clear hn aa ad hs;go_enter Tryz.func90,Tryz.ntmps90
   go_wp2_with (first
    | (go_at_call 147;refine (HN.out _ (b_.alloc n_ _)).mono ?_;rintro e w1 ⟨rfl,rfl⟩)
    | (go_at_call 148;refine (ap.out _ (b_.alloc n_ _)).mono ?_;rintro e w1 ⟨rfl,ab⟩))
   go_ret;exact ⟨_,rfl,.inl ⟨rfl,HQ.out⟩,fun e=>(by rw [af.out] at e;cases e),fun _=>rfl,(b_.alloc n_ _).trans (ab.mono (by simp))⟩
  | true=>
   obtain ⟨ac,aq⟩:=qgl hs;have am:=z_ (al.out true hs);have an:=z_ (fun W hW=>qey n o_ Q o_ ac _ W (HH.out.below n_ hW).b);have ae:Lim (clo n (prs Q)):=⟨by rw [qc3];omega,fun i=>by rw [qc3];exact qqm ac.inR i⟩;have ai:=z_ (fun r hr v W hM=>qja (clo n (prs Q)) ae v r hr W hM);rw [qc3] at ai;have au:=z_ ac;have av:=z_ ae;cases hc:circ n (clo n (prs Q)) with
   | true=>
    have aa:okS P Q=false:=by rw [okS,hn,← ad,hs,hc];rfl
    have HQ:Hid (ordU P Q=[]):=z_ (qor aa);have af:=z_ aa;have aj:=z_ (ai.out true hc);clear hn aa ad hs hc ac ae;go_enter Tryz.func90,Tryz.ntmps90
    go_wp2_with (first
     | (go_at_call 147;refine (HN.out _ (b_.alloc n_ _)).mono ?_;rintro e w1 ⟨rfl,rfl⟩)
     | (go_at_call 148;refine (am.out _ (b_.alloc n_ _)).mono ?_;rintro e w1 ⟨rfl,ab⟩
        have ag:Below w.heap.size w w1:=(b_.alloc n_ _).trans (ab.mono (by simp));have c0:w1.cell? ⟨w.heap.size,0,none⟩=some (.slice A n ca):=by rw [ab.cell (p:=⟨w.heap.size,0,none⟩) (by simp)];simp
        have c1:w1.cell? ⟨w.heap.size,1,none⟩=some (.slice B Q.length cb):=by rw [ab.cell (p:=⟨w.heap.size,1,none⟩) (by simp)];simp
        clear ab)
     | (go_at_call 149;refine (an.out _ ag).mono ?_;rintro e w2 ⟨b,rfl,hM,hb2⟩;have ah:=z_ hM;clear hM)
     | (go_at_call 150;refine (aj.out _ _ ah.out).mono ?_;rintro e w3 ⟨rfl,rfl⟩))
    go_ret;exact ⟨_,rfl,.inl ⟨rfl,HQ.out⟩,fun e=>(by rw [af.out] at e;cases e),fun _=>rfl,ag.trans (hb2.mono ag.size)⟩
   | false=>
    have aa:okS P Q=true:=by rw [okS,hn,← ad,hs,hc];rfl
    have HQ:Hid (ordU P Q=clo n (prs Q)):=z_ (by rw [ql5 aa,ad]);have af:=z_ aa;have aj:=z_ (ai.out false hc);clear hn aa ad hs hc ac ae;go_enter Tryz.func90,Tryz.ntmps90
    go_wp2_with (first
     | (go_at_call 147;refine (HN.out _ (b_.alloc n_ _)).mono ?_;rintro e w1 ⟨rfl,rfl⟩)
     | (go_at_call 148;refine (am.out _ (b_.alloc n_ _)).mono ?_;rintro e w1 ⟨rfl,ab⟩
        have ag:Below w.heap.size w w1:=(b_.alloc n_ _).trans (ab.mono (by simp));have c0:w1.cell? ⟨w.heap.size,0,none⟩=some (.slice A n ca):=by rw [ab.cell (p:=⟨w.heap.size,0,none⟩) (by simp)];simp
        have c1:w1.cell? ⟨w.heap.size,1,none⟩=some (.slice B Q.length cb):=by rw [ab.cell (p:=⟨w.heap.size,1,none⟩) (by simp)];simp
        clear ab)
     | (go_at_call 149;refine (an.out _ ag).mono ?_;rintro e w2 ⟨b,rfl,hM,hb2⟩;have ah:=z_ hM;clear hM)
     | (go_at_call 150;refine (aj.out _ _ ah.out).mono ?_;rintro e w3 ⟨rfl,rfl⟩))
    go_ret;exact ⟨_,rfl,by rw [HQ.out];exact ah.out,fun _=>⟨_,rfl⟩,fun e=>(by rw [af.out] at e;cases e),ag.trans (hb2.mono ag.size)⟩
end sorti

namespace sigs
open mem subs setm sortp sorti rowl sigm
def RD:qhd (List Int×Int):=fun lo w cs d=>∃ va,cs=[va,.int .i64 d.2]∧HasL lo w va (ivs d.1)∧I64 d.2∧∀ x∈d.1,I64 x
theorem qa7:Steady RD:=⟨fun ⟨va,e,h,r⟩ hk=>⟨va,e,h.kept hk,r⟩,fun ⟨va,e,h,r⟩ hl=>⟨va,e,h.mono hl,r⟩⟩
abbrev HasD (lo:Nat)(w:World)(v:Value)(D:List (List Int×Int)):Prop:=HasR RD 2 lo w v D
theorem HasL.shape {lo:Nat}{w:World}{v:Value}{xs:List Value}(h:HasL lo w v xs){n:Nat}(hn:xs.length=n):∃ A c,v=.slice A n c∧HasL lo w (.slice A n c) xs:=by
 subst hn;obtain ⟨A,c,rfl,h'⟩:=h;exact ⟨A,c,rfl,A,c,rfl,h'⟩
theorem qba {lo:Nat}{w:World}{A:Option Addr}{n c:Nat}{D:List (List Int×Int)}(h:HasD lo w (.slice A n c) D){j:Nat}(hj:j<n):
  ∃ g o A2 c2,A=some ⟨g,o,none⟩∧lo≤g∧g<w.heap.size∧w.cell? ⟨g,o+j*2,none⟩=some (.slice A2 (D.getD j default).1.length c2)∧w.cell? ⟨g,o+j*2+1,none⟩=some (.int .i64 (D.getD j default).2)∧
   HasL lo w (.slice A2 (D.getD j default).1.length c2) (ivs (D.getD j default).1)∧I64 (D.getD j default).2∧∀ x∈(D.getD j default).1,I64 x:=by
 obtain ⟨g,o,cs,e,hl,hg,hc,va,rfl,hh,h1,h2⟩:=h.get hj;obtain ⟨A2,c2,rfl,aa⟩:=HasL.shape hh (qas _);exact ⟨g,o,A2,c2,e,hl,hg,hc 0 o_,hc 1 o_,aa,h1,h2⟩
def RO:qhd OpM:=fun lo w cs o=>∃ va,cs=[.string (bstr o.name),va,.bool o.ass,.bool o.com,.int .i64 o.unt]∧HasD lo w va o.decls∧o.name.length≤maxLen∧I64 o.unt
theorem qcn:Steady RO:=⟨fun ⟨va,e,h,r⟩ hk=>⟨va,e,h.kept qa7 hk,r⟩,fun ⟨va,e,h,r⟩ hl=>⟨va,e,h.mono qa7 hl,r⟩⟩
abbrev HasO (lo:Nat)(w:World)(v:Value)(O:List OpM):Prop:=HasR RO 5 lo w v O
theorem qcg {lo:Nat}{w:World}{A:Option Addr}{n c:Nat}{O:List OpM}(h:HasO lo w (.slice A n c) O){j:Nat}(hj:j<n):
  ∃ g o A2 c2,A=some ⟨g,o,none⟩∧lo≤g∧g<w.heap.size∧w.cell? ⟨g,o+j*5,none⟩=some (.string (bstr (O.getD j default).name))∧w.cell? ⟨g,o+j*5+1,none⟩=some (.slice A2 (O.getD j default).decls.length c2)∧
   w.cell? ⟨g,o+j*5+2,none⟩=some (.bool (O.getD j default).ass)∧w.cell? ⟨g,o+j*5+3,none⟩=some (.bool (O.getD j default).com)∧w.cell? ⟨g,o+j*5+4,none⟩=some (.int .i64 (O.getD j default).unt)∧
   HasD lo w (.slice A2 (O.getD j default).decls.length c2) (O.getD j default).decls∧(O.getD j default).name.length≤maxLen∧I64 (O.getD j default).unt:=by
 obtain ⟨g,o,cs,e,hl,hg,hc,va,rfl,hh,h1,h2⟩:=h.get hj;obtain ⟨A2,c2,rfl,aa⟩:=HasR.shape hh rfl;exact ⟨g,o,A2,c2,e,hl,hg,hc 0 o_,hc 1 o_,hc 2 o_,hc 3 o_,hc 4 o_,aa,h1,h2⟩
structure HasG (w:World) (va vb vc:Value) (P:List (List UInt8)) (Q:List (Int×Int)) (O:List OpM):Prop where
 s:HasS w va vb P Q
 o:HasO 0 w vc O
theorem HasG.below {w w':World}{va vb vc:Value}{P:List (List UInt8)}{Q:List (Int×Int)}{O:List OpM}(h:HasG w va vb vc P Q O){B:Nat}(hB:w.heap.size≤B)(hb:Below B w w'):HasG w' va vb vc P Q O:=⟨h.s.below hB hb,h.o.below qcn hB hb⟩
theorem HasG.shape {w:World}{va vb vc:Value}{P:List (List UInt8)}{Q:List (Int×Int)}{O:List OpM}(h:HasG w va vb vc P Q O):
  ∃ A ca B cb C cc,va=.slice A P.length ca∧vb=.slice B Q.length cb∧vc=.slice C O.length cc∧P.length≤9223372036854775807∧Q.length≤9223372036854775807∧O.length≤9223372036854775807∧
   HasG w (.slice A P.length ca) (.slice B Q.length cb) (.slice C O.length cc) P Q O:=by
 obtain ⟨A,ca,B,cb,rfl,rfl,h1,h2,hs⟩:=h.s.shape;obtain ⟨C,cc,rfl,ho⟩:=HasR.shape h.o rfl;exact ⟨A,ca,B,cb,C,cc,rfl,rfl,rfl,h1,h2,ho.len.2.1,hs,ho⟩
def SmD (D:List (List Int×Int)):Prop:=D.length≤1048576∧∀ j,j<D.length→(D.getD j default).1.length≤1048576
def SmO (O:List OpM):Prop:=O.length≤1048576∧∀ j,j<O.length→SmD (O.getD j default).decls
end sigs

namespace sortf
open mem split subs setm sortm sortp sorti
theorem qmt (P:List (List UInt8))(Q:List (Int×Int))(va vb:Value)(r:Bool)(hr:okS P Q=r)(w:World)(h:HasS w va vb P Q):
  Calls Tryz.prog 214 #[.agg #[va,vb]] w fun e w'=>e=.returned (.bool r)∧Below w.heap.size w w':=by
 have HO:=z_ (fun W hW=>qft P Q va vb W (h.below n_ hW));obtain ⟨A,ca,B,cb,rfl,rfl,ae,af,h'⟩:=h.shape;have ag:∀ (m:Option Nat) (W:World),(binOp .neq 89 (.map m) (.map none)).run Tryz.prog W=.ok (.bool (!m.isNone)) W:=fun m W=>run_neq_map_nil W 89 _ _ m Tryz.underlying89
 clear h h';subst hr;cases aa:okS P Q with
 | false=>
  have ac:=z_ aa;clear aa;go_enter Tryz.func214,Tryz.ntmps214
  go_wp2_with (go_at_call 90;refine (HO.out _ (b_.alloc n_ _)).mono ?_;rintro e w1 ⟨mv,rfl,hM,hy,ab,ad⟩;obtain rfl:=ab ac.out;clear hM hy ab)
  go_ret;exact ⟨rfl,(b_.alloc n_ _).trans (ad.mono (by simp))⟩
 | true=>
  have ac:=z_ aa;clear aa;go_enter Tryz.func214,Tryz.ntmps214
  go_wp2_with (go_at_call 90;refine (HO.out _ (b_.alloc n_ _)).mono ?_;rintro e w1 ⟨mv,rfl,hM,hy,ab,ad⟩;obtain ⟨b,rfl⟩:=hy ac.out;clear hM ab)
  go_ret;exact ⟨rfl,(b_.alloc n_ _).trans (ad.mono (by simp))⟩
theorem qCq {wr w0 w1:World}{p q:Addr}{a b:Value}(h:(w0.cell? p=some a∧w0.cell? q=some b)∧Below wr.heap.size wr w0)(hp:p.block<wr.heap.size∧q.block<wr.heap.size)(hb:Below w0.heap.size w0 w1):
  (w1.cell? p=some a∧w1.cell? q=some b)∧Below wr.heap.size wr w1:=by
 have hs:=h.2.size;exact ⟨⟨(hb.cell o_).trans h.1.1,(hb.cell o_).trans h.1.2⟩,h.2.trans (hb.mono hs)⟩
def qal (P:List (List UInt8))(Q:List (Int×Int)):List Nat:=if okS P Q then clo P.length (both (prs Q)) else []
theorem qgp (P:List (List UInt8))(Q:List (Int×Int)):(qal P Q).length=if okS P Q then P.length else 0:=by
 unfold qal;split
 ·rw [qc3]
 ·rfl
theorem ql6 (P:List (List UInt8))(Q:List (Int×Int))(va vb:Value)(w:World)(h:HasS w va vb P Q):
  Calls Tryz.prog 169 #[.agg #[va,vb]] w fun e w'=>∃ mv,e=.returned mv∧MapU w' mv (qal P Q)∧(okS P Q=true→∃ b,mv=.map (some b))∧(okS P Q=false→mv=.map none)∧Below w.heap.size w w':=by
 have ad:=z_ (fun r hr W hW=>qmt P Q va vb r hr W (h.below n_ hW));obtain ⟨A,ca,B,cb,rfl,rfl,aj,ak,h'⟩:=h.shape;have HH:=z_ h';clear h h';cases aa:okS P Q with
 | false=>
  have HQ:Hid (qal P Q=[]):=z_ (by rw [qal,aa];rfl);have ah:=z_ aa;have HI:=z_ (ad.out false aa);clear aa;go_enter Tryz.func169,Tryz.ntmps169
  go_wp2_with (go_at_call 214;refine (HI.out _ (b_.alloc n_ _)).mono ?_;rintro e w1 ⟨rfl,ab⟩)
  go_ret;exact ⟨_,rfl,.inl ⟨rfl,HQ.out⟩,fun e=>(by cases e),fun _=>rfl,(b_.alloc n_ _).trans (ab.mono (by simp))⟩
 | true=>
  obtain ⟨p1,p2,p3,p4,p5⟩:=qax aa;have HQ:Hid (qal P Q=clo P.length (both (prs Q))):=z_ (by rw [qal,if_pos aa]);have ah:=z_ aa;have HI:=z_ (ad.out true aa);have HB:=z_ (fun W hW=>qfs Q p4 _ W (HH.out.below n_ hW).b);have ae:=z_ (fun v W hW=>qey P.length o_ (qgo Q) (by rw [qul];omega) (qun p3) v W hW);rw [qum] at ae;clear aa p1 p2 p3 p4 p5;go_enter Tryz.func169,Tryz.ntmps169
  go_wp2_with fail
  refine (HI.out _ (b_.alloc n_ _)).mono ?_;rintro e w1 ⟨rfl,ab⟩;have ac:Below w.heap.size w w1:=(b_.alloc n_ _).trans (ab.mono (by simp));have c0:w1.cell? ⟨w.heap.size,0,none⟩=some (.slice A P.length ca):=by rw [ab.cell (p:=⟨w.heap.size,0,none⟩) (by simp)];simp
  have c1:w1.cell? ⟨w.heap.size,1,none⟩=some (.slice B Q.length cb):=by rw [ab.cell (p:=⟨w.heap.size,1,none⟩) (by simp)];simp
  have af:w.heap.size<w1.heap.size:=by have:=ab.size;simp at this;omega
  clear ab;go_wp2_with fail
  go_region_held3 (fun w'=>(w'.cell? ⟨w.heap.size,0,none⟩=some (.slice A P.length ca)∧w'.cell? ⟨w.heap.size,1,none⟩=some (.slice B Q.length cb))∧Below w1.heap.size w1 w')
   (first|(refine ⟨⟨?_,?_⟩,b_.drew⟩<;>assumption)|(go_split_ands;exact qCq (p:=⟨w.heap.size,0,none⟩) (q:=⟨w.heap.size,1,none⟩) ⟨⟨by assumption,by assumption⟩,by assumption⟩ ⟨af,af⟩ (by assumption)))
   (first
    | (go_at_call 215;go_split_ands;refine (HB.out _ (ac.trans (Below.mono (by assumption) ac.size))).mono ?_;rintro e w2 ⟨bv,rfl,ag,hb2⟩;have ai:=z_ ag;clear ag)
    | (go_at_call 149;go_split_ands;refine (ae.out _ _ ai.out).mono ?_;rintro e w3 ⟨b,rfl,hM,al⟩;have HM:=z_ hM;clear hM))
  go_wp2;have hh:(w3.cell? ⟨w.heap.size,0,none⟩=some (.slice A P.length ca)∧w3.cell? ⟨w.heap.size,1,none⟩=some (.slice B Q.length cb))∧Below w1.heap.size w1 w3:=by assumption
  go_ret;exact ⟨_,rfl,by rw [HQ.out];exact HM.out,fun _=>⟨_,rfl⟩,fun e=>(by cases e),ac.trans (hh.2.mono ac.size)⟩
end sortf

namespace sigt
open rowl
theorem qmx:(Tryz.prog.info? 199).map (fun i=>(i.zero,i.size,i.bytes))=some (some (.agg #[.slice none 0 0,.int .i64 0]),2,32):=by kernel_rfl
end sigt

namespace sigu
open mem rowl
theorem qoa {w:World}{g n cap base:Nat}{e:TypeId}{xs:List Value}(h:w.ownsRow base e 5 (.slice (some ⟨g,0,none⟩) n cap) n xs)(j:Nat)(u0 u1 u2 u3 u4:Value):
  (((((w.setCell ⟨g,j,none⟩ u0).setCell ⟨g,j+1,none⟩ u1).setCell ⟨g,j+2,none⟩ u2).setCell ⟨g,j+3,none⟩ u3).setCell ⟨g,j+4,none⟩ u4).ownsRow base e 5 (.slice (some ⟨g,0,none⟩) n cap) n (((((xs.set j u0).set (j+1) u1).set (j+2) u2).set (j+3) u3).set (j+4) u4):=
 qa4 (qa4 (qa4 (qa4 (qa4 h j u0) (j+1) u1) (j+2) u2) (j+3) u3) (j+4) u4
theorem qBo:(Tryz.prog.info? 124).map (fun i=>(i.zero,i.size,i.bytes))=some (some (.agg #[.string { data:=#[] },.slice none 0 0,.bool false,.bool false,.int .i64 0]),5,56):=by kernel_rfl
end sigu
end Go.Proofs.YtiilamngcoegiaaGreat
