
import Derived.Test.YtiilamngcoegiaaGreatQZc
import Derived.Test.YtiilamngcoegiaaGreatQPk03
import Derived.OwnWalk
import Derived.Deep.RegionHeld3
import Derived.Deep.QuietTactic
import Derived.BigQuiet
import Derived.OpenShut
import Derived.ChangeSlices
namespace Go.Proofs.YtiilamngcoegiaaGreat.subs
open Go.ChangeShapes Go.WideShapes Go.ChangeAt Go.RowKit
variable {w w1:World}{n base c j g cap:Nat}{Q:List (Int×Int)}{v:Value}{e:TypeId}{xs:List Value}{A:Option Addr}
open mem split strl join
def pcs (Q:List (Int×Int)):List Value:=Q.flatMap fun p=>[.int .i64 p.1,.int .i64 p.2]
theorem qjz (P Q:List (Int×Int)):pcs (P++Q)=pcs P++pcs Q:=by simp [pcs]
theorem qAk (Q:List (Int×Int)):(pcs Q).length=Q.length*2:=by
 induction Q with
 | nil=>rfl
 | cons p Q ih=>simp [pcs] at ih ⊢;omega
theorem qor:∀ (Q:List (Int×Int)) (j:Nat),j<Q.length→(pcs Q)[j*2]? =some (.int .i64 (Q.getD j (0,0)).1)∧(pcs Q)[j*2+1]? =some (.int .i64 (Q.getD j (0,0)).2)
 | [],_,h=>by simp at h
 | p::Q,0,_=>by simp [pcs]
 | p::Q,j+1,h=>by
  have ih:=qor Q j Bg_;have e:pcs (p::Q)=.int .i64 p.1::.int .i64 p.2::pcs Q:=by simp [pcs]
  rw [e,show (j+1)*2=j*2+1+1 by omega,List.getElem?_cons_succ,List.getElem?_cons_succ,List.getElem?_cons_succ,List.getElem?_cons_succ];simpa using ih
def In64 (Q:List (Int×Int)):Prop:=∀ p∈Q,(-9223372036854775808≤p.1∧p.1≤9223372036854775807)∧(-9223372036854775808≤p.2∧p.2≤9223372036854775807)
theorem In64.get (h:In64 Q)(j:Nat):(-9223372036854775808≤(Q.getD j (0,0)).1∧(Q.getD j (0,0)).1≤9223372036854775807)∧(-9223372036854775808≤(Q.getD j (0,0)).2∧(Q.getD j (0,0)).2≤9223372036854775807):=by
 by_cases hj:j<Q.length
 ·have:=h _ (List.getElem_mem hj)
  simpa [List.getD,List.getElem?_eq_getElem hj] using this
 ·have:Q.getD j (0,0)=(0,0):=by simp [List.getD,List.getElem?_eq_none (Nat.le_of_not_lt hj)]
  rw [this];simp
def HasP (w:World)(v:Value)(Q:List (Int×Int)):Prop:=
 ∃ A c,v=.slice A Q.length c∧Q.length≤c∧c≤maxLen∧∀ j,j<Q.length→∃ g o,A=some ⟨g,o,none⟩∧g<w.heap.size∧w.cell? ⟨g,o+j*2,none⟩=some (.int .i64 (Q.getD j (0,0)).1)∧w.cell? ⟨g,o+j*2+1,none⟩=some (.int .i64 (Q.getD j (0,0)).2)
theorem HasP.below{w':World}(h:HasP w v Q){B:Nat}(hB:w.heap.size≤B)(hb:Below B w w'):HasP w' v Q:=by
 obtain ⟨A,c,rfl,h1,h2,h3⟩:=h;refine ⟨A,c,rfl,h1,h2,fun j hu=>?_⟩;obtain ⟨g,o,e,hg,hc,aa⟩:=h3 j hu;exact ⟨g,o,e,w_ hg hb.size,(hb.cell (p:=⟨g,o+j*2,none⟩) (by show g<B;omega)).trans hc,(hb.cell (p:=⟨g,o+j*2+1,none⟩) (by show g<B;omega)).trans aa⟩
theorem HasP.of_own (h:w.ownsRow base e 2 v n (pcs Q)):HasP w v Q:=by
 have hl:Q.length=n:=by have h1:=h.1;rw [qAk] at h1;omega
 rcases h.2 with ⟨rfl,rfl⟩|⟨g,cap,cur,rfl,hb,hg,hnc,hcm,hcs,htake⟩
 ·have:Q=[]:=List.eq_nil_of_length_eq_zero hl
  subst this;exact ⟨none,0,rfl,Nat.le_refl _,by unfold maxLen;omega,fun j hu=>by simp at hu⟩
 ·refine ⟨_,cap,by rw [hl],by omega,hcm,fun j hu=>⟨g,0,rfl,(q_ hg),?_,?_⟩⟩
  ·rw [Nat.zero_add,h.cellAt (j*2) o_];exact (qor Q j hu).1
  ·rw [Nat.zero_add,h.cellAt (j*2+1) o_];exact (qor Q j hu).2
theorem HasP.shape (h:HasP w v Q)(hn:Q.length=n):∃ A c,v=.slice A n c∧HasP w (.slice A n c) Q:=by
 subst hn;obtain ⟨A,c,rfl,h'⟩:=h;exact ⟨A,c,rfl,A,c,rfl,h'⟩
theorem HasP.len (h:HasP w (.slice A n c) Q):n=Q.length∧n≤9223372036854775807:=by
 obtain ⟨A',c',e,h1,h2,_⟩:=h;simp only [Value.slice.injEq] at e;obtain ⟨rfl,rfl,rfl⟩:=e;unfold maxLen at h2;exact ⟨rfl,by omega⟩
theorem HasP.cellAt (h:HasP w (.slice A n c) Q)(hj:j<n):
  ∃ g o,A=some ⟨g,o,none⟩∧g<w.heap.size∧w.cell? ⟨g,o+j*2,none⟩=some (.int .i64 (Q.getD j (0,0)).1)∧w.cell? ⟨g,o+j*2+1,none⟩=some (.int .i64 (Q.getD j (0,0)).2):=by
 obtain ⟨A',c',e,h1,h2,h3⟩:=h;simp only [Value.slice.injEq] at e;obtain ⟨rfl,rfl,rfl⟩:=e;exact h3 j hj
theorem c10_{p:Prop}(h:p:=by
 go_enter Tryz.func162,Tryz.ntmps162
 go_wp2;go_ret;exact ⟨qa0 aa.out.symm,((b_.alloc n_ _).alloc (by simp) _)⟩
):p:=h
theorem qu9 (a b c d:Int)(r:Bool)(hr:decide (a=c∧b=d)=r)(w:World):
  Calls Tryz.prog 162 #[.agg #[.int .i64 a,.int .i64 b],.agg #[.int .i64 c,.int .i64 d]] w fun e w'=>e=.returned (.bool r)∧Below w.heap.size w w':=by
 have HR:=z_ hr;clear hr;by_cases h1:a=c
 ·subst h1
  by_cases h2:b=d
  ·subst h2
   have aa:Hid (r=true):=z_ (by rw [← HR.out];simp);exact c10_
  ·have aa:Hid (r=false):=z_ (by rw [← HR.out];simp [h2])
   have hd:(b==d)=false:=by simpa using h2
   have HN:=z_ h2;clear h2;exact c10_
 ·have aa:Hid (r=false):=z_ (by rw [← HR.out];simp [h1])
  have hd:(a==c)=false:=by simpa using h1
  have HN:=z_ h1;clear h1;exact c10_
theorem qua (a b:Int)(w:World):
  Calls Tryz.prog 145 #[.agg #[.int .i64 a,.int .i64 b]] w fun e w'=>e=.returned (.agg #[.int .i64 a,.int .i64 b])∧Below w.heap.size w w':=by
 go_enter Tryz.func145,Tryz.ntmps145
 go_wp2;refine bodyPost_ret (v:=.agg #[.int .i64 a,.int .i64 b]) (by simp [results,Tryz.results145,go_sem]) rfl ⟨rfl,?_⟩;repeat (first|exact Below.refl _ _|refine Below.setCell ?_ Ab_ _|refine Below.alloc ?_ Ab_ _)
theorem qAl (Q:List (Int×Int))(k:Nat)(h:k<Q.length):Q.take (k+1)=Q.take k++[Q.getD k (0,0)]:=by
 rw [List.take_succ_eq_append_getElem h];simp [List.getD,List.getElem?_eq_getElem h]
theorem qmo{wr w0:World}{p q r s:Addr}{a b c d:Value}(h:(w0.cell? p=some a∧w0.cell? q=some b∧w0.cell? r=some c∧w0.cell? s=some d)∧Below wr.heap.size wr w0)(hp:p.block<wr.heap.size∧q.block<wr.heap.size∧r.block<wr.heap.size∧s.block<wr.heap.size)(hb:Below w0.heap.size w0 w1):
  (w1.cell? p=some a∧w1.cell? q=some b∧w1.cell? r=some c∧w1.cell? s=some d)∧Below wr.heap.size wr w1:=by
 have hs:=h.2.size;exact ⟨⟨(hb.cell o_).trans h.1.1,(hb.cell o_).trans h.1.2.1,(hb.cell o_).trans h.1.2.2.1,(hb.cell o_).trans h.1.2.2.2⟩,h.2.trans (hb.mono hs)⟩
theorem qhd (h:w.ownsRow base e 2 (.slice (some ⟨g,0,none⟩) n cap) n xs)(j:Nat)(u u2:Value):
  ((w.setCell ⟨g,j,none⟩ u).setCell ⟨g,j+1,none⟩ u2).ownsRow base e 2 (.slice (some ⟨g,0,none⟩) n cap) n ((xs.set j u).set (j+1) u2):=qa4 (qa4 h j u) (j+1) u2
theorem qAm (h:w.ownsRow base e 2 (.slice (some ⟨g,0,none⟩) n cap) n xs)(hj:j<n):
  (∃ v,w.cell? ⟨g,j*2,none⟩=some v)∧(∃ v,w.cell? ⟨g,j*2+1,none⟩=some v)∧w.frozen? ⟨g,j*2,none⟩=false∧w.frozen? ⟨g,j*2+1,none⟩=false:=by
 refine ⟨?_,?_,h.frozenAt _,h.frozenAt _⟩
 ·rw [h.cellAt (j*2) o_]
  exact ⟨_,List.getElem?_eq_getElem (by have:=h.1;omega)⟩
 ·rw [h.cellAt (j*2+1) o_]
  exact ⟨_,List.getElem?_eq_getElem (by have:=h.1;omega)⟩
theorem qos (Q:List (Int×Int))(va vb:Value)(w:World)(ha:HasP w va Q)(hb:HasP w vb Q):
  Calls Tryz.prog 102 #[va,vb] w fun e w'=>e=.returned (.bool true)∧Below w.heap.size w w':=by
 obtain ⟨n,hn⟩:=e_ (Q.length);obtain ⟨A,ca,rfl,ha⟩:=ha.shape hn.symm;obtain ⟨B,cb,rfl,hb⟩:=hb.shape hn.symm;have ak:=ha.len.2;have HA:=z_ ha;have HB:=z_ hb;have HN:=z_ hn;clear ha hb hn;go_enter Tryz.func102,Tryz.ntmps102
 go_wp2;go_loopw [5] (fun i wr=>∃ k:Nat,k≤n∧i=.int .i64 k∧Below w.heap.size w wr) (fun i _=>n-(intOf i).toNat)
 case atStart=>exact ⟨0,y_,rfl,Below.refl _ _⟩
 case round=>
  obtain ⟨k,hk,rfl,aa⟩:=hrel;by_cases ah:k<n
  ·obtain ⟨ga,oa,rfl,af,ai,ab⟩:=HA.out.cellAt ah
   obtain ⟨gb,ob,rfl,ag,aj,ac⟩:=HB.out.cellAt ah;rw [← aa.cell (p:=⟨ga,oa+k*2,none⟩) af] at ai;rw [← aa.cell (p:=⟨ga,oa+k*2+1,none⟩) af] at ab;rw [← aa.cell (p:=⟨gb,ob+k*2,none⟩) ag] at aj;rw [← aa.cell (p:=⟨gb,ob+k*2+1,none⟩) ag] at ac;have ad:ga<wr.heap.size:=w_ af aa.size;have ae:gb<wr.heap.size:=w_ ag aa.size;obtain ⟨x,hx⟩:=e_ ((Q.getD k (0,0)).1);obtain ⟨y,hy⟩:=e_ ((Q.getD k (0,0)).2);rw [← hx] at ai aj;rw [← hy] at ab ac;clear hx hy;go_wp2_with fail
   go_region_held3 (fun w'=>(w'.cell? ⟨ga,oa+k*2,none⟩=some (.int .i64 x)∧w'.cell? ⟨ga,oa+k*2+1,none⟩=some (.int .i64 y)∧w'.cell? ⟨gb,ob+k*2,none⟩=some (.int .i64 x)∧w'.cell? ⟨gb,ob+k*2+1,none⟩=some (.int .i64 y))∧Below wr.heap.size wr w')
    (first|(refine ⟨⟨?_,?_,?_,?_⟩,b_.drew⟩<;>assumption)|(go_split_ands;exact qmo (p:=⟨ga,oa+k*2,none⟩) (q:=⟨ga,oa+k*2+1,none⟩) (r:=⟨gb,ob+k*2,none⟩) (s:=⟨gb,ob+k*2+1,none⟩) ⟨⟨by assumption,by assumption,by assumption,by assumption⟩,by assumption⟩ ⟨ad,ad,ae,ae⟩ (by assumption)))
    ((go_at_call 162;refine (qu9 x y x y true (by simp) _).mono ?_;rintro e w1 ⟨rfl,al⟩))
   go_wp2;go_roundw
   case rel=>
    have hh:(w1.cell? ⟨ga,oa+k*2,none⟩=some (.int .i64 x)∧w1.cell? ⟨ga,oa+k*2+1,none⟩=some (.int .i64 y)∧w1.cell? ⟨gb,ob+k*2,none⟩=some (.int .i64 x)∧w1.cell? ⟨gb,ob+k*2+1,none⟩=some (.int .i64 y))∧Below wr.heap.size wr w1:=by assumption
    exact ⟨k+1,by omega,by go_num,aa.trans (hh.2.mono aa.size)⟩
   case measure=>simp [intOf];omega
  ·obtain rfl:k=n:=o_
   go_wp2;go_ret;exact ⟨rfl,aa⟩
theorem qqg:(Tryz.prog.info? 201).map (fun i=>(i.zero,i.size,i.bytes))=some (some (.agg #[.int .i64 0,.int .i64 0]),2,16):=by kernel_rfl
theorem qse (Q:List (Int×Int))(hQ:Q.length≤1048576)(v:Value)(w:World)(h:HasP w v Q):
  Calls Tryz.prog 88 #[v] w fun e w'=>∃ v',e=.returned v'∧w'.ownsRow w.heap.size 201 2 v' Q.length (pcs Q)∧Below w.heap.size w w':=by
 obtain ⟨n,hn⟩:=e_ (Q.length);obtain ⟨A,c,rfl,h⟩:=h.shape hn.symm;obtain ⟨i0,hi,ah,ai,aj⟩:=info_parts qqg;have am:n≤1048576:=o_;have HH:=z_ h;have HN:=z_ hn;rw [← hn];clear h hn hQ;go_enter Tryz.func88,Tryz.ntmps88
 go_wp2_with (at_make;refine wpList_make_full _ rfl _ _ 41 rfl w.heap.size 201 i0 _ 2 Tryz.underlying41 hi ah ai _ _ _ _ n rfl rfl rfl rfl (by rw [aj];omega) Aa_ n_ ?_)
 intro w1 hown ac;go_wp2;go_loopw [4] (fun i wr=>∃ (j:Nat) (ys:List Value),j≤n∧i=.int .i64 j∧wr.ownsRow w.heap.size 201 2 (.slice (some ⟨w.heap.size,0,none⟩) n n) n ys∧Hid (ys.take (j*2)=pcs (Q.take j))∧Below w.heap.size w wr) (fun i _=>n-(intOf i).toNat)
 case atStart=>exact ⟨0,_,y_,rfl,hown,z_ rfl,b_.grown ac n_ (by intro k h;cases h)⟩
 case round=>
  obtain ⟨j,ys,hj,rfl,hown,HY,aa⟩:=hrel;by_cases ae:j<n
  ·obtain ⟨g,o,rfl,hg,hcell,ab⟩:=HH.out.cellAt ae
   rw [← aa.cell (p:=⟨g,o+j*2,none⟩) hg] at hcell;rw [← aa.cell (p:=⟨g,o+j*2+1,none⟩) hg] at ab;obtain ⟨x,hx⟩:=e_ ((Q.getD j (0,0)).1);obtain ⟨y,hy⟩:=e_ ((Q.getD j (0,0)).2);rw [← hx] at hcell;rw [← hy] at ab;have HX:=z_ hx;have ak:=z_ hy;have ad:=z_ hown;have al:=z_ (qAl Q j (by rw [← HN.out];exact ae));clear hx hy hown;go_wp2_with (go_at_call 145;refine (qua x y _).mono ?_;rintro e w2 ⟨rfl,af⟩;have ag:=z_ (own_below ad.out af);obtain ⟨⟨v0,an⟩,⟨v1,ao⟩,ap,aq⟩:=qAm ag.out ae)
   go_roundw
   case rel=>
    refine ⟨j+1,_,by omega,by go_num,qhd ag.out (j*2) _ _,z_ ?_,((aa.trans (af.mono aa.size)).setCell n_ _).setCell n_ _⟩;have hlen:ys.length=n*2:=by have:=ad.out.1;omega
    rw [show (j+1)*2=j*2+1+1 by omega,List.take_succ_eq_append_getElem (by simp;omega),List.take_set_of_le n_,List.take_succ_eq_append_getElem (by simp;omega),List.take_set_of_le n_,HY.out,al.out,qjz,HX.out,ak.out];simp [pcs]
   case measure=>simp [intOf];omega
  ·obtain rfl:j=n:=o_
   have HW:Hid (wr.ownsRow w.heap.size 201 2 (.slice (some ⟨w.heap.size,0,none⟩) j j) j (pcs Q)):=z_ (by
    have hlen:ys.length=j*2:=by have:=hown.1;omega
    have:=HY.out;rw [List.take_of_length_le o_,List.take_of_length_le Ac_] at this
    rw [← this];exact hown)
   clear hown;go_wp2;go_ret;exact ⟨_,rfl,HW.out,aa⟩
theorem qsf (Q:List (Int×Int))(v:Value)(w:World)(h:HasP w v Q)(m:Int)(hm:0≤m)(ab:m≤1048576):
  Calls Tryz.prog 77 #[v,.int .i64 m] w fun e w'=>∃ r:Int,e=.returned (.int .i64 r)∧(0≤r→Q.length≤1048576)∧-1≤r∧r≤1048576∧Below w.heap.size w w':=by
 obtain ⟨n,hn⟩:=e_ (Q.length);obtain ⟨A,c,rfl,h⟩:=h.shape hn.symm;have hl:=h.len.2;rw [← hn];clear h hn;by_cases aa:m-(n:Int)<0
 ·go_enter Tryz.func77,Tryz.ntmps77
  go_wp2;go_ret;exact ⟨-1,rfl,fun h=>by omega,by omega,by omega,Below.refl _ _⟩
 ·go_enter Tryz.func77,Tryz.ntmps77
  go_wp2;go_ret;exact ⟨_,rfl,fun h=>by omega,by omega,by omega,Below.refl _ _⟩
theorem qot (P:List (List UInt8))(hP:∀ k,k<P.length→(P.getD k []).length≤maxLen)(Q:List (Int×Int))(va vb:Value)(w:World)(ha:Has w va (ssv P))(hb:HasP w vb Q):
  Calls Tryz.prog 32 #[.agg #[va,vb],.int .i64 1048576] w fun e w'=>∃ r:Int,e=.returned (.int .i64 r)∧(0≤r→Small P∧Q.length≤1048576)∧-1≤r∧r≤1048576∧Below w.heap.size w w':=by
 obtain ⟨A,ca,rfl,ac⟩:=ha.shape (qba P);obtain ⟨B,cb,rfl,ad⟩:=hb.shape rfl;have ak:=ac.len.2;have al:=ad.len.2;have ag:=z_ (fun W hW=>qC6 P hP _ W (ac.below n_ hW));have ah:=z_ (fun W hW m h1 h2=>qsf Q _ W (ad.below n_ hW) m h1 h2);clear ha ac hb ad hP;go_enter Tryz.func32,Tryz.ntmps32
 go_wp2_with (first
  | (go_at_call 76;refine (ag.out _ (b_.alloc n_ _)).mono ?_;rintro e w1 ⟨r,rfl,hr,am,an,ae⟩
     have ao:w1.cell? ⟨w.heap.size,1,none⟩=some (.slice B Q.length cb):=by rw [ae.cell (p:=⟨w.heap.size,1,none⟩) (by simp)];simp
     have ab:Below w.heap.size w w1:=(b_.alloc n_ _).trans (ae.mono (by simp))
     clear ae)
  | (go_at_call 77;refine (ah.out _ ab r o_ o_).mono ?_;rintro e w2 ⟨r2,rfl,hs,ai,aj,af⟩
     have aa:=ab.trans (af.mono ab.size)
     clear af))
 ·go_ret
  exact ⟨-1,rfl,fun h=>by omega,by omega,by omega,ab⟩
 ·go_ret
  exact ⟨-1,rfl,fun h=>by omega,by omega,by omega,aa⟩
 ·go_ret
  exact ⟨r2,rfl,fun h=>⟨hr o_,hs h⟩,ai,aj,aa⟩
theorem qml{W:World}(hb:Below W.heap.size W w1):(∀ b o,b<W.heap.size→w1.cell? ⟨b,o,none⟩=W.cell? ⟨b,o,none⟩)∧(∀ b o,b<W.heap.size→w1.frozen? ⟨b,o,none⟩=W.frozen? ⟨b,o,none⟩):=
 ⟨fun b o h=>hb.cell (p:=⟨b,o,none⟩) h,fun b o h=>hb.frozen (p:=⟨b,o,none⟩) h⟩
theorem qa5 (w:World)(o:Obj)(g:Nat)(h:g=w.heap.size):(w.alloc o).heap[g]? =some o:=by subst h;exact (MapKept.heap_alloc w o).1
theorem qhy{base':Nat}{size:Nat}(h:w.ownsRow base e size v n xs)(hb:base'≤base):w.ownsRow base' e size v n xs:=by
 refine ⟨h.1,?_⟩;rcases h.2 with h2|⟨g,cap,cur,hv,hg,r⟩
 ·exact .inl h2
 ·exact .inr ⟨g,cap,cur,hv,Nat.le_trans hb hg,r⟩
theorem qou (P:List (List UInt8))(hP:P.length≤1048576)(Q:List (Int×Int))(hQ:Q.length≤1048576)(va vb:Value)(w:World)(ha:Has w va (ssv P))(hb:HasP w vb Q):
  Calls Tryz.prog 40 #[.agg #[va,vb]] w fun e w'=>∃ v1 v2,e=.returned (.agg #[v1,v2])∧w'.ownsRow w.heap.size 9 1 v1 P.length (ssv P)∧w'.ownsRow w.heap.size 201 2 v2 Q.length (pcs Q)∧Below w.heap.size w w':=by
 obtain ⟨A,ca,rfl,ag⟩:=ha.shape (qba P);obtain ⟨B,cb,rfl,ah⟩:=hb.shape rfl;have ak:=z_ (fun W hW=>qu4 P hP _ W (ag.below n_ hW));have al:=z_ (fun W hW=>qse Q hQ _ W (ah.below n_ hW));clear ha ag hb ah;go_enter Tryz.func40,Tryz.ntmps40
 go_wp2_with (first
  | (go_at_call 87;refine (ak.out _ ?_).mono ?_
     ·exact v_
     rintro e w1 ⟨v1,rfl,aa,ad⟩;obtain ⟨A1,c1,rfl,am⟩:=(Has.of_own aa).shape (qba P);have an:=z_ aa;have ai:w1.heap[w.heap.size+1]? =some (.cells #[.slice none 0 0,.slice none 0 0] 43 (0,0)):=by rw [ad.block _ (by simp)];exact (Below.heap_alloc _ _ _ (by simp)).trans (qa5 _ _ _ (by simp))
     have ao:=z_ ai;have aj:Below w.heap.size w w1:=(((b_.alloc n_ _).alloc (by simp) _).alloc (by simp;omega) _).trans (ad.mono (by simp;omega));clear aa am ai;obtain ⟨av,aw⟩:=qml ad
     have hz:w.heap.size+2<w1.heap.size:=by have:=ad.size;simp at this;omega)
  | (go_at_call 88;refine (al.out _ ?_).mono ?_
     ·exact aj.setCell (by simp;omega) _
     rintro e w2 ⟨v2,rfl,ab,ae⟩;obtain ⟨A2,c2,rfl,ap⟩:=(HasP.of_own ab).shape rfl;have aq:=z_ ab;have af:Below w.heap.size w w2:=(aj.setCell (p:=⟨w.heap.size+1+1,0,none⟩) (by show w.heap.size≤w.heap.size+1+1;omega) (.slice A1 P.length c1)).trans (ae.mono (by simp;omega));have ac:w2.heap[w.heap.size+1]? =some (.cells #[.slice none 0 0,.slice none 0 0] 43 (0,0)):=by rw [ae.block _ (by simp;omega),Below.heap_setCell _ _ _ _ (by simp)];exact ao.out
     have d0:w2.cell? ⟨w.heap.size+1,0,none⟩=some (.slice none 0 0):=h_ w2 _ 0 _ _ _ ac;have d1:w2.cell? ⟨w.heap.size+1,1,none⟩=some (.slice none 0 0):=h_ w2 _ 1 _ _ _ ac;have e0:=g_ w2 _ 0 _ _ ac;have e1:=g_ w2 _ 1 _ _ ac;have au:=z_ (own_below (qb8 an.out (qax (g:=w.heap.size+1+1) (World.grownBy.refl _ _) 0 (.slice A1 P.length c1)) (by simp)) ae);clear ab ap ac
     obtain ⟨ax,ay⟩:=qml ae))
 refine bodyPost_ret (v:=.agg #[.slice A1 P.length c1,.slice A2 Q.length c2]) (by simp [results,Tryz.results40,go_sem,d0,d1]) rfl ⟨_,_,rfl,?_,?_,?_⟩
 ·exact qhy (qb8 (qb8 (qb8 au.out (qax (World.grownBy.refl _ _) _ _) (by simp)) (qax (World.grownBy.refl _ _) _ _) (by simp)) (qax (World.grownBy.refl _ _) _ _) (by simp)) (by simp;omega)
 ·exact qhy (qb8 (qb8 (qb8 aq.out (qax (World.grownBy.refl _ _) _ _) (by simp;omega)) (qax (World.grownBy.refl _ _) _ _) (by simp;omega)) (qax (World.grownBy.refl _ _) _ _) (by simp;omega)) (by simp;omega)
 ·exact ((af.setCell (by simp;omega) _).setCell (by simp) _).setCell (by simp) _
theorem qmp (P:List (List UInt8))(Q:List (Int×Int))(va vb af ag:Value)(w:World)(ha:Has w va (ssv P))(hb:HasP w vb Q)(ab:Has w af (ssv P))(ac:HasP w ag Q):
  Calls Tryz.prog 49 #[.agg #[va,vb],.agg #[af,ag]] w fun e w'=>e=.returned (.bool true)∧Below w.heap.size w w':=by
 have ai:=z_ (fun W hW=>qu3 P P _ _ W (ha.below n_ hW) (ab.below n_ hW));have aj:=z_ (fun W hW=>qos Q _ _ W (hb.below n_ hW) (ac.below n_ hW));have HD:Hid (decide (P=P)=true):=z_ (by simp);obtain ⟨A,ca,rfl,_⟩:=ha.shape (qba P);obtain ⟨A',al,rfl,_⟩:=ab.shape (qba P);obtain ⟨B,cb,rfl,_⟩:=hb.shape rfl;obtain ⟨B',ak,rfl,_⟩:=ac.shape rfl;clear ha ab hb ac;go_enter Tryz.func49,Tryz.ntmps49
 go_wp2_with (first
  | (go_at_call 101;refine (ai.out _ ?_).mono ?_
     ·exact v_
     rw [HD.out];rintro e w1 ⟨rfl,aa⟩;have am:w1.cell? ⟨w.heap.size,1,none⟩=some (.slice B Q.length cb):=by rw [aa.cell (p:=⟨w.heap.size,1,none⟩) (by simp;omega)];simp
     have an:w1.cell? ⟨w.heap.size+1,1,none⟩=some (.slice B' Q.length ak):=by rw [aa.cell (p:=⟨w.heap.size+1,1,none⟩) (by simp)];simp
     have ad:Below w.heap.size w w1:=((b_.alloc n_ _).alloc (by simp) _).trans (aa.mono (by simp;omega))
     clear aa)
  | (go_at_call 102;refine (aj.out _ ad).mono ?_;rintro e w2 ⟨rfl,ah⟩
     have ae:=ad.trans (ah.mono ad.size)
     clear ah))
 go_ret;exact ⟨rfl,ae⟩
end Go.Proofs.YtiilamngcoegiaaGreat.subs
