
import Derived.Test.YtiilamngcoegiaaGreatPk20
namespace Go.Proofs.YtiilamngcoegiaaGreat.tmk
open Go.ChangeShapes Go.WideShapes Go.ChangeAt Go.RowKit
open mem dec strl subs sortp sorti rowl sigs
def Rw (lo hi:Nat)(w:World)(e:TypeId)(sz:Nat)(v:Value)(n:Nat):Prop:=∃ xs,w.ownsRow lo e sz v n xs∧∀ g,v.ownBlock=some g→g<hi
def DecR (lo hi:Nat)(w:World)(v:Value)(ms:List Nat):Prop:=∃ xs,w.ownsRow lo 199 2 v ms.length xs∧(∀ g,v.ownBlock=some g→g<hi)∧∀ j,j<ms.length→∃ va,xs[j*2]? =some va∧Rw lo hi w 3 1 va (ms.getD j 0)
def OpR (lo hi:Nat)(w:World)(v:Value)(ms:List (List Nat)):Prop:=∃ xs,w.ownsRow lo 124 5 v ms.length xs∧(∀ g,v.ownBlock=some g→g<hi)∧∀ j,j<ms.length→∃ va,xs[j*5+1]? =some va∧DecR lo hi w va (ms.getD j [])
structure TyC (lo hi:Nat) (w w':World):Prop where
 os:w'.os=w.os
 tape:w'.tape=w.tape
 output:w'.output=w.output
 size:w.heap.size≤w'.heap.size
 block:∀ k,k<w.heap.size→w'.heap[k]? =w.heap[k]? ∨ (lo≤k∧k<hi∧∃ e cur cur',w.heap[k]? =some (.cells cur e (0,0))∧w'.heap[k]? =some (.cells cur' e (0,0))∧cur'.size=cur.size∧(e=199→∀ i,cur'[i*2]? =cur[i*2]?)∧(e=124→∀ i,cur'[i*5+1]? =cur[i*5+1]?))
theorem TyC.refl (lo hi:Nat)(w:World):TyC lo hi w w:=⟨rfl,rfl,rfl,Nat.le_refl _,fun _ _=>.inl rfl⟩
theorem TyC.of_below {lo hi:Nat}{w w':World}(h:Below w.heap.size w w'):TyC lo hi w w':=⟨h.os,h.tape,h.output,h.size,fun k hk=>.inl (h.block k hk)⟩
theorem TyC.trans {lo hi:Nat}{a b c:World}(h:TyC lo hi a b)(k:TyC lo hi b c):TyC lo hi a c:=by
 refine ⟨k.os.trans h.os,k.tape.trans h.tape,k.output.trans h.output,Nat.le_trans h.size k.size,fun i hi=>?_⟩;rcases h.block i hi with h1|⟨h1,h2,e,cur,cur',h3,h4,h5,h6,h7⟩
 ·rcases k.block i (w_ hi h.size) with k1|⟨k1,k2,e,cur,cur',k3,k4,k5,k6,k7⟩
  ·exact .inl (k1.trans h1)
  ·exact .inr ⟨k1,k2,e,cur,cur',h1.symm.trans k3,k4,k5,k6,k7⟩
 ·rcases k.block i (w_ hi h.size) with k1|⟨k1,k2,e2,cur2,cur2',k3,k4,k5,k6,k7⟩
  ·exact .inr ⟨h1,h2,e,cur,cur',h3,k1.trans h4,h5,h6,h7⟩
  ·rw [h4] at k3
   simp only [Option.some.injEq,Obj.cells.injEq,and_true] at k3;obtain ⟨rfl,rfl⟩:=k3;exact .inr ⟨h1,h2,e,cur,cur2',h3,k4,k5.trans h5,fun he i=>(k6 he i).trans (h6 he i),fun he i=>(k7 he i).trans (h7 he i)⟩
theorem TyC.below {lo hi:Nat}{w w':World}(h:TyC lo hi w w')(hl:lo≤w.heap.size):Below lo w w':=
 ⟨h.os,h.tape,h.output,h.size,fun k hk=>by
  rcases h.block k o_ with h1|⟨h1,_⟩
  ·exact h1
  ·omega⟩
theorem TyC.chg {lo hi:Nat}{w w':World}(h:TyC lo hi w w'):terml.Chg (List.range' lo (hi-lo)) w w':=
 ⟨h.os,h.tape,h.output,h.size,fun k hk hn=>by
  rcases h.block k hk with h1|⟨h1,h2,_⟩
  ·exact h1
  ·exact absurd (List.mem_range'.2 ⟨k-lo,by omega,by omega⟩) hn⟩
theorem qm5 {cur:Array Value}{n i:Nat}(h:i<n):(cur.toList.take n)[i]? =cur[i]? := by
 rw [List.getElem?_take_of_lt h,Array.getElem?_toList]
theorem qj6 {lo lo' aa n sz:Nat}{w w':World}{e:TypeId}{v:Value}{xs:List Value}(h:w.ownsRow lo e sz v n xs)(hc:TyC lo' aa w w'):∃ ys,w'.ownsRow lo e sz v n ys∧(e=199→sz=2→∀ i,i<n→ys[i*2]? =xs[i*2]?)∧(e=124→sz=5→∀ i,i<n→ys[i*5+1]? =xs[i*5+1]?):=by
 rcases h.2 with ⟨h1,h2⟩|⟨g,cap,cur,rfl,hb,hg,hnc,hcm,hcs,htk⟩
 ·exact ⟨xs,⟨h.1,.inl ⟨h1,h2⟩⟩,fun _ _ _ _=>rfl,fun _ _ _ _=>rfl⟩
 ·rcases hc.block g (q_ hg) with k1|⟨_,_,e2,cur2,cur',k3,k4,k5,k6,k7⟩
  ·exact ⟨xs,⟨h.1,.inr ⟨g,cap,cur,rfl,hb,k1.trans hg,hnc,hcm,hcs,htk⟩⟩,fun _ _ _ _=>rfl,fun _ _ _ _=>rfl⟩
  ·rw [hg] at k3
   simp only [Option.some.injEq,Obj.cells.injEq,and_true] at k3;obtain ⟨rfl,rfl⟩:=k3;have ab:n*sz≤cap*sz:=Nat.mul_le_mul_right _ hnc;refine ⟨cur'.toList.take (n*sz),⟨by rw [List.length_take,Array.length_toList];omega,.inr ⟨g,cap,cur',rfl,hb,k4,hnc,hcm,by omega,rfl⟩⟩,fun he hs i hi=>?_,fun he hs i hi=>?_⟩
   ·subst hs
    rw [qm5 o_,← htk,qm5 o_];exact k6 he i
   ·subst hs
    rw [qm5 o_,← htk,qm5 o_];exact k7 he i
theorem Rw.tyc {lo hi lo' aa n sz:Nat}{w w':World}{e:TypeId}{v:Value}(h:Rw lo hi w e sz v n)(hc:TyC lo' aa w w'):Rw lo hi w' e sz v n:=by
 obtain ⟨xs,h1,h2⟩:=h;obtain ⟨ys,h3,_⟩:=qj6 h1 hc;exact ⟨ys,h3,h2⟩
theorem c112_ {p:Prop}(h:p:=by
 refine ⟨ys,k1,h2,fun j hj=>?_⟩;obtain ⟨va,e1,e2⟩:=h3 j hj;exact ⟨va,(k2 rfl rfl j hj).trans e1,e2.tyc hc⟩
):p:=h
theorem DecR.tyc {lo hi lo' aa:Nat}{w w':World}{v:Value}{ms:List Nat}(h:DecR lo hi w v ms)(hc:TyC lo' aa w w'):DecR lo hi w' v ms:=by
 obtain ⟨xs,h1,h2,h3⟩:=h;obtain ⟨ys,k1,k2,_⟩:=qj6 h1 hc;exact c112_
theorem OpR.tyc {lo hi lo' aa:Nat}{w w':World}{v:Value}{ms:List (List Nat)}(h:OpR lo hi w v ms)(hc:TyC lo' aa w w'):OpR lo hi w' v ms:=by
 obtain ⟨xs,h1,h2,h3⟩:=h;obtain ⟨ys,k1,_,k2⟩:=qj6 h1 hc;exact c112_
theorem qff {lo hi n sz g c:Nat}{w:World}{e:TypeId}{xs:List Value}(h:w.ownsRow lo e sz (.slice (some ⟨g,0,none⟩) n c) n xs)(hlt:g<hi)(j:Nat)(u:Value)(hd:e=199→j % 2=1)(ho:e=124→j % 5≠1):TyC lo hi w (w.setCell ⟨g,j,none⟩ u):=by
 rcases h.2 with ⟨h1,_⟩|⟨g',cap,cur,h1,hb,hg,hnc,hcm,hcs,htk⟩
 ·cases h1
 ·simp only [Value.slice.injEq,Option.some.injEq,Addr.mk.injEq,and_true,true_and] at h1
  obtain ⟨rfl,rfl⟩:=h1;refine ⟨rfl,rfl,rfl,by simp [World.setCell],fun k hk=>?_⟩;by_cases aa:k=g
  ·subst aa
   refine .inr ⟨hb,hlt,e,cur,cur.setIfInBounds j u,hg,?_,by simp,fun he i=>?_,fun he i=>?_⟩
   ·simp [World.setCell,Array.getElem?_modify,hg]
   ·have:=hd he
    exact Array.getElem?_setIfInBounds_ne o_
   ·have:=ho he
    exact Array.getElem?_setIfInBounds_ne o_
  ·exact .inl (Below.heap_setCell w ⟨g,j,none⟩ u k aa)
theorem qoc {lo hi n sz g c:Nat}{w w':World}{e:TypeId}{xs ys:List Value}(h:w.ownsRow lo e sz (.slice (some ⟨g,0,none⟩) n c) n xs)(h':w'.ownsRow lo e sz (.slice (some ⟨g,0,none⟩) n c) n ys)(hg:w.grownBy w' (some g))(hlt:g<hi)(hd:e≠199)(ho:e≠124):TyC lo hi w w':=by
 refine ⟨hg.os,hg.tape,hg.output,hg.size,fun k hk=>?_⟩;by_cases aa:k=g
 ·subst aa
  rcases h.2 with ⟨h1,_⟩|⟨g',cap,cur,h1,hb,hgc,hnc,hcm,hcs,htk⟩
  ·cases h1
  ·rcases h'.2 with ⟨h2,_⟩|⟨g2,cap2,cur2,h2,hb2,hgc2,hnc2,hcm2,hcs2,htk2⟩
   ·cases h2
   ·simp only [Value.slice.injEq,Option.some.injEq,Addr.mk.injEq,and_true,true_and] at h1 h2
    obtain ⟨rfl,rfl⟩:=h1;obtain ⟨rfl,rfl⟩:=h2;exact .inr ⟨hb,hlt,e,cur,cur2,hgc,hgc2,by omega,fun he=>absurd he hd,fun he=>absurd he ho⟩
 ·exact .inl (hg.block k hk (fun e=>aa (by injection e)))
theorem Rw.cases {lo hi n sz:Nat}{w:World}{e:TypeId}{v:Value}(h:Rw lo hi w e sz v n):(v=.slice none 0 0∧n=0)∨∃ g c xs,v=.slice (some ⟨g,0,none⟩) n c∧w.ownsRow lo e sz (.slice (some ⟨g,0,none⟩) n c) n xs∧g<hi:=by
 obtain ⟨xs,h1,h2⟩:=h;rcases h1.2 with ⟨k1,k2⟩|⟨g,cap,cur,rfl,r⟩
 ·exact .inl ⟨k1,k2⟩
 ·exact .inr ⟨g,cap,xs,rfl,h1,h2 g rfl⟩
theorem c114_ {p:Prop}(h:p:=by
 rintro e w' ⟨rfl,aa,hg⟩;exact ⟨rfl,qoc ho aa hg hlt (by decide) (by decide)⟩
):p:=h
theorem qzm {lo hi:Nat}(k n:Nat)(hn:n≤2097152)(hk:k≤1073741824)(v:Value)(w:World)(h:Rw lo hi w 3 1 v n):
  Calls Tryz.prog 72 #[v,.int .i64 k] w fun e w'=>e=.returned (.int .i64 ((k+n:Nat):Int))∧TyC lo hi w w':=by
 rcases h.cases with ⟨rfl,rfl⟩|⟨g,c,xs,rfl,ho,hlt⟩
 ·refine (intl.qs9 k 0 none w).mono ?_
  rintro e w' ⟨rfl,rfl⟩;exact ⟨rfl,TyC.refl _ _ _⟩
 ·refine (intl.qhx n k c g hn hk xs w lo ho).mono ?_
  exact c114_
theorem c109_ {p:Prop}(h:p:=by
 go_wp2;go_loop [1,5] (fun v i=>v=.int .i64 (k:Int)∧i=.int .i64 0) (fun _ _=>0)
 case atStart=>exact ⟨rfl,rfl⟩
 case round=>
  obtain ⟨rfl,rfl⟩:=hrel;go_wp2;go_ret;exact ⟨rfl,TyC.refl _ _ _⟩
):p:=h
theorem qzn {lo hi:Nat}(k n:Nat)(hn:n≤2097152)(hk:k≤1073741824)(v:Value)(w:World)(h:Rw lo hi w 9 1 v n):
  Calls Tryz.prog 104 #[v,.int .i64 k] w fun e w'=>e=.returned (.int .i64 ((k+n:Nat):Int))∧TyC lo hi w w':=by
 rcases h.cases with ⟨rfl,rfl⟩|⟨g,c,xs,rfl,ho,hlt⟩
 ·go_enter Tryz.func104,Tryz.ntmps104
  exact c109_
 ·refine (strl.qhx n k c g hn hk xs w lo ho).mono ?_
  exact c114_
theorem qzo {lo hi:Nat}(k n:Nat)(hn:n≤2097152)(hk:k≤1073741824)(v:Value)(w:World)(h:Rw lo hi w 201 2 v n):
  Calls Tryz.prog 105 #[v,.int .i64 k] w fun e w'=>e=.returned (.int .i64 ((k+2*n:Nat):Int))∧TyC lo hi w w':=by
 rcases h.cases with ⟨rfl,rfl⟩|⟨g,c,xs,rfl,ho,hlt⟩
 ·go_enter Tryz.func105,Tryz.ntmps105
  exact c109_
 ·have aa:=z_ hlt
  have ab:=z_ ho;clear h ho;go_enter Tryz.func105,Tryz.ntmps105
  go_wp2;go_loopw [1,5] (fun v i wr=>∃ (j:Nat) (ys:List Value),j≤n∧i=.int .i64 j∧v=.int .i64 ((k+2*j:Nat):Int)∧Hid (wr.ownsRow lo 201 2 (.slice (some ⟨g,0,none⟩) n c) n ys)∧Hid (TyC lo hi w wr)) (fun _ i _=>n-(intOf i).toNat)
  case atStart=>exact ⟨0,xs,y_,rfl,by go_num,ab,z_ (TyC.refl _ _ _)⟩
  case round=>
   obtain ⟨j,ys,hj,rfl,rfl,HO,HT⟩:=hrel;by_cases hl:j<n
   ·obtain ⟨⟨v0,c0⟩,f0⟩:=qai HO.out (i:=j*2) o_
    obtain ⟨⟨v1,c1⟩,f1⟩:=qai HO.out (i:=j*2+1) o_;go_wp2;go_roundw
    case rel=>
     refine ⟨j+1,_,by omega,by go_num,by go_num,z_ (qe4 HO.out (j*2) _ _),z_ ((HT.out.trans (qff HO.out aa.out (j*2) _ (fun e=>absurd e (by decide)) (fun e=>absurd e (by decide)))).trans (qff (qa4 HO.out (j*2) _) aa.out (j*2+1) _ (fun e=>absurd e (by decide)) (fun e=>absurd e (by decide))))⟩
    case measure=>simp [intOf];omega
   ·obtain rfl:j=n:=o_
    go_wp2;go_ret;exact ⟨qaa o_,HT.out⟩
def mkD (ms:List Nat):Nat:=(ms.map (·+1)).sum
theorem c110_ {p:Prop}(h:p:=by
 rw [List.take_succ_eq_append_getElem h,List.map_append,List.sum_append];simp [List.getD,List.getElem?_eq_getElem h]
):p:=h
theorem qzp {ms:List Nat}{j:Nat}(h:j<ms.length):mkD (ms.take (j+1))=mkD (ms.take j)+(ms.getD j 0+1):=by
 unfold mkD;exact c110_
theorem qCk (ms:List Nat)(j:Nat):mkD (ms.take j)≤mkD ms:=by
 unfold mkD;have e:(ms.map (·+1)).sum=((ms.take j).map (·+1)).sum+((ms.drop j).map (·+1)).sum:=by
  rw [← List.sum_append,← List.map_append,List.take_append_drop]
 omega
theorem c111_ {p:Prop}(h:p:=by
 induction l with
 | nil=>simp
 | cons a l ih=>simp only [List.length_cons,List.map_cons,List.sum_cons];omega
):p:=h
theorem c113_ {p:Prop}(h:p:=by
 obtain ⟨xs,h1,_⟩:=h;obtain ⟨A,c,e,hc⟩:=qae h1;exact ⟨A,c,by rw [e,hn],by omega⟩
):p:=h
theorem qx4 {lo hi:Nat}(k:Nat)(ms:List Nat)(hk:k+mkD ms≤1073741824)(hm:∀ m∈ms,m≤2097152)(v:Value)(w:World)(h:DecR lo hi w v ms):
  Calls Tryz.prog 106 #[v,.int .i64 k] w fun e w'=>e=.returned (.int .i64 ((k+mkD ms:Nat):Int))∧TyC lo hi w w':=by
 have HD:=z_ h;obtain ⟨n,hn⟩:=e_ (ms.length);have HN:=z_ hn;have aj:n≤mkD ms:=by
  rw [hn];unfold mkD
  have:∀ l:List Nat,l.length≤(l.map (·+1)).sum:=fun l=>by
   exact c111_
  exact this ms
 have HK:=z_ hk;have HM:=z_ hm;have ak:∃ A c,v=.slice A n c∧n≤9223372036854775807:=by
  exact c113_
 obtain ⟨A,c,rfl,ax⟩:=ak;clear h hn hk hm aj;go_enter Tryz.func106,Tryz.ntmps106
 go_wp2;go_loopw [1,5] (fun v i wr=>∃ (j:Nat),j≤n∧i=.int .i64 j∧v=.int .i64 ((k+mkD (ms.take j):Nat):Int)∧Hid (TyC lo hi w wr)) (fun _ i _=>n-(intOf i).toNat)
 case atStart=>exact ⟨0,y_,rfl,by simp [mkD],z_ (TyC.refl _ _ _)⟩
 case round=>
  obtain ⟨j,hj,rfl,rfl,HT⟩:=hrel;by_cases hl:j<n
  ·have ab:j<ms.length:=by have:=HN.out;omega
   obtain ⟨xs,h1,h2,h3⟩:=HD.out.tyc HT.out;obtain ⟨va,e1,e2⟩:=h3 j ab;have af:xs≠[]:=fun e=>by rw [e] at e1;simp at e1
   obtain ⟨g,cap,hv,al,am⟩:=qb5 h1 af;simp only [Value.slice.injEq] at hv;obtain ⟨rfl,an,rfl⟩:=hv;clear an;have ag:=h2 g rfl;rw [← HN.out] at h1;have c0:=(h1.cellAt (j*2) o_).trans e1;have ah:=qzp ab;have ao:=qCk ms (j+1);have ap:=HK.out;have ac:=HM.out _ (show ms.getD j 0∈ms by rw [List.getD_eq_getElem?_getD,List.getElem?_eq_getElem ab];exact List.getElem_mem _);obtain ⟨q,hq⟩:=e_ (ms.getD j 0);rw [← hq] at e2 ah ac;obtain ⟨kj,aa⟩:=e_ (k+mkD (ms.take j));rw [← aa];have HC:=z_ (qzm (lo:=lo) (hi:=hi) kj q ac o_ va wr e2);have HO:=z_ h1;have aq:=z_ ag;have ai:Hid (kj+q+1=k+mkD (ms.take (j+1))∧kj+q+1≤1073741824):=z_ ⟨by omega,by omega⟩;have au:∃ A2 c2,va=.slice A2 q c2:=by
    obtain ⟨ys,h9,_⟩:=e2;obtain ⟨A2,c2,e,_⟩:=qae h9;exact ⟨A2,c2,e⟩
   obtain ⟨A2,c2,rfl⟩:=au;have ay:kj+q+1≤1073741824:=ai.out.2;clear h1 h2 h3 e1 e2 af al am ag ah ao ap ac hq aa ab;go_wp2_with fail
   refine HC.out.mono ?_;rintro e w2 ⟨rfl,ad⟩;obtain ⟨ys,ae,_,_⟩:=qj6 HO.out ad;have av:=z_ ae;have aw:=z_ (HT.out.trans ad);obtain ⟨⟨v1,c1⟩,f1⟩:=qai ae (i:=j*2+1) o_;clear ad ae c0 HC;go_wp2;go_roundw
   case rel=>exact ⟨j+1,by omega,by go_num,by rw [← ai.out.1];go_num,z_ (aw.out.trans (qff av.out aq.out (j*2+1) _ (fun _=>by omega) (fun e=>absurd e (by decide))))⟩
   case measure=>simp [intOf];omega
  ·obtain rfl:j=n:=o_
   have HE:Hid (mkD (ms.take j)=mkD ms):=z_ (by rw [HN.out,List.take_length]);go_wp2;go_ret;exact ⟨qaa (by rw [HE.out]),HT.out⟩
def mkO (ms:List (List Nat)):Nat:=(ms.map fun d=>mkD d+4).sum
theorem qzq {ms:List (List Nat)}{j:Nat}(h:j<ms.length):mkO (ms.take (j+1))=mkO (ms.take j)+(mkD (ms.getD j [])+4):=by
 unfold mkO;exact c110_
theorem qCl (ms:List (List Nat))(j:Nat):mkO (ms.take j)≤mkO ms:=by
 unfold mkO;have e:(ms.map fun d=>mkD d+4).sum=((ms.take j).map fun d=>mkD d+4).sum+((ms.drop j).map fun d=>mkD d+4).sum:=by
  rw [← List.sum_append,← List.map_append,List.take_append_drop]
 omega
set_option maxHeartbeats 2000000 in
theorem qBp {lo hi:Nat}(k:Nat)(ms:List (List Nat))(hk:k+mkO ms≤1073741824)(hm:∀ d∈ms,∀ m∈d,m≤2097152)(v:Value)(w:World)(h:OpR lo hi w v ms):
  Calls Tryz.prog 53 #[v,.int .i64 k] w fun e w'=>e=.returned (.int .i64 ((k+mkO ms:Nat):Int))∧TyC lo hi w w':=by
 have HD:=z_ h;obtain ⟨n,hn⟩:=e_ (ms.length);have HN:=z_ hn;have av:n≤mkO ms:=by
  rw [hn];unfold mkO
  have:∀ l:List (List Nat),l.length≤(l.map fun d=>mkD d+4).sum:=fun l=>by
   exact c111_
  exact this ms
 have HK:=z_ hk;have HM:=z_ hm;have aw:∃ A c,v=.slice A n c∧n≤9223372036854775807:=by
  exact c113_
 obtain ⟨A,c,rfl,aI⟩:=aw;clear h hn hk hm av;go_enter Tryz.func53,Tryz.ntmps53
 go_wp2;go_loopw [1,5] (fun v i wr=>∃ (j:Nat),j≤n∧i=.int .i64 j∧v=.int .i64 ((k+mkO (ms.take j):Nat):Int)∧Hid (TyC lo hi w wr)) (fun _ i _=>n-(intOf i).toNat)
 case atStart=>exact ⟨0,y_,rfl,by simp [mkO],z_ (TyC.refl _ _ _)⟩
 case round=>
  obtain ⟨j,hj,rfl,rfl,HT⟩:=hrel;by_cases hl:j<n
  ·have ae:j<ms.length:=by have:=HN.out;omega
   obtain ⟨xs,h1,h2,h3⟩:=HD.out.tyc HT.out;obtain ⟨va,e1,e2⟩:=h3 j ae;have am:xs≠[]:=fun e=>by rw [e] at e1;simp at e1
   obtain ⟨g,cap,hv,ax,an⟩:=qb5 h1 am;simp only [Value.slice.injEq] at hv;obtain ⟨rfl,ay,rfl⟩:=hv;clear ay;have ao:=h2 g rfl;rw [← HN.out] at h1;have ag:=qzq ae;have az:=qCl ms (j+1);have aA:=HK.out;have ah:=HM.out _ (show ms.getD j []∈ms by rw [List.getD_eq_getElem?_getD,List.getElem?_eq_getElem ae];exact List.getElem_mem _);obtain ⟨q,hq⟩:=e_ (ms.getD j []);rw [← hq] at e2 ag ah;obtain ⟨kj,ac⟩:=e_ (k+mkO (ms.take j));rw [← ac];have HC:=z_ (fun W hW=>qx4 (lo:=lo) (hi:=hi) (kj+1) q o_ ah va W hW);have aB:=z_ e2;have HO:=z_ h1;have af:=z_ ao;obtain ⟨mq,ap⟩:=e_ (mkD q);rw [← ap] at ag HC;have aq:Hid (kj+(mq+4)=k+mkO (ms.take (j+1))∧kj+mq+4≤1073741824):=z_ ⟨by omega,by omega⟩;have aJ:kj+mq+4≤1073741824:=aq.out.2;have aK:=z_ e1;have aC:∃ A2 n2 c2,va=.slice A2 n2 c2:=by
    obtain ⟨ys,h9,_⟩:=e2;obtain ⟨A2,c2,e,_⟩:=qae h9;exact ⟨A2,_,c2,e⟩
   obtain ⟨A2,n2,c2,rfl⟩:=aC;obtain ⟨⟨v0,c0⟩,f0⟩:=qai h1 (i:=j*5) o_;have c1:=(h1.cellAt (j*5+1) o_).trans e1;have aa:g<wr.heap.size:=an;clear h1 h2 h3 e1 e2 am ax an ao ag az aA ah hq ac ae ap;go_wp2_with (go_at_call 54;refine (strl.qel kj o_ _).mono ?_;rintro e w1 ⟨rfl,ab⟩;have aD:=(ab.cell (p:=⟨g,j*5,none⟩) aa).trans c0;have aE:=(ab.frozen (p:=⟨g,j*5,none⟩) aa).trans f0;have aF:=(ab.cell (p:=⟨g,j*5+1,none⟩) aa).trans c1;clear c0 c1 f0)
   have ai:=z_ (qa2 HO.out ab);have aj:Hid (TyC lo hi wr (w1.setCell ⟨g,j*5,none⟩ (.string (bstr (109::dig kj))))):=z_ ((TyC.of_below ab).trans (qff ai.out af.out (j*5) _ (fun e=>absurd e (by decide)) (fun _=>by omega)));have au:((kj:Int)+1)=((kj+1:Nat):Int):=o_;refine (show Calls Tryz.prog 106 #[.slice A2 n2 c2,.int .i64 ((kj:Int)+1)] _ _ from au ▸ (HC.out _ (aB.out.tyc aj.out))).mono ?_;rintro e w2 ⟨rfl,ak⟩;have aG:=z_ ((HT.out.trans aj.out).trans ak);obtain ⟨ys,ad,_,_⟩:=qj6 (qa4 ai.out (j*5) (.string (bstr (109::dig kj)))) ak;have al:=z_ ad;obtain ⟨⟨v2,aL⟩,aM⟩:=qai ad (i:=j*5+2) o_;obtain ⟨⟨v3,aN⟩,aO⟩:=qai ad (i:=j*5+3) o_;obtain ⟨⟨v4,aP⟩,aQ⟩:=qai ad (i:=j*5+4) o_
   have aH:Hid (∀ a b c:Value,TyC lo hi w (((w2.setCell ⟨g,j*5+2,none⟩ a).setCell ⟨g,j*5+3,none⟩ b).setCell ⟨g,j*5+4,none⟩ c)):=z_ (fun a b c=>
    ((aG.out.trans (qff al.out af.out (j*5+2) a (fun e=>absurd e (by decide)) (fun _=>by omega))).trans (qff (qa4 al.out (j*5+2) a) af.out (j*5+3) b (fun e=>absurd e (by decide)) (fun _=>by omega))).trans (qff (qa4 (qa4 al.out (j*5+2) a) (j*5+3) b) af.out (j*5+4) c (fun e=>absurd e (by decide)) (fun _=>by omega)))
   clear ak ad HC ai aj au aD aE aF ab;go_wp2;go_roundw
   case rel=>exact ⟨j+1,by omega,by go_num,by rw [← aq.out.1];go_num,z_ (aH.out _ _ _)⟩
   case measure=>simp [intOf];omega
  ·obtain rfl:j=n:=o_
   have HE:Hid (mkO (ms.take j)=mkO ms):=z_ (by rw [HN.out,List.take_length]);go_wp2;go_ret;exact ⟨qaa (by rw [HE.out]),HT.out⟩
theorem qtg {lo hi:Nat}(k n m:Nat)(hn:n≤1048576)(hm:m≤1048576)(hk:k≤1048576)(v1 v2:Value)(w:World)(ak:hi≤w.heap.size)(h1:Rw lo hi w 9 1 v1 n)(h2:Rw lo hi w 201 2 v2 m):
  Calls Tryz.prog 52 #[.agg #[v1,v2],.int .i64 k] w fun e w'=>e=.returned (.int .i64 ((k+n+2*m:Nat):Int))∧TyC lo hi w w':=by
 have af:∃ A c,v1=.slice A n c:=by obtain ⟨xs,h,_⟩:=h1;obtain ⟨A,c,e,_⟩:=qae h;exact ⟨A,c,e⟩
 have ag:∃ A c,v2=.slice A m c:=by obtain ⟨xs,h,_⟩:=h2;obtain ⟨A,c,e,_⟩:=qae h;exact ⟨A,c,e⟩
 obtain ⟨A1,c1,rfl⟩:=af;obtain ⟨A2,c2,rfl⟩:=ag;have H1:=z_ (fun W (hW:TyC lo hi w W)=>qzn k n o_ o_ (.slice A1 n c1) W (h1.tyc hW));have H2:=z_ (fun W (hW:TyC lo hi w W)=>qzo (k+n) m o_ o_ (.slice A2 m c2) W (h2.tyc hW));have ah:Hid (∀ ob,TyC lo hi w (w.alloc ob)):=z_ (fun ob=>TyC.of_below (b_.alloc n_ ob));clear h1 h2;go_enter Tryz.func52,Tryz.ntmps52
 go_wp2_with fail
 obtain ⟨W,hW⟩:=e_ (w.alloc (.cells #[.slice A1 n c1,.slice A2 m c2] 43));have aa:=fr2_ hW;have ab:TyC lo hi w W:=by rw [hW];exact ah.out _
 rw [← hW];clear hW;refine (H1.out W ab).mono ?_;rintro e w1 ⟨rfl,ac⟩;have ad:=z_ (ab.trans ac);have ai:w1.cell? ⟨w.heap.size,1,none⟩=some (.slice A2 m c2):=by
  rcases ac.block _ (q_ aa) with h9|⟨_,h9,_⟩
  ·exact h_ w1 _ 1 _ _ _ (h9.trans aa)
  ·omega
 clear ac ab aa;go_wp2_with fail
 refine (H2.out w1 ad.out).mono ?_;rintro e w2 ⟨rfl,ae⟩;have aj:=z_ (ad.out.trans ae);clear ae ai;go_wp2;go_ret;exact ⟨qaa o_,aj.out⟩
theorem qzr {lo hi:Nat}(n m:Nat)(hn:n≤1048576)(hm:m≤1048576)(ms:List (List Nat))(hk:mkO ms≤8388608)(af:∀ d∈ms,∀ m∈d,m≤2097152)(v1 v2 v3:Value)(w:World)(ag:hi≤w.heap.size)(h1:Rw lo hi w 9 1 v1 n)(h2:Rw lo hi w 201 2 v2 m)(h3:OpR lo hi w v3 ms):
  Calls Tryz.prog 18 #[.agg #[v1,v2,v3],.int .i64 1] w fun e w'=>e=.returned (.int .i64 ((1+n+2*m+mkO ms:Nat):Int))∧TyC lo hi w w':=by
 have ah:∃ A c,v1=.slice A n c:=by obtain ⟨xs,h,_⟩:=h1;obtain ⟨A,c,e,_⟩:=qae h;exact ⟨A,c,e⟩
 have ai:∃ A c,v2=.slice A m c:=by obtain ⟨xs,h,_⟩:=h2;obtain ⟨A,c,e,_⟩:=qae h;exact ⟨A,c,e⟩
 have aj:∃ A c,v3=.slice A ms.length c:=by obtain ⟨xs,h,_⟩:=h3;obtain ⟨A,c,e,_⟩:=qae h;exact ⟨A,c,e⟩
 obtain ⟨A1,c1,rfl⟩:=ah;obtain ⟨A2,c2,rfl⟩:=ai;obtain ⟨A3,c3,rfl⟩:=aj;have H1:=z_ (fun W (hW:TyC lo hi w W)=>qtg 1 n m hn hm o_ (.slice A1 n c1) (.slice A2 m c2) W (Nat.le_trans ag hW.size) (h1.tyc hW) (h2.tyc hW));have H2:=z_ (fun W (hW:TyC lo hi w W)=>qBp (1+n+2*m) ms o_ af (.slice A3 ms.length c3) W (h3.tyc hW));have ak:Hid (∀ ob,TyC lo hi w (w.alloc ob)):=z_ (fun ob=>TyC.of_below (b_.alloc n_ ob));obtain ⟨q,hq⟩:=e_ (ms.length);obtain ⟨mm,hmm⟩:=e_ (mkO ms);rw [← hmm] at H2 hk ⊢;rw [← hq] at H2 ⊢;clear h1 h2 h3 hq hmm;go_enter Tryz.func18,Tryz.ntmps18
 go_wp2_with fail
 obtain ⟨W,hW⟩:=e_ (w.alloc (.cells #[.slice A1 n c1,.slice A2 m c2,.slice A3 q c3] 46));have aa:=fr2_ hW;have ab:TyC lo hi w W:=by rw [hW];exact ak.out _
 rw [← hW];clear hW;refine (H1.out W ab).mono ?_;rintro e w1 ⟨rfl,ac⟩;have ad:=z_ (ab.trans ac);have al:w1.cell? ⟨w.heap.size,2,none⟩=some (.slice A3 q c3):=by
  rcases ac.block _ (q_ aa) with h9|⟨_,h9,_⟩
  ·exact h_ w1 _ 2 _ _ _ (h9.trans aa)
  ·omega
 clear ac ab aa;go_wp2_with fail
 refine (H2.out w1 ad.out).mono ?_;rintro e w2 ⟨rfl,ae⟩;have am:=z_ (ad.out.trans ae);clear ae al;go_wp2;go_ret;exact ⟨rfl,am.out⟩
end Go.Proofs.YtiilamngcoegiaaGreat.tmk
