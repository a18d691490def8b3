/- parts -/
import Derived.Test.YtiilamngcoegiaaGreatQPk16
import Derived.Shelf.SlSortCmp.NoneTotal
import Derived.Test.YtiilamngcoegiaaGreatQPk14
import Derived.Deep.LoopGhost
import Derived.BigQuiet
namespace Go.Proofs.YtiilamngcoegiaaGreat
open Go.ChangeShapes Go.WideShapes Go.ChangeAt Go.RowKit
variable {lo x n N base B k:Nat}{w:World}{v:Value}{e:TypeId}{xs:List Value}{σ:List bndl.BindM}
namespace tmf
set_option maxRecDepth 100000
open mem dec rowl trm trmv terml termb termt termx tma tmr gramo tsk tsl tmb tmd
theorem qmb{size:Nat}(h:w.ownsRow base e size v n xs)(hx:x<base)(j:Nat)(u:Value):(w.setCell ⟨x,j,none⟩ u).ownsRow base e size v n xs:=by
 refine ⟨h.1,?_⟩;rcases h.2 with h2|⟨g,cap,cur,rfl,hb,hg,r⟩
 ·exact .inl h2
 ·exact .inr ⟨g,cap,cur,rfl,hb,by rw [Below.heap_setCell w ⟨x,j,none⟩ u g (by show g≠x;omega)];exact hg,r⟩
abbrev set4 (w:World)(x:Nat)(u0 u1 u2 u3:Value):World:=(((w.setCell ⟨x,0,none⟩ u0).setCell ⟨x,1,none⟩ u1).setCell ⟨x,2,none⟩ u2).setCell ⟨x,3,none⟩ u3
theorem qa9{a:World}(h:Below B a w)(hx:B≤x)(u0 u1 u2 u3:Value):Below B a (set4 w x u0 u1 u2 u3):=(((h.setCell hx u0).setCell hx u1).setCell hx u2).setCell hx u3
theorem qz8{size:Nat}(h:w.ownsRow base e size v n xs)(hx:x<base)(u0 u1 u2 u3:Value):(set4 w x u0 u1 u2 u3).ownsRow base e size v n xs:=qmb (qmb (qmb (qmb h hx _ _) hx _ _) hx _ _) hx _ _
theorem qd2 (hx:x<lo)(u0 u1 u2 u3:Value):Kept lo w (set4 w x u0 u1 u2 u3):=((((Kept.refl lo w).trans (Kept.set hx u0)).trans (Kept.set hx u1)).trans (Kept.set hx u2)).trans (Kept.set hx u3)
theorem qek (u:Int)(b:Bool)(k:Nat):∀ L:List TermM,qa2 (partsM u b k L)≤qa2 L
 | []=>Nat.le_refl _
 | a::L=>by
  have ih:=qek u b k L;have e:partsM u b k (a::L)=qd5 u b k a++partsM u b k L:=rfl;have e2:qa2 (qd5 u b k a++partsM u b k L)=qa2 (qd5 u b k a)+qa2 (partsM u b k L):=by simp [qa2]
  rw [e,e2];have e3:qa2 (a::L)=size a+qa2 L:=by simp [qa2]
  have e4:qa2 (qd5 u b k a)≤size a:=by
   have:size a=1+qa2 a.args:=by cases a;exact qbe _ _ _ _
   unfold qd5;split
   ·simp [qa2]
   ·split
    ·omega
    ·simp [qa2]
  omega
def FormP (N lo B:Nat)(wl:World)(t:TermM)(w':World)(v:Value):Prop:=∀ wz,Sub wl wz→Kept B w' wz→HasTs (N+1) lo wz v t.args
theorem c76_{p:Prop}(h:p:=by
 obtain ⟨g,cap,hv,bt,bu⟩:=qce ax.out (fun e=>by have h9:=congrArg List.length e;rw [qbr,List.length_nil] at h9;have:=HQ.out;omega);simp only [Value.slice.injEq] at hv;obtain ⟨rfl,_,rfl⟩:=hv
 have aC:=z_ (qo1 (N:=N) (lo:=lo) (g:=g) (cap:=c1) (base:=w.heap.size+3) wl w3 R HE.out (fun x hx=>by
  have h9:x.1∈partsM u a i L:=by rw [← HF.out];exact List.mem_map.2 ⟨x,hx,rfl⟩
  obtain ⟨j,hj,ej⟩:=List.getElem_of_mem h9;have h8:=qam hj;rw [qai hj,ej] at h8;have h7:size x.1=1+qa2 x.1.args:=by cases x.1;exact qbe _ _ _ _
  have:=aV.out.1;omega) (fun w' ba ad v hcell=>by
  have bF:=l_ hcell;have h8:=(bn.out.trans (Sub.below (Below.trans aE (ac.mono aE.size)))) ad v hcell;refine (World.cell?_of_block (ba.block _ (l_ h8) (fun hm=>?_))).trans h8;have:=bg.out;simp at hm
  omega) (by rw [← HQ.out];exact ax.out) (by have:=HQ.out;omega))
 rw [← HQ.out] at aC;go_wp2_with fail
 refine aC.out.mono ?_;rintro e w4 ⟨rfl,R',aD,ay,az,ap,au⟩;have aN:Below w.heap.size w w4:=ae.out.trans (au.below ae.out.size (fun k hk=>by simp at hk;omega));have ab:w4.heap[w.heap.size]? =w3.heap[w.heap.size]? := au.block _ (by have:=ae.out.size;omega) (by simp;omega);have aa:w4.heap[w.heap.size+1]? =w3.heap[w.heap.size+1]? := au.block _ o_ (by simp;omega);have k0:∀ y,w4.cell? ⟨w.heap.size,y,none⟩=w3.cell? ⟨w.heap.size,y,none⟩:=fun y=>World.cell?_of_block (a:=⟨w.heap.size,y,none⟩) ab
 have k1:∀ y,w4.cell? ⟨w.heap.size+1,y,none⟩=w3.cell? ⟨w.heap.size+1,y,none⟩:=fun y=>World.cell?_of_block (a:=⟨w.heap.size+1,y,none⟩) aa
 have k2:∀ y,w4.frozen? ⟨w.heap.size+1,y,none⟩=w3.frozen? ⟨w.heap.size+1,y,none⟩:=fun y=>World.frozen?_of_block (a:=⟨w.heap.size+1,y,none⟩) aa
 rw [← k1] at z0 z1 z2 z3;rw [← k2] at f0 f1 f2 f3;rw [← k0] at y5;have am:=z_ (ah.out R' (some ⟨g,0,none⟩) c1 w4 (.int .i64 (i:Int)) (.string { data:=#[] }) (.int .i64 0) (.slice (some ⟨g,0,none⟩) q c1) aD ag.out.1 ag.out.2 (by rw [if_pos aT,ay,HF.out]) az (by rw [aD] at ap;exact ap) aN);clear aD ay az ap au ab aa k0 k1 k2 aN aC;go_wp2;refine bodyPost_ret (v:=.agg #[.int .i64 (i:Int),.string { data:=#[] },.int .i64 0,.slice (some ⟨g,0,none⟩) q c1]) (by simp [results,Tryz.results161,go_sem,z0,z1,z2,z3]) rfl ?_;exact am.out
):p:=h
theorem j20_{p:Prop}(h:p:=by
 go_wp2;refine bodyPost_ret (v:=.agg #[.int .i64 (i:Int),.string { data:=#[] },.int .i64 0,.slice A1 q c1]) (by simp [results,Tryz.results161,go_sem,z0,z1,z2,z3]) rfl ?_;exact am.out
):p:=h
theorem c77_{p:Prop}(h:p:=by
 have aJ:cm=false:=by rw [aR.out];cases b<;>simp_all
 have am:=z_ (ah.out R A1 c1 w3 (.int .i64 (i:Int)) (.string { data:=#[] }) (.int .i64 0) (.slice A1 q c1) HQ.out.symm ag.out.1 ag.out.2 (by rw [if_neg (by rw [aJ];simp),HF.out]) HE.out ax.out ae.out);cases b with
 | false=>
  exact j20_
 | true=>
  have aq:¬ q≤7:=fun h=>al ⟨rfl,h⟩
  have d1:decide ((q:Int)≤7)=false:=f_;have d2:decide (q≤7)=false:=decide_eq_false aq;exact j20_
):p:=h
set_option maxRecDepth 50000 in
set_option maxHeartbeats 8000000 in
theorem qz9 (nm:List UInt8)(Ad:Option Addr)(dn cd:Nat)(a b:Bool)(u:Int)(hu:I64 u)(aU:0≤u)(i s0 s1 s2 s3 s4:Nat)(R0:List (TermM×Value))(va:Value)(wl w:World)(hs:Sub wl w)(aG:wl.heap.size≤w.heap.size)(h:RowIn N lo wl w va R0)(bb:∀ x∈R0,a=true→x.1.op=(i:Int)→x.1.args≠[])(bc:lo≤w.heap.size)(hsz:qa2 (R0.map Prod.fst)≤1048576):
  Calls Tryz.prog 161 #[aggE nm Ad dn cd a b u i s0 s1 s2 s3 s4,va] w fun e w'=>∃ v',e=.returned (aggT (qc5 u a b i (R0.map Prod.fst)) v')∧FormP N lo w.heap.size wl (qc5 u a b i (R0.map Prod.fst)) w' v'∧Below w.heap.size w w':=by
 have bd:=qek u a i (R0.map Prod.fst);have be:=qat (partsM u a i (R0.map Prod.fst));have aO:=z_ (fun W (hW:Below w.heap.size w W)=>qpo nm Ad dn cd a b u hu aU i s0 s1 s2 s3 s4 R0 va wl W (hs.trans (Sub.below hW)) (h.sub (Sub.below hW)) bb o_);have bf:=z_ (fun r hr W=>qiz nm Ad dn cd a b u i s0 s1 s2 s3 s4 r hr W);obtain ⟨A,c,rfl,h,bw⟩:=h.shape rfl;obtain ⟨m,hm⟩:=e_ (R0.length);obtain ⟨L,hL⟩:=e_ (R0.map Prod.fst);rw [← hL] at aO bd be hsz ⊢;rw [← hm] at aO ⊢;have bx:=z_ hs;have bg:=z_ aG;have bz:=z_ bc;have aV:Hid (qa2 (partsM u a i L)≤1048576∧(partsM u a i L).length≤1048576):=z_ ⟨by omega,by omega⟩;have HU:=z_ (And.intro hu aU);obtain ⟨W,hW⟩:=e_ ((w.alloc (.cells #[.string (bstr nm),.slice Ad dn cd,.bool a,.bool b,.int .i64 u,.int .i64 (i:Int),.int .i64 (s0:Int),.int .u16 (s1:Int),.int .u16 (s2:Int),.int .u16 (s3:Int),.int .u16 (s4:Int)] 181)).alloc (.cells #[.int .i64 0,.string { data:=#[] },.int .i64 0,.slice none 0 0] 38));have bh:Below w.heap.size w W:=by
  rw [hW];exact v_
 have bi:W.heap.size=w.heap.size+2:=by rw [hW];simp
 have bj:C11 w.heap.size nm Ad dn cd a b u i s0 s1 s2 s3 s4 W:=by
  rw [hW];exact qp8 (qbd _ _ _)
 have bk:W.heap[w.heap.size+1]? =some (.cells #[.int .i64 0,.string { data:=#[] },.int .i64 0,.slice none 0 0] 38 (0,0)):=by rw [hW];exact termt.qa5 _ _ _ (by simp)
 have aP:=z_ bh;have aQ:=z_ bi;have aW:=z_ bj;have bl:=z_ bk;clear h hsz bb hm hL hs aG bc bd be bw hu aU bh bi bj bk;obtain ⟨y0,y1,y2,y3,y4,y5,y6,y7,y8,y9,an⟩:=aW.out;go_enter Tryz.func161,Tryz.ntmps161
 go_wp2_with fail
 rw [← hW];clear hW;refine (aO.out W aP.out).mono ?_;rintro e w1 ⟨v1,R,rfl,hR,hE,hown,aH,aI⟩;have HF:=z_ hR;have HE:=z_ hE;have HN:=z_ aH;have aX:=z_ (aP.out.trans (aI.mono aP.out.size));have bG:w.heap.size+2≤w1.heap.size:=by have:=aI.size;have:=aQ.out;omega
 have HO:Hid (w1.ownsRow (w.heap.size+3) 38 4 v1 R.length (rowV R)):=z_ (by rw [aQ.out] at hown;exact hown);have av:Hid (R.length=(partsM u a i L).length):=z_ (by rw [← hR,List.length_map]);have aY:Hid (C11 w.heap.size nm Ad dn cd a b u i s0 s1 s2 s3 s4 w1):=z_ (aW.out.below aI);have bm:Hid (w1.heap[w.heap.size+1]? =some (.cells #[.int .i64 0,.string { data:=#[] },.int .i64 0,.slice none 0 0] 38 (0,0))):=z_ ((aI.block _ (by have:=aQ.out;omega)).trans bl.out);obtain ⟨A1,c1,rfl,aJ⟩:=qaz HO.out;obtain ⟨q,hq⟩:=e_ (R.length);rw [← hq] at HO av aJ ⊢;have HQ:=z_ hq;have bA:q≤1048576:=by have:=aV.out.2;have:=av.out;omega
 clear aI hR hE hown aH hq y0 y1 y2 y3 y4 y5 y6 y7 y8 y9 an aW bl aQ aP aO;have bn:Hid (Sub wl w1):=z_ (bx.out.trans (Sub.below aX.out));obtain ⟨cm,hcm⟩:∃ cm:Bool,cm=(b&&decide (q≤7)):=⟨_,rfl⟩;have aR:=z_ hcm
 have bo:Hid (¬ (u≠0∧q=0)→¬ (u≠0∧q=1)→qc5 u a b i L=.mk i [] 0 (if cm=true then qcj (partsM u a i L) else partsM u a i L)):=z_ (fun h0 h1=>by
  unfold qc5;rw [if_neg (by rw [← av.out];exact h0),if_neg (by rw [← av.out];exact h1)];congr 1
  rw [← av.out,hcm];by_cases hb:b=true∧q≤7
  ·rw [if_pos hb,if_pos (by simp [hb])]
  ·rw [if_neg hb,if_neg (fun h=>hb Bg_)])
 have ah:Hid (∀ (R':List (TermM×Value)) (A2:Option Addr) (c2:Nat) (w5:World) (u0 u1 u2 u3:Value),R'.length=q→¬ (u≠0∧q=0)→¬ (u≠0∧q=1)→R'.map Prod.fst=(if cm=true then qcj (partsM u a i L) else partsM u a i L)→(∀ x∈R',El N lo wl x)→w5.ownsRow (w.heap.size+3) 38 4 (.slice A2 q c2) q (rowV R')→Below w.heap.size w w5→
   ∃ v',(Ending.returned (.agg #[.int .i64 (i:Int),.string (bstr []),.int .i64 0,.slice A2 q c2]))=.returned (aggT (qc5 u a b i L) v')∧FormP N lo w.heap.size wl (qc5 u a b i L) (set4 w5 (w.heap.size+1) u0 u1 u2 u3) v'∧Below w.heap.size w (set4 w5 (w.heap.size+1) u0 u1 u2 u3)):=z_ (fun R' A2 c2 w5 u0 u1 u2 u3 hl h0 h1 ay az ap bB=>by
  refine ⟨.slice A2 q c2,by rw [bo.out h0 h1];rfl,fun wz hz hk=>?_,qa9 bB o_ _ _ _ _⟩;have aw:=qz8 ap (x:=w.heap.size+1) o_ u0 u1 u2 u3;rw [← hl] at aw;have:=qvt aw az (by have:=bz.out;omega) hz (hk.mono o_);rw [ay,hl] at this;rw [bo.out h0 h1]
  exact this)
 obtain ⟨hu,aZ⟩:∃ z,decide (u≠0)=z:=⟨_,rfl⟩;have bp:=z_ aZ;have aS:=z_ (fun W=>bf.out hu aZ W);have a6:(bstr []:ByteArray)={ data:=#[] }:=rfl;clear hcm aZ bf;obtain ⟨y0,y1,y2,y3,y4,y5,y6,y7,y8,y9,an⟩:=aY.out;have bq:Hid (∀ w2,Below w1.heap.size w1 w2→C11 w.heap.size nm Ad dn cd a b u i s0 s1 s2 s3 s4 w2∧w2.heap[w.heap.size+1]? =some (.cells #[.int .i64 0,.string { data:=#[] },.int .i64 0,.slice none 0 0] 38 (0,0))∧Below w.heap.size w w2∧w2.ownsRow (w.heap.size+3) 38 4 (.slice A1 q c1) q (rowV R)):=z_ (fun w2 h2=>⟨aY.out.below h2,(h2.block _ o_).trans bm.out,aX.out.trans (h2.mono aX.out.size),own_below HO.out h2⟩);clear aY bm;go_wp2_with fail
 refine (aS.out _).mono ?_;rintro e w2 ⟨rfl,aE⟩;obtain ⟨br,bs,aF,aw⟩:=bq.out w2 aE;clear y0 y1 y2 y3 y4 y5 y6 y7 y8 y9 an
 have aA:Hid (∀ w3:World,Below w2.heap.size w2 w3→C11 w.heap.size nm Ad dn cd a b u i s0 s1 s2 s3 s4 w3∧(w3.cell? ⟨w.heap.size+1,0,none⟩=some (.int .i64 0)∧w3.cell? ⟨w.heap.size+1,1,none⟩=some (.string { data:=#[] })∧w3.cell? ⟨w.heap.size+1,2,none⟩=some (.int .i64 0)∧w3.cell? ⟨w.heap.size+1,3,none⟩=some (.slice none 0 0))∧(w3.frozen? ⟨w.heap.size+1,0,none⟩=false∧w3.frozen? ⟨w.heap.size+1,1,none⟩=false∧w3.frozen? ⟨w.heap.size+1,2,none⟩=false∧w3.frozen? ⟨w.heap.size+1,3,none⟩=false)∧Below w.heap.size w w3∧w3.ownsRow (w.heap.size+3) 38 4 (.slice A1 q c1) q (rowV R)):=z_ (fun w3 h3=>by
  have h4:=(h3.block _ (by have:=aE.size;omega)).trans bs
  exact ⟨br.below h3,⟨h_ w3 _ 0 _ _ _ h4,h_ w3 _ 1 _ _ _ h4,h_ w3 _ 2 _ _ _ h4,h_ w3 _ 3 _ _ _ h4⟩,⟨g_ w3 _ 0 _ _ h4,g_ w3 _ 1 _ _ h4,g_ w3 _ 2 _ _ h4,g_ w3 _ 3 _ _ h4⟩,aF.trans (h3.mono aF.size),own_below aw h3⟩)
 clear br bs aF aw bq;have hw:wrap64 (u-1)=u-1:=by
  obtain ⟨⟨h1,h2⟩,h3⟩:=HU.out;exact IntWalk.wrap64_in (u-1) o_
 have bH:=z_ hw;obtain ⟨⟨y0,y1,y2,y3,y4,y5,y6,y7,y8,y9,an⟩,⟨z0,z1,z2,z3⟩,⟨f0,f1,f2,f3⟩,aF,aw⟩:=aA.out w2 b_;have bI:=z_ aF;have bJ:=z_ aw;clear aF aw;cases hu with
 | true=>
  have aB:u≠0:=of_decide_eq_true bp.out;by_cases ao:q=0
  ·have b1:((q:Int)==0)=true:=by rw [ao];rfl
   have b2:(q==0)=true:=by rw [ao];rfl
   have aK:Hid (qc5 u a b i L=.mk (u-1) [] 0 []):=z_ (by unfold qc5;rw [if_pos ⟨aB,by rw [← av.out];exact ao⟩]);have bC:=z_ (fun W=>qyf nm Ad dn cd a b u HU.out.1 HU.out.2 i s0 s1 s2 s3 s4 W);go_wp2_with fail
   refine (bC.out _).mono ?_;rintro e w3 ⟨rfl,ac⟩;clear y0 y1 y2 y3 y4 y5 y6 y7 y8 y9 an z0 z1 z2 z3 f0 f1 f2 f3;obtain ⟨_,⟨z0,z1,z2,z3⟩,⟨f0,f1,f2,f3⟩,ai,_⟩:=aA.out w3 ac;have ae:=z_ ai;clear ai ac;go_wp2;refine bodyPost_ret (v:=.agg #[.int .i64 (u-1),.string { data:=#[] },.int .i64 0,.slice none 0 0]) (by simp [results,Tryz.results161,go_sem,z0,z1,z2,z3]) rfl ?_;rw [aK.out];exact ⟨.slice none 0 0,rfl,fun wz _ _=>HasR.nil _ _ _ Aa_ _,qa9 ae.out o_ _ _ _ _⟩
  ·have b1:((q:Int)==0)=false:=by simp;omega
   have b2:(q==0)=false:=by simp [ao]
   have b3:decide ((q:Int)=0)=false:=f_;by_cases aL:q=1
   ·have b4:((q:Int)==1)=true:=by rw [aL];rfl
    have b5:(q==1)=true:=by rw [aL];rfl
    go_wp2_with fail
    refine (aS.out _).mono ?_;rintro e w3 ⟨rfl,ac⟩;clear y0 y1 y2 y3 y4 y5 y6 y7 y8 y9 an z0 z1 z2 z3 f0 f1 f2 f3;obtain ⟨_,⟨z0,z1,z2,z3⟩,⟨f0,f1,f2,f3⟩,ai,af⟩:=aA.out w3 ac;obtain ⟨g,cap,hv,bt,bu⟩:=qce af (fun e=>by have h9:=congrArg List.length e;rw [qbr,List.length_nil] at h9;have:=HQ.out;omega);simp only [Value.slice.injEq] at hv;obtain ⟨rfl,_,rfl⟩:=hv;have a7:0<R.length:=by have:=HQ.out;omega
    obtain ⟨a0,a1,a2,a3⟩:=qh5 R 0 a7;have aM:=HE.out _ (qph a7)
    have aK:Hid (qc5 u a b i L=(R.getD 0 p0).1):=z_ (by
     unfold qc5
     rw [if_neg (fun h=>ao (by rw [av.out];exact h.2)),if_pos ⟨aB,by rw [← av.out];exact aL⟩,← HF.out,qrf a7])
    obtain ⟨x,hx⟩:=e_ (R.getD 0 p0);rw [← hx] at a0 a1 a2 a3 aM aK;have r0:=(af.cellAt 0 o_).trans a0;have r1:=(af.cellAt 1 o_).trans a1;have r2:=(af.cellAt 2 o_).trans a2;have r3:=(af.cellAt 3 o_).trans a3;obtain ⟨Bx,cx,a8,_⟩:=HasR.shape aM.1 rfl;obtain ⟨xt,xv⟩:=x;simp only [] at r0 r1 r2 r3 aM aK a8;have bD:=z_ aM;have ae:=z_ ai;obtain ⟨xl,bv⟩:=e_ (xt.args.length);rw [← bv] at a8;subst a8;clear a0 a1 a2 a3 aM hx ai af ac bv;go_wp2;refine bodyPost_ret (v:=.agg #[.int .i64 xt.op,.string (bstr xt.name),.int .i64 xt.sort,.slice Bx xl cx]) (by simp [results,Tryz.results161,go_sem,z0,z1,z2,z3]) rfl ?_;rw [aK.out];exact ⟨_,rfl,fun wz hz _=>(qbh N hz bD.out.1).up (Nat.le_succ N),qa9 ae.out o_ _ _ _ _⟩
   ·have b4:((q:Int)==1)=false:=by simp;omega
    have b5:(q==1)=false:=by simp [aL]
    have b6:decide ((q:Int)=1)=false:=f_;have aj:¬ (u≠0∧q=0):=fun h=>ao h.2
    have ak:¬ (u≠0∧q=1):=fun h=>aL h.2
    go_wp2_with fail
    have ag:Hid (¬ (u≠0∧q=0)∧¬ (u≠0∧q=1)):=z_ ⟨aj,ak⟩;clear aj ak;refine (aS.out _).mono ?_;rintro e w3 ⟨rfl,ac⟩;clear y0 y1 y2 y3 y4 y5 y6 y7 y8 y9 an z0 z1 z2 z3 f0 f1 f2 f3;obtain ⟨⟨y0,y1,y2,y3,y4,y5,y6,y7,y8,y9,an⟩,⟨z0,z1,z2,z3⟩,⟨f0,f1,f2,f3⟩,ai,af⟩:=aA.out w3 ac;have ae:=z_ ai;have ax:=z_ af;have bE:=z_ (fun w4 (h4:Below w3.heap.size w3 w4)=>aA.out w4 (ac.trans (h4.mono ac.size)));clear ai af;by_cases al:b=true∧q≤7
    ·obtain ⟨rfl,aq⟩:=al
     have aT:cm=true:=by rw [aR.out];simp [aq]
     have d1:decide ((q:Int)≤7)=true:=d_;have d2:decide (q≤7)=true:=decide_eq_true aq;by_cases ao:q=0
     ·exact absurd ao (fun h=>ag.out.1 ⟨aB,h⟩)
     ·exact c76_
    ·exact c77_
 | false=>
  have aB:u=0:=by have:=of_decide_eq_false bp.out;omega
  have aj:¬ (u≠0∧q=0):=fun h=>h.1 aB
  have ak:¬ (u≠0∧q=1):=fun h=>h.1 aB
  clear aB;go_wp2_with fail
  have ag:Hid (¬ (u≠0∧q=0)∧¬ (u≠0∧q=1)):=z_ ⟨aj,ak⟩;clear aj ak;refine (aS.out _).mono ?_;rintro e w3 ⟨rfl,ac⟩;clear y0 y1 y2 y3 y4 y5 y6 y7 y8 y9 an z0 z1 z2 z3 f0 f1 f2 f3;obtain ⟨⟨y0,y1,y2,y3,y4,y5,y6,y7,y8,y9,an⟩,⟨z0,z1,z2,z3⟩,⟨f0,f1,f2,f3⟩,ai,af⟩:=aA.out w3 ac;have ae:=z_ ai;have ax:=z_ af;have bE:=z_ (fun w4 (h4:Below w3.heap.size w3 w4)=>aA.out w4 (ac.trans (h4.mono ac.size)));clear ai af;by_cases al:b=true∧q≤7
  ·obtain ⟨rfl,aq⟩:=al
   have aT:cm=true:=by rw [aR.out];simp [aq]
   have d1:decide ((q:Int)≤7)=true:=d_;have d2:decide (q≤7)=true:=decide_eq_true aq;by_cases ao:q=0
   ·have hR:=List.eq_nil_of_length_eq_zero (show R.length=0 by have:=HQ.out;omega)
    have h9:=HN.out hR;simp only [Value.slice.injEq] at h9;obtain ⟨rfl,_,rfl⟩:=h9;subst ao
    have am:=z_ (ah.out [] none 0 w3 (.int .i64 (i:Int)) (.string { data:=#[] }) (.int .i64 0) (.slice none 0 0) rfl ag.out.1 ag.out.2 (by
     have h9:=HF.out;rw [hR] at h9;rw [if_pos aT,← h9]
     rfl) (fun x hx=>by cases hx) (by have:=ax.out;rw [hR] at this;exact this) ae.out)
    clear hR;go_wp2_with fail
    refine (AnyF.slices_SortFunc_none termsl.qB9 none 0 _ _).mono ?_;rintro e w4 ⟨rfl,rfl⟩;go_wp2;refine bodyPost_ret (v:=.agg #[.int .i64 (i:Int),.string { data:=#[] },.int .i64 0,.slice none 0 0]) (by simp [results,Tryz.results161,go_sem,z0,z1,z2,z3]) rfl ?_;exact am.out
   ·exact c76_
  ·exact c77_
end tmf

namespace tmg
open mem dec setm sortp sorti rowl trm trmv terml termb termt termx termro frm termlm gram gramc gramn tma tmr tsk tsl tmf
def zT:TermM:=.mk 0 [] 0 []
def orZ (r:Bool)(t:TermM):TermM:=if r=true then t else zT
noncomputable def qdd (G:GrM)(op:Int)(L:List TermM):TermM:=qc5 (G.E.getD op.toNat default).1.unt (G.E.getD op.toNat default).1.ass (G.E.getD op.toNat default).1.com op.toNat L
theorem FormP.later{B':Nat}{wl w1 w2:World}{t:TermM}(h:FormP N lo B wl t w1 v)(hk:Kept B w1 w2)(hB:B'≤B):FormP N lo B' wl t w2 v:=fun wz hz aa=>h wz hz (hk.trans (aa.mono hB))
theorem qtf (N lo B:Nat)(wl w:World):FormP N lo B wl zT w (.slice none 0 0):=fun wz _ _=>HasR.nil _ _ _ Aa_ _
theorem qtg (u:Int)(b c:Bool)(k:Nat)(L:List TermM):qa2 (qc5 u b c k L).args≤qa2 L:=by
 have h:=qek u b k L;unfold qc5;split
 ·simp [qa2,TermM.args]
 ·split
  ·rename_i h1
   have h2:=qam (l:=partsM u b k L) (j:=0) o_;have h3:=termro.qao ((partsM u b k L).getD 0 default);omega
  ·show qa2 (if _ then _ else _)≤_
   split
   ·have h2:qa2 (qcj (partsM u b k L))=qa2 (partsM u b k L):=by
     unfold qa2;exact ((qb9 _).2.map size).sum_nat
    omega
   ·exact h
theorem qmc{u:Int}(hu:I64 u)(aa:0≤u){b c:Bool}(hk:k≤9223372036854775807){R:List (TermM×Value)}(hB:∀ x∈R,Bnd x.1)(hA:∀ x∈R,∀ a∈x.1.args,Bnd a):Bnd (qc5 u b c k (R.map Prod.fst)):=by
 obtain ⟨h1,h2⟩:=hu;unfold qc5;split
 ·exact ⟨by show ([]:List UInt8).length≤_;simp,by unfold I64;show -9223372036854775808≤u-1∧u-1≤9223372036854775807;omega,by unfold I64;show (-9223372036854775808:Int)≤0∧(0:Int)≤9223372036854775807;omega⟩
 ·split
  ·rename_i h1
   have hm:(partsM u b k (R.map Prod.fst)).getD 0 default∈partsM u b k (R.map Prod.fst):=by rw [List.getD_eq_getElem?_getD,List.getElem?_eq_getElem o_];exact List.getElem_mem _
   obtain ⟨a,ha,h|h⟩:=tmm.qei hm
   ·rw [h.1]
    obtain ⟨x,hx,rfl⟩:=List.mem_map.1 ha;exact hB x hx
   ·obtain ⟨x,hx,rfl⟩:=List.mem_map.1 ha
    exact hA x hx _ h.1
  ·exact ⟨by show ([]:List UInt8).length≤_;simp,by unfold I64;show (-9223372036854775808:Int)≤(k:Int)∧(k:Int)≤9223372036854775807;omega,by unfold I64;show (-9223372036854775808:Int)≤0∧(0:Int)≤9223372036854775807;omega⟩
theorem qpp{wl:World}{x:TermM×Value}(h:El N lo wl x):∀ a∈x.1.args,Bnd a:=by
 intro a ha;obtain ⟨A,c,e,h1⟩:=HasR.shape h.1 rfl;obtain ⟨i,hi,ei⟩:=List.getElem_of_mem ha;obtain ⟨_,_,_,_,_,_,_,_,_,_,_,_,_,_,hb⟩:=qal h1 hi;rw [qai hi,ei] at hb;exact hb
set_option maxRecDepth 50000 in
set_option maxHeartbeats 8000000 in
theorem qpq (G:GrM)(hG:GrOk G)(mm:Option Nat)(A:Option Addr)(n c:Nat)(op:Int)(aq:I64 op)(R0:List (TermM×Value))(va:Value)(wl w:World)(hs:Sub wl w)(ag:wl.heap.size≤w.heap.size)(hM:HasM w (.map mm) (.slice A n c) G)(hn:n=G.E.length)(h:RowIn N lo wl w va R0)(aD:∀ x∈R0,∀ k,k<n→(G.E.getD k default).1.ass=true→x.1.op=(k:Int)→x.1.args≠[])(aV:lo≤w.heap.size)(hsz:qa2 (R0.map Prod.fst)≤1048576)(r:Bool)(hr:r=true↔CanP G op (R0.map Prod.fst)∧LimT (qdd G op (R0.map Prod.fst))):
  Calls Tryz.prog 100 #[.agg #[.map mm,.slice A n c],.int .i64 op,va] w fun e w'=>∃ t' v',e=.returned (.tuple #[aggT t' v',.bool r])∧t'=orZ r (qdd G op (R0.map Prod.fst))∧FormP N lo w.heap.size wl t' w' v'∧Below w.heap.size w w':=by
 obtain ⟨L,hL⟩:=e_ (R0.map Prod.fst);obtain ⟨cb,ae⟩:=x_ (CanP G op L);have au:=z_ (fun W (hW:Below w.heap.size w W)=>qhl G hG (.map mm) A n c op aq L va W (hM.below hW) hn (by rw [hL];exact ((h.wl hs).sub (Sub.below hW)).has (Sub.below hW)) cb ae);obtain ⟨A1,c1,rfl,h,aW⟩:=h.shape rfl;obtain ⟨m,hm⟩:=e_ (R0.length);have ab:∀ x∈R0,Bnd x.1:=fun x hx=>(by obtain ⟨_,_,_,_,_,_,h4⟩:=h;exact (h4 x hx).2)
 have ac:∀ x∈R0,∀ a∈x.1.args,Bnd a:=fun x hx=>(by obtain ⟨_,_,_,_,_,_,h4⟩:=h;exact qpp (h4 x hx))
 rw [← hL] at hr hsz ⊢;rw [← hm] at au ⊢;obtain ⟨W,hW⟩:=e_ ((w.alloc (.cells #[.map mm,.slice A n c] 92)).alloc (.cells #[.int .i64 0,.string { data:=#[] },.int .i64 0,.slice none 0 0] 38));have av:Below w.heap.size w W:=by
  rw [hW];exact v_
 have aE:W.heap.size=w.heap.size+2:=by rw [hW];simp
 have ah:W.heap[w.heap.size]? =some (.cells #[.map mm,.slice A n c] 92 (0,0)):=by rw [hW];exact tsl.qbd _ _ _
 have aF:W.heap[w.heap.size+1]? =some (.cells #[.int .i64 0,.string { data:=#[] },.int .i64 0,.slice none 0 0] 38 (0,0)):=by rw [hW];exact termt.qa5 _ _ _ (by simp)
 have af:=z_ av
 have aw:Hid (∀ w3,Below W.heap.size W w3→w.heap.size+2≤w3.heap.size∧(w3.cell? ⟨w.heap.size,0,none⟩=some (.map mm)∧w3.cell? ⟨w.heap.size,1,none⟩=some (.slice A n c))∧(w3.cell? ⟨w.heap.size+1,0,none⟩=some (.int .i64 0)∧w3.cell? ⟨w.heap.size+1,1,none⟩=some (.string { data:=#[] })∧w3.cell? ⟨w.heap.size+1,2,none⟩=some (.int .i64 0)∧w3.cell? ⟨w.heap.size+1,3,none⟩=some (.slice none 0 0))∧
   (w3.frozen? ⟨w.heap.size+1,0,none⟩=false∧w3.frozen? ⟨w.heap.size+1,1,none⟩=false∧w3.frozen? ⟨w.heap.size+1,2,none⟩=false∧w3.frozen? ⟨w.heap.size+1,3,none⟩=false)):=z_ (fun w3 h3=>by
  have h4:=(h3.block _ o_).trans ah;have h5:=(h3.block _ o_).trans aF
  exact ⟨by have:=h3.size;omega,⟨h_ w3 _ 0 _ _ _ h4,h_ w3 _ 1 _ _ _ h4⟩,⟨h_ w3 _ 0 _ _ _ h5,h_ w3 _ 1 _ _ _ h5,h_ w3 _ 2 _ _ _ h5,h_ w3 _ 3 _ _ _ h5⟩,⟨g_ w3 _ 0 _ _ h5,g_ w3 _ 1 _ _ h5,g_ w3 _ 2 _ _ h5,g_ w3 _ 3 _ _ h5⟩⟩)
 have aG:Hid (r=false→∀ (w4:World) (u0 u1 u2 u3:Value),Below w.heap.size w w4→∃ t' v',(Ending.returned (.tuple #[.agg #[.int .i64 0,.string { data:=#[] },.int .i64 0,.slice none 0 0],.bool false]))=.returned (.tuple #[aggT t' v',.bool r])∧t'=orZ r (qdd G op L)∧FormP N lo w.heap.size wl t' (set4 w4 (w.heap.size+1) u0 u1 u2 u3) v'∧Below w.heap.size w (set4 w4 (w.heap.size+1) u0 u1 u2 u3)):=z_ (fun aX w4 u0 u1 u2 u3 h4=>
  ⟨zT,.slice none 0 0,by rw [aX];rfl,by rw [aX];rfl,qtf _ _ _ _ _,qa9 h4 o_ _ _ _ _⟩)
 have aY:=z_ ae;have HR:=z_ hr;have aZ:=h_ W _ 0 _ _ _ ah;have a6:=h_ W _ 1 _ _ _ ah;cases cb with
 | false=>
  have bj:Hid (r=false):=z_ (by cases bk:r with
   | false=>rfl
   | true=>exact absurd (aY.out.2 (HR.out.1 bk).1) (by simp))
  clear hs ag hM hn h aD aV hsz hr ae hL hm aW ab ac hG aq ah aF av aE;go_enter Tryz.func100,Tryz.ntmps100
  go_wp2_with fail
  rw [← hW];clear hW;refine (au.out W af.out).mono ?_;rintro e w1 ⟨rfl,aa⟩;have ai:=z_ (af.out.trans (aa.mono af.out.size));obtain ⟨bl,⟨x0,x1⟩,⟨z0,z1,z2,z3⟩,⟨f0,f1,f2,f3⟩⟩:=aw.out w1 aa;clear aa aZ a6;go_wp2;refine bodyPost_ret (v:=.tuple #[.agg #[.int .i64 0,.string { data:=#[] },.int .i64 0,.slice none 0 0],.bool false]) (by simp [results,Tryz.results100,go_sem,z0,z1,z2,z3]) rfl ?_;exact aG.out bj.out w1 _ _ _ _ ai.out
 | true=>
  obtain ⟨bm,bn,bo⟩:=ae.1 rfl;obtain ⟨k,hk⟩:∃ k:Nat,op=(k:Int):=⟨op.toNat,by omega⟩;have aH:k<n:=o_;obtain ⟨ge,oe,A2,c2,hA,a7,hcs,_⟩:=qnd hM.e aH;obtain ⟨aI,aJ,aj,ak⟩:=hG k o_;obtain ⟨⟨⟨nm,ds,a,b,u⟩,i,s0,s1,s2,s3,s4⟩,hx⟩:∃ x,x=G.E.getD k default:=⟨_,rfl⟩;have ax:qdd G op L=qc5 u a b k L:=by unfold qdd;rw [hk,Int.toNat_natCast,← hx]
  rw [← hx] at hcs aI aJ aj ak;simp only [] at aI aJ aj ak;subst aI;have al:∀ x∈R0,a=true→x.1.op=(i:Int)→x.1.args≠[]:=fun x bp ha ho=>aD x bp i aH (by rw [← hx];exact ha) ho
  have a8:w.heap.size≤W.heap.size:=o_;have ay:=z_ (fun W' (az:Below w.heap.size w W')=>qz9 (N:=N) (lo:=lo) nm A2 ds.length c2 a b u ak aj i s0 s1 s2 s3 s4 R0 (.slice A1 R0.length c1) wl W' (hs.trans (Sub.below az)) (by have:=az.size;omega) (h.sub (Sub.below az)) al (by have:=az.size;omega) (by rw [← hL];exact hsz));rw [← hL,← hm] at ay;have aK:Bnd (qc5 u a b i L):=by rw [hL];exact qmc ak aj (by obtain ⟨h1,h2⟩:=aq;omega) ab ac
  have ad:qa2 (qc5 u a b i L).args≤1048576:=Nat.le_trans (qtg u a b i L) hsz;obtain ⟨ft,ba⟩:=e_ (qc5 u a b i L);rw [← ba] at ay aK ad ax;have bb:=z_ (fun W' v' (bq:HasTs (N+1) lo W' v' ft.args)=>qk9 (W0:=W') (w:=W') ft v' bq aK ad b_);have bc:Hid (r=true↔LimT ft):=z_ (by rw [hr,ax];exact ⟨fun h=>h.2,fun h=>⟨ae.1 rfl,h⟩⟩);have bd:=z_ ax;obtain ⟨dl,aL⟩:=e_ (ds.length);rw [← aL] at ay;subst hA;have kW:∀ {q:Nat} {v:Value},w.cell? ⟨ge,q,none⟩=some v→∀ w3,Below W.heap.size W w3→w3.cell? ⟨ge,q,none⟩=some v:=fun {q v} h w3 h3=>((av.trans (h3.mono a8)).cell (p:=⟨ge,q,none⟩) a7).trans h
  have HE:Hid (∀ w3,Below W.heap.size W w3→w3.cell? ⟨ge,oe+i*11,none⟩=some (.string (bstr nm))∧w3.cell? ⟨ge,oe+i*11+1,none⟩=some (.slice A2 dl c2)∧w3.cell? ⟨ge,oe+i*11+2,none⟩=some (.bool a)∧w3.cell? ⟨ge,oe+i*11+3,none⟩=some (.bool b)∧w3.cell? ⟨ge,oe+i*11+4,none⟩=some (.int .i64 u)∧w3.cell? ⟨ge,oe+i*11+5,none⟩=some (.int .i64 (i:Int))∧
    w3.cell? ⟨ge,oe+i*11+6,none⟩=some (.int .i64 (s0:Int))∧w3.cell? ⟨ge,oe+i*11+7,none⟩=some (.int .u16 (s1:Int))∧w3.cell? ⟨ge,oe+i*11+8,none⟩=some (.int .u16 (s2:Int))∧w3.cell? ⟨ge,oe+i*11+9,none⟩=some (.int .u16 (s3:Int))∧w3.cell? ⟨ge,oe+i*11+10,none⟩=some (.int .u16 (s4:Int))):=z_ (fun w3 h3=>
   ⟨kW (hcs 0 o_) w3 h3,kW (by rw [aL];exact hcs 1 o_) w3 h3,kW (hcs 2 o_) w3 h3,kW (hcs 3 o_) w3 h3,kW (hcs 4 o_) w3 h3,kW (hcs 5 o_) w3 h3,kW (hcs 6 o_) w3 h3,kW (hcs 7 o_) w3 h3,kW (hcs 8 o_) w3 h3,kW (hcs 9 o_) w3 h3,kW (hcs 10 o_) w3 h3⟩)
  have i1:(0:Int)≤(i:Int):=o_;have i2:(i:Int)<(n:Int):=o_;have bw:Hid (W.heap.size=w.heap.size+2):=z_ aE;have br:Hid (∀ w3,Below w.heap.size w w3→Sub wl w3):=z_ (fun w3 h3=>hs.trans (Sub.below h3));rw [hk] at au ⊢;rw [hk] at aG;rw [hk] at bd;clear hs ag hM hn h aD aV hsz hr ae hL hm aW ab ac hG aq ah aF av bm bn bo a7 hcs hx ax aJ aj ak al a8 aK ad ba aL kW aH aE HR aY;subst hk;go_enter Tryz.func100,Tryz.ntmps100
  go_wp2_with fail
  rw [← hW];clear hW;refine (au.out W af.out).mono ?_;rintro e w1 ⟨rfl,aa⟩;have ai:=z_ (af.out.trans (aa.mono af.out.size));obtain ⟨bl,⟨x0,x1⟩,_,_⟩:=aw.out w1 aa;obtain ⟨e0,e1,e2,e3,e4,e5,e6,e7,e8,e9,bs⟩:=HE.out w1 aa;have am:=z_ aa;clear aa aZ a6;go_wp2_with fail
  refine (ay.out w1 ai.out).mono ?_;rintro e w2 ⟨v2,rfl,aM,aA⟩;have aN:=z_ (ai.out.trans (aA.mono ai.out.size));have an:=z_ (am.out.trans (aA.mono am.out.size));have bx:=aA.size;have aO:=aM w2 (br.out w2 aN.out) (Kept.refl _ _);obtain ⟨A5,c5,rfl,_⟩:=HasR.shape aO rfl;have be:Hid (FormP N lo w1.heap.size wl ft w2 (.slice A5 ft.args.length c5)):=z_ aM;have bf:=z_ aO;obtain ⟨to,aP⟩:=e_ (ft.op);obtain ⟨tn,aQ⟩:=e_ (ft.name);obtain ⟨ts,aR⟩:=e_ (ft.sort);obtain ⟨q,hq⟩:=e_ (ft.args.length);have aS:=z_ (And.intro aP (And.intro aQ (And.intro aR hq)));unfold aggT;rw [← aP,← aQ,← aR,← hq];clear aM aA aO x0 x1 e0 e1 e2 e3 e4 e5 e6 e7 e8 e9 bs aP aQ aR hq;go_wp2_with fail
  obtain ⟨W3,ao⟩:=e_ (w2.alloc (.cells #[.int .i64 to,.string (bstr tn),.int .i64 ts,.slice A5 q c5] 38));try rw [← ao]
  have aB:=fr1_ ao;have bt:=fr3_ ao;have bg:=fr2_ ao;obtain ⟨e1,e2,e3,e4⟩:=aS.out;have aC:=bb.out W3 (.slice A5 q c5) (by rw [e4];exact bf.out.below n_ aB);unfold aggT at aC;rw [← e1,← e2,← e3] at aC;clear ao e1 e2 e3 e4;refine aC.mono ?_;rintro e w4 ⟨r4,rfl,bh,aT⟩;have hr:r=r4:=by rw [Bool.eq_iff_iff,bc.out,bh]
  subst hr;have aU:=z_ (aB.trans (aT.mono aB.size));have bi:=z_ (aN.out.trans (aU.out.mono aN.out.size));obtain ⟨bz,_,⟨z0,z1,z2,z3⟩,⟨f0,f1,f2,f3⟩⟩:=aw.out w4 (an.out.trans (aU.out.mono an.out.size));have ap:=(aT.block _ o_).trans bg;have x0:=h_ w4 _ 0 _ _ _ ap;have x1:=h_ w4 _ 1 _ _ _ ap;have x2:=h_ w4 _ 2 _ _ _ ap;have x3:=h_ w4 _ 3 _ _ _ ap;have bu:w.heap.size+1≠w2.heap.size:=o_;clear aB bt bg aT ap aC bh HE aw bb bc;cases r with
  | false=>
   go_wp2;refine bodyPost_ret (v:=.tuple #[.agg #[.int .i64 0,.string { data:=#[] },.int .i64 0,.slice none 0 0],.bool false]) (by simp [results,Tryz.results100,go_sem,z0,z1,z2,z3]) rfl ?_;exact aG.out (by trivial) w4 _ _ _ _ bi.out
  | true=>
   have bv:Hid (∀ u0 u1 u2 u3,∃ t' v',(Ending.returned (.tuple #[.agg #[.int .i64 to,.string (bstr tn),.int .i64 ts,.slice A5 q c5],.bool true]))=.returned (.tuple #[aggT t' v',.bool true])∧t'=orZ true (qdd G (i:Int) L)∧FormP N lo w.heap.size wl t' (set4 w4 (w.heap.size+1) u0 u1 u2 u3) v'∧Below w.heap.size w (set4 w4 (w.heap.size+1) u0 u1 u2 u3)):=z_ (fun u0 u1 u2 u3=>by
    obtain ⟨e1,e2,e3,e4⟩:=aS.out;refine ⟨ft,.slice A5 q c5,by unfold aggT;rw [← e1,← e2,← e3],by rw [bd.out];rfl,?_,qa9 bi.out o_ _ _ _ _⟩;rw [e4]
    exact FormP.later (FormP.later (B:=w1.heap.size) (B':=w1.heap.size) be.out (Kept.below aU.out n_) n_) (qd2 (x:=w.heap.size+1) o_ u0 u1 u2 u3) o_)
   clear be aS bf;go_wp2;refine bodyPost_ret (v:=.tuple #[.agg #[.int .i64 to,.string (bstr tn),.int .i64 ts,.slice A5 q c5],.bool true]) (by simp [results,Tryz.results100,go_sem,z0,z1,z2,z3]) rfl ?_;exact bv.out _ _ _ _
end tmg

namespace rebn
open mem dec rowl trm trmv terml termb termt termx termro tma tmr tmf tmg tmc rebm rebp rebq
abbrev pair (e:Ent):TermM×List TermM:=(e.t,e.R.map Prod.fst)
structure Makes (F:TermM→List TermM→Option TermM) (Nd Gd:TermM→Prop) (Z:Nat):Prop where
 kid:∀ {t a:TermM},Nd t→a∈t.args→Nd a
 good:∀ {t u:TermM} {zs:List TermM},Nd t→(∀ a∈zs,Gd a)→F t zs=some u→Gd u
 size:∀ {t u:TermM} {zs:List TermM},Nd t→(∀ a∈zs,Gd a)→F t zs=some u→qa2 zs≤Z*qa2 t.args→size u≤Z*size t
 depth:∀ {u:TermM},Gd u→depths u.args≤20
def qA8 (f:Nat)(aa cap:Array Value)(N:Nat)(X:List Nat)(F:TermM→List TermM→Option TermM)(Nd Gd:TermM→Prop)(wl:World):Prop:=
 ∀ (S:List Nat) (e:Ent) (w:World),Below wl.heap.size wl w→(∀ k∈S,(k∈X∨wl.heap.size≤k)∧k<w.heap.size)→qhu N wl e→Nd e.t→(∀ x∈e.R,Gd x.1)→RowIn 21 0 (tmr.qb4 S w) w e.dv e.R→qa2 (e.R.map Prod.fst)≤1048576→
  Calls Tryz.prog f (aa++(#[.pointer (some ⟨e.g,e.o,none⟩),e.dv]++cap)) w fun ex w'=>∃ u vu r,ex=.returned (.tuple #[aggT u vu,.bool r])∧(r=false→F e.t (e.R.map Prod.fst)=none)∧(r=true→F e.t (e.R.map Prod.fst)=some u∧Bnd u)∧FormP 21 0 w.heap.size (tmr.qb4 S w) u w' vu∧Below w.heap.size w w'
structure RebI (N Z M:Nat) (F:TermM→List TermM→Option TermM) (Nd Gd:TermM→Prop) (root:TermM) (wl:World) (B gp cap:Nat) (X:List Nat) (T2 T4:TypeId) (e:Ent) (Q:List Ent) (w:World):Prop where
 path:PathR N wl B gp cap X T2 T4 (e::Q) w
 each:∀ x∈e::Q,size x.t≤M∧x.R.length≤x.t.args.length∧(∀ y∈x.R,Gd y.1)∧qa2 (x.R.map Prod.fst)≤Z*qa2 (x.t.args.take x.R.length)∧Nd x.t
 ans:qnr F (Q.map pair) (fin F e.t (e.R.map Prod.fst))=rebM F root
theorem qwg (t:TermM):1≤depth t:=by rw [termro.qas];omega
theorem qo2 {M:Nat}:∀ {Q:List Ent} {e:Ent},qrq (e::Q)→(∀ f∈e::Q,depth f.t≤M)→depth e.t+Q.length≤M
 | [],e,_,h=>by have:=h e (by simp);simp;omega
 | f::Q,e,hc,h=>by
  have h1:=qo2 (Q:=Q) (e:=f) hc.2 (fun x hx=>h x (List.mem_cons_of_mem _ hx));have h2:=qfl hc f (by simp);simp only [List.length_cons];omega
section
variable {N Z M B gp cap:Nat} {X:List Nat} {F:TermM→List TermM→Option TermM} {Nd Gd:TermM→Prop} {root:TermM} {wl:World} {T2 T4:TypeId} {e:Ent} {Q:List Ent} {w:World}
theorem RebI.len (h:RebI N Z M F Nd Gd root wl B gp cap X T2 T4 e Q w):Q.length+1≤M:=by
 have h1:=qo2 (M:=M) h.path.chain (fun f hf=>Nat.le_trans (termsd.qi1 f.t) (h.each f hf).1);have:=qwg e.t;omega
theorem RebI.row (h:RebI N Z M F Nd Gd root wl B gp cap X T2 T4 e Q w):RowIn 21 0 (tmr.qb4 ((gp::dvB (e::Q))++X) w) w e.dv e.R:=RowIn.own (h.path.done e (by simp)) (h.path.el e (by simp))
theorem RebI.rows (h:RebI N Z M F Nd Gd root wl B gp cap X T2 T4 e Q w)(hZ:Z*M≤1048576+Z):qa2 (e.R.map Prod.fst)≤1048576:=by
 obtain ⟨h1,_,_,h4,_⟩:=h.each e (by simp);have h5:qa2 (e.t.args.take e.R.length)+1≤size e.t:=by
  have h6:qa2 (e.t.args.take e.R.length)≤qa2 e.t.args:=by
   unfold qa2;conv=>rhs;rw [← List.take_append_drop e.R.length e.t.args,List.map_append,List.sum_append]
   omega
  have:=termro.qao e.t;omega
 have h7:Z*(qa2 (e.t.args.take e.R.length)+1)≤Z*M:=Nat.mul_le_mul_left Z (Nat.le_trans h5 h1);rw [Nat.mul_add,Nat.mul_one] at h7;omega
theorem RebI.start (hp:PathR N wl B gp cap X T2 T4 [e] w)(hR:e.R=[])(ht:e.t=root)(hM:size root≤M)(aa:Nd root):RebI N Z M F Nd Gd root wl B gp cap X T2 T4 e [] w:=by
 refine ⟨hp,fun x hx=>?_,?_⟩
 ·simp at hx
  subst hx;rw [hR,ht];exact ⟨hM,by simp,by simp,by simp [qa2],aa⟩
 ·show fin F e.t (e.R.map Prod.fst)=_
  rw [hR,ht];exact qns F root
theorem RebI.push (hF:Makes F Nd Gd Z)(h:RebI N Z M F Nd Gd root wl B gp cap X T2 T4 e Q w){ab cap':Nat}{x:Ent}{w':World}(hx:qhu N wl x)(aa:qnu e x)(hR:x.R=[])(hv:x.dv=.slice none 0 0)
  (hr:w'.ownsRow B T2 2 (.slice (some ⟨ab,0,none⟩) (e::Q).length.succ cap') (e::Q).length.succ (qbf (e::Q)++qrn x)) (hg:w.grownBy w' (some gp)) (ac:ab=gp∨ab=w.heap.size):RebI N Z M F Nd Gd root wl B ab cap' X T2 T4 x (e::Q) w':=by
 refine ⟨h.path.push hx aa hR hv hr hg ac,fun y hy=>?_,?_⟩
 ·rcases List.mem_cons.1 hy with rfl|hy
  ·rw [hR]
   refine ⟨?_,by simp,by simp,by simp [qa2],hF.kid (h.each e (by simp)).2.2.2.2 (by rw [aa.2,qai aa.1];exact List.getElem_mem _)⟩;have h1:=(h.each e (by simp)).1;have h2:=qam aa.1;have h3:=termro.qao e.t;rw [aa.2];omega
  ·exact h.each y hy
 ·have h1:=h.ans
  rw [qyr F (t:=e.t) (ds:=e.R.map Prod.fst) (by rw [List.length_map];exact aa.1),List.length_map,← aa.2] at h1;rw [hR];exact h1
theorem RebI.left_push {x:Ent}(aa:qnu e x)(hR:x.R=[]):left x.t (x.R.map Prod.fst) ((e::Q).map pair)<left e.t (e.R.map Prod.fst) (Q.map pair):=by
 have h1:=rebm.left_push (t:=e.t) (ds:=e.R.map Prod.fst) (R:=Q.map pair) (by rw [List.length_map];exact aa.1);rw [List.length_map,← aa.2] at h1;rw [hR];exact h1
theorem RebI.full (h:RebI N Z M F Nd Gd root wl B gp cap X T2 T4 e Q w)(hn:¬ e.R.length<e.t.args.length):qnr F (Q.map pair) (F e.t (e.R.map Prod.fst))=rebM F root:=by
 rw [← qyq F (t:=e.t) (ds:=e.R.map Prod.fst) (by rw [List.length_map];omega)];exact h.ans
theorem RebI.fail (h:RebI N Z M F Nd Gd root wl B gp cap X T2 T4 e Q w)(hn:¬ e.R.length<e.t.args.length)(hf:F e.t (e.R.map Prod.fst)=none):rebM F root=none:=by
 rw [← h.full hn,hf,qjb]
theorem RebI.last (h:RebI N Z M F Nd Gd root wl B gp cap X T2 T4 e [] w)(hn:¬ e.R.length<e.t.args.length){u:TermM}(hf:F e.t (e.R.map Prod.fst)=some u):rebM F root=some u:=by
 rw [← h.full hn,hf];rfl
end
theorem RebI.pop {N Z M B gp cap:Nat}{X:List Nat}{F:TermM→List TermM→Option TermM}{Nd Gd:TermM→Prop}{root:TermM}{wl:World}{T2 T4:TypeId}{e f:Ent}{Q:List Ent}{w w1 w2 w3:World}(hF:Makes F Nd Gd Z)(h:RebI N Z M F Nd Gd root wl B gp cap X T2 T4 e (f::Q) w)(hn:¬ e.R.length<e.t.args.length){u:TermM}{vu:Value}(hf:F e.t (e.R.map Prod.fst)=some u)(hb:Bnd u)(af:Below w.heap.size w w1)
  (hu:FormP 21 0 w.heap.size (tmr.qb4 ((gp::dvB (e::f::Q))++X) w) u w1 vu) (ag:Below w1.heap.size w1 w2) {dv:Value} {gd:Nat} (ah:dv.ownBlock=some gd) (ai:f.dv.ownBlock=some gd∨gd=w2.heap.size) (ab:gd<w3.heap.size)
  (hg:w2.grownBy w3 f.dv.ownBlock) (hr:w3.ownsRow B T4 4 dv (f.R.length+1) (rowV (f.R++[(u,vu)]))):
  RebI N Z M F Nd Gd root wl B gp cap X T2 T4 (putE f u vu dv) Q (w3.setCell ⟨gp,Q.length*2+1,none⟩ dv):=by
 obtain ⟨e1,e2,e3,e4,ad⟩:=h.each e (by simp);obtain ⟨f1,f2,f3,f4,f5⟩:=h.each f (by simp);have ac:=h.path.chain.1
 have aa:∀ a∈e.R.map Prod.fst,Gd a:=fun a ha=>by
  obtain ⟨x,hx,rfl⟩:=List.mem_map.1 ha;exact e3 x hx
 have ae:=hF.good ad aa hf;have aj:size u≤Z*size e.t:=hF.size ad aa hf (by rw [List.take_of_length_le o_] at e4;exact e4);refine ⟨h.path.pop (hF.depth ae) hb af hu ag ah ai ab hg hr,fun x hx=>?_,?_⟩
 ·rcases List.mem_cons.1 hx with rfl|hx
  ·refine ⟨f1,by simp only [putE,List.length_append,List.length_cons,List.length_nil];exact ac.1,fun y hy=>?_,?_,f5⟩
   ·rcases List.mem_append.1 (show y∈f.R++[(u,vu)] from hy) with hy|hy
    ·exact f3 y hy
    ·simp at hy
     subst hy;exact ae
   ·show qa2 ((f.R++[(u,vu)]).map Prod.fst)≤Z*qa2 (f.t.args.take (f.R++[(u,vu)]).length)
    have e5:(f.R++[(u,vu)]).length=f.R.length+1:=by simp
    have e6:f.t.args.take (f.R.length+1)=f.t.args.take f.R.length++[e.t]:=by
     rw [List.take_add_one,ac.2,List.getD_eq_getElem?_getD,List.getElem?_eq_getElem ac.1];rfl
    rw [e5,e6,List.map_append];have e7:qa2 (f.R.map Prod.fst++[(u,vu)].map Prod.fst)=qa2 (f.R.map Prod.fst)+size u:=by simp [qa2]
    have e8:qa2 (f.t.args.take f.R.length++[e.t])=qa2 (f.t.args.take f.R.length)+size e.t:=by simp [qa2]
    rw [e7,e8,Nat.mul_add];omega
  ·exact h.each x (by simp [hx])
 ·have h1:=h.full hn
  rw [hf] at h1;show qnr F (Q.map pair) (fin F f.t ((f.R++[(u,vu)]).map Prod.fst))=_;rw [List.map_append];exact h1
theorem RebI.left_pop {e f:Ent}{Q:List Ent}{u:TermM}{vu dv:Value}:left (putE f u vu dv).t ((putE f u vu dv).R.map Prod.fst) (Q.map pair)<left e.t (e.R.map Prod.fst) ((f::Q).map pair):=by
 show left f.t ((f.R++[(u,vu)]).map Prod.fst) (Q.map pair)<_;rw [List.map_append];exact rebm.left_pop (t:=e.t) (t':=f.t) (ds:=e.R.map Prod.fst) (ds':=f.R.map Prod.fst) (R:=Q.map pair) u
end rebn

namespace tmi
open dec sigm trm frm gram gramc gramn gramt tmr
section
variable {P:List (List UInt8)} {Q:List (Int×Int)} {O:List OpM}
theorem qzb{G:GrM}{x:TermM}(h:qca G x)(ha:(G.E.getD k default).1.ass=true)(ho:x.op=(k:Int)):x.args≠[]:=by
 have h1:=((qbq _ x).1 h.2).1;unfold qc4 at h1;rw [if_neg o_] at h1;have h2:=h1.2.1.2.1;rw [ho,Int.toNat_natCast] at h2;unfold qhk at h2;rw [if_pos ha] at h2;have h3:=of_decide_eq_true h2;intro e;rw [e] at h3;simp at h3
end
end tmi

namespace rebc
open mem dec setm sets sortm rowl trm trmv terml termb termt termx termvr termcl termro frm gram gramo graml gramk gramc gramn gramt tma tmr tmf tmg tmc tmi rebm rebp rebq rebn
theorem qjg{y i:Nat}(h:y≠x)(u0 u1 u2 u3:Value):(set4 w x u0 u1 u2 u3).cell? ⟨y,i,none⟩=w.cell? ⟨y,i,none⟩:=by
 have k:∀ (w:World) (j:Nat) (u:Value),(w.setCell ⟨x,j,none⟩ u).cell? ⟨y,i,none⟩=w.cell? ⟨y,i,none⟩:=fun w j u=>World.cell?_setCell_other w ⟨x,j,none⟩ ⟨y,i,none⟩ u (fun e=>h (congrArg Addr.block e).symm)
 unfold set4;rw [k,k,k,k]
end rebc

namespace inst
open mem dec rowl trm terml termb termt termw termx termvr tmr tmf bndl
noncomputable def valM (σ:List BindM)(t:TermM):TermM:=match σ.find? (fun b=>decide (cmpN b.v t=0)) with
 | some b=>b.t
 | none=>.mk t.op t.name t.sort []
theorem qwl {α:Type}[Inhabited α](p:α→Bool):∀ (σ:List α) (j:Nat),j<σ.length→(∀ i,i<j→p (σ.getD i default)=false)→p (σ.getD j default)=true→σ.find? p=some (σ.getD j default)
 | [],j,h,_,_=>by simp at h
 | a::σ,0,_,_,h2=>by
  simp at h2 ⊢;exact Or.inl h2
 | a::σ,j+1,h,h1,h2=>by
  have h3:p a=false:=by simpa using h1 0 o_
  rw [List.find?_cons_of_neg (by simp [h3])];have h4:=qwl p σ j Bg_ (fun i hi=>by simpa using h1 (i+1) o_) (by simpa using h2);simpa using h4
theorem qwm{α:Type}[Inhabited α](p:α→Bool)(σ:List α)(h:∀ i,i<σ.length→p (σ.getD i default)=false):σ.find? p=none:=by
 rw [List.find?_eq_none];intro a ha;obtain ⟨i,hi,e⟩:=List.getElem_of_mem ha;have:=h i hi;rw [List.getD_eq_getElem?_getD,List.getElem?_eq_getElem hi] at this;simp at this;rw [e] at this;simp [this]
theorem qAa{t:TermM}{j:Nat}(hj:j<σ.length)(h1:∀ i,i<j→cmpN (σ.getD i default).v t≠0)(h2:cmpN (σ.getD j default).v t=0):valM σ t=(σ.getD j default).t:=by
 unfold valM;rw [qwl _ σ j hj (fun i hi=>decide_eq_false (h1 i hi)) (decide_eq_true h2)]
theorem qrz{t:TermM}(h1:∀ i,i<σ.length→cmpN (σ.getD i default).v t≠0):valM σ t=.mk t.op t.name t.sort []:=by
 unfold valM;rw [qwm _ σ (fun i hi=>decide_eq_false (h1 i hi))]
set_option maxRecDepth 50000 in
set_option maxHeartbeats 4000000 in
theorem qps (σ:List BindM)(lv:Value)(t:TermM)(hB:Bnd t)(g o:Nat)(w0 w:World)(h:HasBs n 0 w0 lv σ)(hb:Below w0.heap.size w0 w)(c0:w.cell? ⟨g,o,none⟩=some (.int .i64 t.op))(c1:w.cell? ⟨g,o+1,none⟩=some (.string (bstr t.name)))(c2:w.cell? ⟨g,o+2,none⟩=some (.int .i64 t.sort))(aB:σ.length≤1048576):
  Calls Tryz.prog 99 #[lv,.pointer (some ⟨g,o,none⟩)] w fun e w'=>∃ vu,e=.returned (aggT (valM σ t) vu)∧HasTs n 0 w0 vu (valM σ t).args∧Bnd (valM σ t)∧Below w.heap.size w w':=by
 obtain ⟨m,hm⟩:=e_ (σ.length);obtain ⟨A,c,rfl,_⟩:=HasR.shape h hm.symm;have HL:=z_ h;have HM:=z_ hm;have ao:=z_ hb;have aC:Hid (Bnd (.mk t.op t.name t.sort [])):=z_ hB;have hg:=l_ c0;simp only [] at hg;obtain ⟨W,hW⟩:=e_ (w.alloc (.cells #[.int .i64 0,.string { data:=#[] },.int .i64 0,.slice none 0 0] 38));have ac:=fr1_ hW;have ap:=fr3_ hW;have hY:=fr2_ hW
 have ad:Hid (∀ w3,Below W.heap.size W w3→w.heap.size+1≤w3.heap.size∧Below w.heap.size w w3∧(w3.cell? ⟨g,o,none⟩=some (.int .i64 t.op)∧w3.cell? ⟨g,o+1,none⟩=some (.string (bstr t.name))∧w3.cell? ⟨g,o+2,none⟩=some (.int .i64 t.sort))∧(w3.cell? ⟨w.heap.size,0,none⟩=some (.int .i64 0)∧w3.cell? ⟨w.heap.size,1,none⟩=some (.string { data:=#[] })∧w3.cell? ⟨w.heap.size,2,none⟩=some (.int .i64 0)∧w3.cell? ⟨w.heap.size,3,none⟩=some (.slice none 0 0))∧
   (w3.frozen? ⟨w.heap.size,0,none⟩=false∧w3.frozen? ⟨w.heap.size,1,none⟩=false∧w3.frozen? ⟨w.heap.size,2,none⟩=false∧w3.frozen? ⟨w.heap.size,3,none⟩=false)):=z_ (fun w3 h3=>by
  have h4:=ac.trans (h3.mono ac.size);have h6:=(h3.block _ o_).trans hY
  exact ⟨by have:=h3.size;omega,h4,⟨(h4.cell (p:=⟨g,o,none⟩) hg).trans c0,(h4.cell (p:=⟨g,o+1,none⟩) hg).trans c1,(h4.cell (p:=⟨g,o+2,none⟩) hg).trans c2⟩,grami.box4 h6,⟨g_ w3 _ 0 _ _ h6,g_ w3 _ 1 _ _ h6,g_ w3 _ 2 _ _ h6,g_ w3 _ 3 _ _ h6⟩⟩)
 have aI:=z_ ap;rw [← hm] at aB;clear h hb hm c0 c1 c2 ac hY ap hB;go_enter Tryz.func99,Tryz.ntmps99
 go_upto_region 1 with fail
 rw [← hW];clear hW;go_wp2;go_loopw [8] (fun v8 wr=>∃ j:Nat,v8=.int .i64 j∧j≤m∧Hid (∀ i,i<j→cmpN (σ.getD i default).v t≠0)∧Hid (Below W.heap.size W wr)) (fun i _=>m-(intOf i).toNat)
 case atStart=>exact ⟨0,rfl,y_,z_ (fun i hi=>absurd hi (Nat.not_lt_zero _)),z_ b_⟩
 case round=>
  obtain ⟨j,rfl,hj,ae,HB⟩:=hrel;obtain ⟨hz,af,⟨k0,k1,k2⟩,⟨z0,z1,z2,z3⟩,⟨q0,q1,q2,q3⟩⟩:=ad.out wr HB.out;by_cases aD:j<m
  ·have d1:decide ((j:Int)<(m:Int))=true:=d_
   obtain ⟨gl,ol,B1,e1,B2,e2,rfl,aJ,aq,au,ag,av,ah⟩:=qdc HL.out aD;have aw:=ao.out.trans (af.mono ao.out.size);obtain ⟨⟨a0,a1,a2,a3⟩,a4,a5,a6,a7⟩:=aq.below aw;obtain ⟨b,ai⟩:=e_ (σ.getD j default);have aj:=z_ ai;rw [← ai] at a0 a1 a2 a3 a4 a5 a6 a7 au ag av ah;have ax:=z_ (qij b.v t gl (ol+j*8) g o wr (l_ a0) (l_ k0) a0 a1 a2 k0 k1 k2);have ay:=z_ (And.intro ag ah);have i1:(0:Int)≤(j:Int):=o_;have i2:(j:Int)<(m:Int):=o_;obtain ⟨x4,ak⟩:=e_ (b.t.op);obtain ⟨x5,al⟩:=e_ (b.t.name);obtain ⟨x6,am⟩:=e_ (b.t.sort);obtain ⟨x7,an⟩:=e_ (b.t.args.length);have HX:=z_ (And.intro ak (And.intro al (And.intro am an)));rw [← ak] at a4;rw [← al] at a5;rw [← am] at a6;rw [← an] at a7
   have aE:Hid (∀ w3,Below wr.heap.size wr w3→w3.cell? ⟨gl,ol+j*8+4,none⟩=some (.int .i64 x4)∧w3.cell? ⟨gl,ol+j*8+5,none⟩=some (.string (bstr x5))∧w3.cell? ⟨gl,ol+j*8+6,none⟩=some (.int .i64 x6)∧w3.cell? ⟨gl,ol+j*8+7,none⟩=some (.slice B2 x7 e2)):=z_ (fun w3 h3=>
    ⟨(h3.cell (p:=⟨gl,ol+j*8+4,none⟩) (l_ a4)).trans a4,(h3.cell (p:=⟨gl,ol+j*8+5,none⟩) (l_ a5)).trans a5,(h3.cell (p:=⟨gl,ol+j*8+6,none⟩) (l_ a6)).trans a6,(h3.cell (p:=⟨gl,ol+j*8+7,none⟩) (l_ a7)).trans a7⟩)
   clear ai aq au ag av ah aw a0 a1 a2 a3 a4 a5 a6 a7 ak al am an af z0 z1 z2 z3 q0 q1 q2 q3 k0 k1 k2;go_wp2_with fail
   refine ax.out.mono ?_;rintro e' w4 ⟨rfl,hg4⟩;have ab:=hg4.below;have az:=z_ (HB.out.trans (ab.mono (by have:=HB.out.size;omega)));obtain ⟨a4,a5,a6,a7⟩:=aE.out w4 ab;obtain ⟨_,aa,_,⟨z0,z1,z2,z3⟩,⟨q0,q1,q2,q3⟩⟩:=ad.out w4 az.out;obtain ⟨cm,hcm⟩:=e_ (cmpN b.v t);have aA:=z_ hcm;rw [← hcm];clear hg4 ab hcm ax;by_cases he:cm=0
   ·have d2:(cm==0)=true:=by simp [he]
    have d3:decide (cm=0)=true:=decide_eq_true he
    have HF:Hid (∀ u0 u1 u2 u3,∃ vu,(Ending.returned (.agg #[.int .i64 x4,.string (bstr x5),.int .i64 x6,.slice B2 x7 e2]))=.returned (aggT (valM σ t) vu)∧HasTs n 0 w0 vu (valM σ t).args∧Bnd (valM σ t)∧Below w.heap.size w (set4 w4 w.heap.size u0 u1 u2 u3)):=z_ (fun u0 u1 u2 u3=>by
     have aF:j<σ.length:=by have:=HM.out;omega
     have hv:=qAa aF ae.out (by rw [← aj.out,← aA.out];exact he);rw [← aj.out] at hv;rw [hv];obtain ⟨e4,e5,e6,e7⟩:=HX.out
     exact ⟨.slice B2 b.t.args.length e2,by unfold aggT;rw [← e4,← e5,← e6,← e7],ay.out.1,ay.out.2,qa9 aa n_ _ _ _ _⟩)
    clear aa;go_wp2;refine bodyPost_ret (v:=.agg #[.int .i64 x4,.string (bstr x5),.int .i64 x6,.slice B2 x7 e2]) (by simp [results,Tryz.results99,go_sem,z0,z1,z2,z3]) rfl ?_;exact HF.out _ _ _ _
   ·have d2:(cm==0)=false:=by simp [he]
    have d3:decide (cm=0)=false:=decide_eq_false he
    have aG:Hid (∀ i,i<j+1→cmpN (σ.getD i default).v t≠0):=z_ (fun i hi=>by
     by_cases e:i=j
     ·subst e
      rw [← aj.out,← aA.out];exact he
     ·exact ae.out i o_)
    clear a4 a5 a6 a7 z0 z1 z2 z3 q0 q1 q2 q3 aa;go_wp2;go_roundw
    case rel=>exact ⟨j+1,by go_num,by omega,aG,az⟩
    case measure=>simp [intOf];omega
  ·obtain rfl:j=m:=o_
   have d1:decide ((j:Int)<(j:Int))=false:=f_;have aH:=z_ (qj1 g o t.op t.name t.sort wr k0 k1 k2);have HV:Hid (valM σ t=.mk t.op t.name t.sort []):=z_ (qrz (fun i hi=>ae.out i Af_));clear z0 z1 z2 z3 q0 q1 q2 q3 af k0 k1 k2;go_wp2_with fail
   refine aH.out.mono ?_;rintro e' w4 ⟨rfl,ab⟩;obtain ⟨_,aa,_,⟨z0,z1,z2,z3⟩,⟨q0,q1,q2,q3⟩⟩:=ad.out w4 (HB.out.trans (ab.mono (by have:=HB.out.size;omega)))
   have HF:Hid (∀ u0 u1 u2 u3,∃ vu,(Ending.returned (.agg #[.int .i64 t.op,.string (bstr t.name),.int .i64 t.sort,.slice none 0 0]))=.returned (aggT (valM σ t) vu)∧HasTs n 0 w0 vu (valM σ t).args∧Bnd (valM σ t)∧Below w.heap.size w (set4 w4 w.heap.size u0 u1 u2 u3)):=z_ (fun u0 u1 u2 u3=>by
    rw [HV.out]
    exact ⟨.slice none 0 0,rfl,HasR.nil _ _ _ Aa_ _,aC.out,qa9 aa n_ _ _ _ _⟩)
   clear aa ab;go_wp2;refine bodyPost_ret (v:=.agg #[.int .i64 t.op,.string (bstr t.name),.int .i64 t.sort,.slice none 0 0]) (by simp [results,Tryz.results99,go_sem,z0,z1,z2,z3]) rfl ?_;exact HF.out _ _ _ _
end inst

namespace insg
open mem dec rowl trm terml termb termt termx termvo tmr tmf tmg bndl
set_option maxRecDepth 50000 in
set_option maxHeartbeats 4000000 in
theorem qBn{m lo':Nat}(σ:List BindM)(lv:Value)(t:TermM)(vt:Value)(_hB:Bnd t)(w0 w:World)(h:HasBs n lo w0 lv σ)(hb:Below w0.heap.size w0 w)(ht:HasTs m lo' w vt t.args)(aJ:σ.length≤1048576):
  Calls Tryz.prog 85 #[lv,aggT t vt] w fun e w'=>∃ u vu r,e=.returned (.tuple #[aggT u vu,.bool r])∧(r=true→∃ j,j<σ.length∧(∀ i,i<j→cmp (σ.getD i default).v t≠0)∧cmp (σ.getD j default).v t=0∧u=(σ.getD j default).t∧Bnd u)∧(r=false→∀ i,i<σ.length→cmp (σ.getD i default).v t≠0)∧HasTs n 0 w0 vu u.args∧Below w.heap.size w w':=by
 obtain ⟨q,hq⟩:=e_ (σ.length);obtain ⟨A,c,rfl,_⟩:=HasR.shape h hq.symm;obtain ⟨B,cb,rfl,_⟩:=HasR.shape ht rfl;have HL:=z_ h;have HM:=z_ hq;have aA:=z_ hb;have HT:=z_ ht;obtain ⟨tO,ad⟩:=e_ (t.op);obtain ⟨tn,ae⟩:=e_ (t.name);obtain ⟨ts,af⟩:=e_ (t.sort);obtain ⟨tl,ag⟩:=e_ (t.args.length);have aK:=z_ (And.intro ad (And.intro ae (And.intro af ag)));unfold aggT;rw [← ad,← ae,← af,← ag];obtain ⟨W,hW⟩:=e_ ((w.alloc (.cells #[.int .i64 tO,.string (bstr tn),.int .i64 ts,.slice B tl cb] 38)).alloc (.cells #[.int .i64 0,.string { data:=#[] },.int .i64 0,.slice none 0 0] 38));have ah:Below w.heap.size w W:=by
  rw [hW];exact v_
 have aL:W.heap.size=w.heap.size+2:=by rw [hW];simp
 have aB:W.heap[w.heap.size]? =some (.cells #[.int .i64 tO,.string (bstr tn),.int .i64 ts,.slice B tl cb] 38 (0,0)):=by rw [hW];exact tsl.qbd _ _ _
 have hY:W.heap[w.heap.size+1]? =some (.cells #[.int .i64 0,.string { data:=#[] },.int .i64 0,.slice none 0 0] 38 (0,0)):=by rw [hW];exact termt.qa5 _ _ _ (by simp)
 have aC:Hid (∀ w3,Below W.heap.size W w3→w.heap.size+2≤w3.heap.size∧Below w.heap.size w w3∧(w3.cell? ⟨w.heap.size,0,none⟩=some (.int .i64 tO)∧w3.cell? ⟨w.heap.size,1,none⟩=some (.string (bstr tn))∧w3.cell? ⟨w.heap.size,2,none⟩=some (.int .i64 ts)∧w3.cell? ⟨w.heap.size,3,none⟩=some (.slice B tl cb))∧(w3.cell? ⟨w.heap.size+1,0,none⟩=some (.int .i64 0)∧w3.cell? ⟨w.heap.size+1,1,none⟩=some (.string { data:=#[] })∧w3.cell? ⟨w.heap.size+1,2,none⟩=some (.int .i64 0)∧w3.cell? ⟨w.heap.size+1,3,none⟩=some (.slice none 0 0))∧
   (w3.frozen? ⟨w.heap.size+1,0,none⟩=false∧w3.frozen? ⟨w.heap.size+1,1,none⟩=false∧w3.frozen? ⟨w.heap.size+1,2,none⟩=false∧w3.frozen? ⟨w.heap.size+1,3,none⟩=false)):=z_ (fun w3 h3=>by
  have h4:=ah.trans (h3.mono ah.size);have h5:=(h3.block _ o_).trans aB;have h6:=(h3.block _ o_).trans hY
  exact ⟨by have:=h3.size;omega,h4,grami.box4 h5,grami.box4 h6,⟨g_ w3 _ 0 _ _ h6,g_ w3 _ 1 _ _ h6,g_ w3 _ 2 _ _ h6,g_ w3 _ 3 _ _ h6⟩⟩)
 rw [← hq] at aJ;clear h hb hq ht ad ae af ag ah aB hY aL _hB;go_enter Tryz.func85,Tryz.ntmps85
 go_upto_region 1 with fail
 rw [← hW];clear hW;go_wp2;go_loopw [6] (fun v8 wr=>∃ j:Nat,v8=.int .i64 j∧j≤q∧Hid (∀ i,i<j→cmp (σ.getD i default).v t≠0)∧Hid (Below W.heap.size W wr)) (fun i _=>q-(intOf i).toNat)
 case atStart=>exact ⟨0,rfl,y_,z_ (fun i hi=>absurd hi (Nat.not_lt_zero _)),z_ b_⟩
 case round=>
  obtain ⟨j,rfl,hj,ai,HB⟩:=hrel;obtain ⟨hz,ab,⟨k0,k1,k2,k3⟩,⟨z0,z1,z2,z3⟩,⟨q0,q1,q2,q3⟩⟩:=aC.out wr HB.out;by_cases aM:j<q
  ·have d1:decide ((j:Int)<(q:Int))=true:=d_
   obtain ⟨gl,ol,B1,e1,B2,e2,rfl,aT,aD,aj,ak,aE,al⟩:=qdc HL.out aM;have ac:=aA.out.trans (ab.mono aA.out.size);obtain ⟨⟨a0,a1,a2,a3⟩,a4,a5,a6,a7⟩:=aD.below ac;obtain ⟨b,am⟩:=e_ (σ.getD j default);have an:=z_ am;rw [← am] at a0 a1 a2 a3 a4 a5 a6 a7 aj ak aE al;obtain ⟨sm,ao⟩:∃ sm,decide (cmp b.v t=0)=sm:=⟨_,rfl⟩;have aF:=z_ ao;obtain ⟨x0,ap⟩:=e_ (b.v.op);obtain ⟨x1,aq⟩:=e_ (b.v.name);obtain ⟨x2,au⟩:=e_ (b.v.sort);obtain ⟨x3,av⟩:=e_ (b.v.args.length);obtain ⟨x4,aw⟩:=e_ (b.t.op);obtain ⟨x5,ax⟩:=e_ (b.t.name);obtain ⟨x6,ay⟩:=e_ (b.t.sort);obtain ⟨x7,az⟩:=e_ (b.t.args.length);have HX:=z_ (And.intro aw (And.intro ax (And.intro ay az)))
   have aG:Hid (∀ s:BoxC (Below wr.heap.size wr),Calls Tryz.prog 58 #[.agg #[.int .i64 x0,.string (bstr x1),.int .i64 x2,.slice B1 x3 e1],.agg #[.int .i64 tO,.string (bstr tn),.int .i64 ts,.slice B tl cb]] s.W fun e w'=>e=.returned (.bool sm)∧Below s.W.heap.size s.W w'):=z_ (fun s=>by
    have h1:=qew (n:=n) (m:=m) (lo:=lo) (lo':=lo') b.v t (.slice B1 b.v.args.length e1) (.slice B t.args.length cb) s.W (aj.below n_ (ac.trans (s.h.mono ac.size))) (by
     have h2:=HT.out
     exact h2.below n_ (ab.trans (s.h.mono ab.size))) sm ao
    unfold aggT at h1;obtain ⟨r1,r2,r3,r4⟩:=aK.out;rw [ap,aq,au,av,r1,r2,r3,r4]
    exact h1)
   have aH:=z_ (And.intro ak al);rw [← ap] at a0;rw [← aq] at a1;rw [← au] at a2;rw [← av] at a3;rw [← aw] at a4;rw [← ax] at a5;rw [← ay] at a6;rw [← az] at a7;have kV:∀ {g y:Nat} {v:Value},wr.cell? ⟨g,y,none⟩=some v→∀ t:BoxC (Below wr.heap.size wr),t.W.cell? ⟨g,y,none⟩=some v:=fun {g y v} h t=>t.cell h (l_ h)
   have b0:=kV a0;have b1:=kV a1;have b2:=kV a2;have b3:=kV a3;have b8:=kV k0;have b9:=kV k1;have aN:=kV k2;have aO:=kV k3
   have aP:Hid (∀ w3,Below wr.heap.size wr w3→w3.cell? ⟨gl,ol+j*8+4,none⟩=some (.int .i64 x4)∧w3.cell? ⟨gl,ol+j*8+5,none⟩=some (.string (bstr x5))∧w3.cell? ⟨gl,ol+j*8+6,none⟩=some (.int .i64 x6)∧w3.cell? ⟨gl,ol+j*8+7,none⟩=some (.slice B2 x7 e2)):=z_ (fun w3 h3=>
    ⟨(h3.cell (p:=⟨gl,ol+j*8+4,none⟩) (l_ a4)).trans a4,(h3.cell (p:=⟨gl,ol+j*8+5,none⟩) (l_ a5)).trans a5,(h3.cell (p:=⟨gl,ol+j*8+6,none⟩) (l_ a6)).trans a6,(h3.cell (p:=⟨gl,ol+j*8+7,none⟩) (l_ a7)).trans a7⟩)
   have aI:Hid (∀ t:BoxC (Below wr.heap.size wr),Below W.heap.size W t.W):=z_ (fun t=>HB.out.trans (t.h.mono (by have:=HB.out.size;omega)));have nb:Nonempty (BoxC (Below wr.heap.size wr)):=⟨⟨_,Below.refl _ _⟩⟩;have i1:(0:Int)≤(j:Int):=o_;have i2:(j:Int)<(q:Int):=o_;clear am ao aD aj ak aE al ac a0 a1 a2 a3 a4 a5 a6 a7 ap aq au av aw ax ay az ab z0 z1 z2 z3 q0 q1 q2 q3 k0 k1 k2 k3 kV;go_wp2_with fail
   refine qa1 (C:=Below wr.heap.size wr) k_ k_ b_.drew ?_;repeat (first|go_big_quiet_step ((go_at_call 58;exact (aG.out _).mono (fun _ _ h=>⟨h.1,BoxC.step _ h.2⟩))))
   refine wpQuiet_nil ?_;rintro w5 ⟨t5,rfl⟩;obtain ⟨a4,a5,a6,a7⟩:=aP.out t5.W t5.h;have aQ:=z_ (aI.out t5);obtain ⟨_,aa,_,⟨z0,z1,z2,z3⟩,⟨q0,q1,q2,q3⟩⟩:=aC.out t5.W (aI.out t5);clear b0 b1 b2 b3 b8 b9 aN aO nb aG;cases sm with
   | true=>
    have HF:Hid (∀ u0 u1 u2 u3,∃ u vu r,(Ending.returned (.tuple #[.agg #[.int .i64 x4,.string (bstr x5),.int .i64 x6,.slice B2 x7 e2],.bool true]))=.returned (.tuple #[.agg #[.int .i64 u.op,.string (bstr u.name),.int .i64 u.sort,vu],.bool r])∧(r=true→∃ j,j<σ.length∧(∀ i,i<j→cmp (σ.getD i default).v t≠0)∧cmp (σ.getD j default).v t=0∧u=(σ.getD j default).t∧Bnd u)∧(r=false→∀ i,i<σ.length→cmp (σ.getD i default).v t≠0)∧HasTs n 0 w0 vu u.args∧Below w.heap.size w (set4 t5.W (w.heap.size+1) u0 u1 u2 u3)):=z_ (fun u0 u1 u2 u3=>by
     have aR:j<σ.length:=by have:=HM.out;omega
     obtain ⟨e4,e5,e6,e7⟩:=HX.out
     exact ⟨b.t,.slice B2 b.t.args.length e2,true,by rw [← e4,← e5,← e6,← e7],fun _=>⟨j,aR,ai.out,by rw [← an.out];exact of_decide_eq_true aF.out,by rw [an.out],aH.out.2⟩,fun h=>(by cases h),aH.out.1.mono (qa7 n) y_,qa9 aa o_ _ _ _ _⟩)
    clear aa;go_wp2;refine bodyPost_ret (v:=.tuple #[.agg #[.int .i64 x4,.string (bstr x5),.int .i64 x6,.slice B2 x7 e2],.bool true]) (by simp [results,Tryz.results85,go_sem,z0,z1,z2,z3]) rfl ?_;exact HF.out _ _ _ _
   | false=>
    have aS:Hid (∀ i,i<j+1→cmp (σ.getD i default).v t≠0):=z_ (fun i hi=>by
     by_cases e:i=j
     ·subst e
      rw [← an.out];exact of_decide_eq_false aF.out
     ·exact ai.out i o_)
    clear a4 a5 a6 a7 z0 z1 z2 z3 q0 q1 q2 q3 aa;go_wp2;go_roundw
    case rel=>exact ⟨j+1,by go_num,by omega,aS,aQ⟩
    case measure=>simp [intOf];omega
  ·obtain rfl:j=q:=o_
   have d1:decide ((j:Int)<(j:Int))=false:=f_
   have HF:Hid (∀ u0 u1 u2 u3,∃ u vu r,(Ending.returned (.tuple #[.agg #[.int .i64 0,.string { data:=#[] },.int .i64 0,.slice none 0 0],.bool false]))=.returned (.tuple #[.agg #[.int .i64 u.op,.string (bstr u.name),.int .i64 u.sort,vu],.bool r])∧(r=true→∃ j,j<σ.length∧(∀ i,i<j→cmp (σ.getD i default).v t≠0)∧cmp (σ.getD j default).v t=0∧u=(σ.getD j default).t∧Bnd u)∧(r=false→∀ i,i<σ.length→cmp (σ.getD i default).v t≠0)∧HasTs n 0 w0 vu u.args∧Below w.heap.size w (set4 wr (w.heap.size+1) u0 u1 u2 u3)):=z_ (fun u0 u1 u2 u3=>
    ⟨zT,.slice none 0 0,false,rfl,fun h=>(by cases h),fun _ i hi=>ai.out i Af_,HasR.nil _ _ _ Aa_ _,qa9 ab o_ _ _ _ _⟩)
   clear ab k0 k1 k2 k3;go_wp2;refine bodyPost_ret (v:=.tuple #[.agg #[.int .i64 0,.string { data:=#[] },.int .i64 0,.slice none 0 0],.bool false]) (by simp [results,Tryz.results85,go_sem,z0,z1,z2,z3]) rfl ?_;exact HF.out _ _ _ _
end insg
end Go.Proofs.YtiilamngcoegiaaGreat
