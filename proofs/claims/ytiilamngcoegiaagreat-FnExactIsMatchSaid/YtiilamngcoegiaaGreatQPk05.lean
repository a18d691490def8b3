/- parts -/
import Derived.Test.YtiilamngcoegiaaGreatQTermw
import Derived.Deep.RegionLaw
import Derived.Deep.LoopGhost
import Derived.Test.YtiilamngcoegiaaGreatQPk08
import Derived.Deep.RegionHeld3
import Derived.BigQuiet
namespace Go.Proofs.YtiilamngcoegiaaGreat
open Go.ChangeShapes Go.WideShapes Go.ChangeAt Go.RowKit
variable {n lo lo' k m c x N g d b base cap gx ox g5 a i s0 s1 s2 s3 s4:Nat}{w w' W wr:World}{A:Option Addr}{v0 v1 v2:Value}{e:TypeId}{xs:List Value}{nm:List UInt8}{u:Int}
namespace termx
set_option maxRecDepth 100000
set_option maxRecDepth 50000
set_option maxHeartbeats 8000000
open mem dec rowl trm terml termb termt termw
abbrev Stk:=List (Value×Value×List TermM×List TermM)
noncomputable def cmpS:Stk→Int
 | []=>0
 | p::R=>if cmpL p.2.2.1 p.2.2.2≠0 then cmpL p.2.2.1 p.2.2.2 else cmpS R
noncomputable def wtS:Stk→Nat
 | []=>0
 | p::R=>2*qa2 p.2.2.1+1+wtS R
def flat:Stk→List Value
 | []=>[]
 | p::R=>flat R++[p.1,p.2.1]
theorem ql8:∀ R:Stk,(flat R).length=R.length*2
 | []=>rfl
 | p::R=>by simp [flat,ql8 R];omega
theorem qu6:∀ R:Stk,R.length≤wtS R
 | []=>Nat.le_refl _
 | p::R=>by have:=qu6 R;simp only [wtS,List.length_cons];omega
theorem qmn (a b:TermM)(l m:List TermM):cmpL (a::l) (b::m)=if cmp a b≠0 then cmp a b else cmpL l m:=rfl
theorem qik (a b:TermM)(l m:List TermM)(va vb:Value)(R:Stk)(h:cmpN a b=0)(u v u' v':Value):
  cmpS ((va,vb,a::l,b::m)::R)=cmpS ((u,v,a.args,b.args)::(u',v',l,m)::R):=by
 have hx:cmpL (a::l) (b::m)=if cmpL a.args b.args≠0 then cmpL a.args b.args else cmpL l m:=by
  rw [qmn,ql6 a b,if_neg (by simp [h]:¬ cmpN a b≠0)]
 have e1:cmpS ((va,vb,a::l,b::m)::R)=if cmpL (a::l) (b::m)≠0 then cmpL (a::l) (b::m) else cmpS R:=rfl
 have e2:cmpS ((u,v,a.args,b.args)::(u',v',l,m)::R)=if cmpL a.args b.args≠0 then cmpL a.args b.args else if cmpL l m≠0 then cmpL l m else cmpS R:=rfl
 rw [e1,e2,hx];by_cases h1:cmpL a.args b.args=0
 ·simp [h1]
 ·simp [h1]
theorem qu7:(Tryz.prog.info? 259).map (fun i=>(i.zero,i.size,i.bytes))=some (some (.agg #[.slice none 0 0,.slice none 0 0]),2,48):=by kernel_rfl
theorem qeb (w:World)(u v:Value)(t:TypeId):∀ (j:Nat) (x:Value),[u,v][j]? =some x→(w.alloc (.cells #[u,v] t)).cell? ((⟨w.heap.size,0,none⟩:Addr).add j)=some x:=by
 intro j x hj;match j,hj with
 | 0,hj=>simp at hj;subst hj;simp [Addr.add]
 | 1,hj=>simp at hj;subst hj;simp [Addr.add]
theorem qgp{u v:Value}(h:u.oneCell'=true)(h':v.oneCell'=true):∀ x∈[u,v],x.oneCell'=true:=by
 intro x hx;simp at hx;rcases hx with rfl|rfl
 ·exact h
 ·exact h'
theorem qqe{x:TermM}{L:List TermM}(h:HasTs n lo w (.slice A m c) (x::L)):
  ∃ A4 c4,(∀ W,(Instr.sliceAt 36 (.slice A m c) (some (.int .i64 1)) none none).run Tryz.prog W=.ok (.slice A4 (m-1) c4) W)∧HasTs n lo w (.slice A4 (m-1) c4) L:=by
 have hel:Tryz.prog.elem 36=38:=by kernel_rfl
 have ab:Tryz.prog.underlying 36=some (.slice (Tryz.prog.elem 36)):=by rw [hel];exact Tryz.underlying36
 obtain ⟨i0,hi,ad,ae,af⟩:=info_parts qb1;have hcs:Tryz.prog.cellsOf 38=4:=by kernel_rfl
 obtain ⟨hm,ag,hmc⟩:=h.len;rw [List.length_cons] at hm;obtain ⟨g,o,cs,rfl,_⟩:=h.get (j:=0) o_
 have aa:∀ W,(Instr.sliceAt 36 (.slice (some ⟨g,o,none⟩) m c) (some (.int .i64 1)) none none).run Tryz.prog W=.ok (sliced (some ⟨g,o,none⟩) 1 m c 4) W:=fun W=>by
  rw [run_sliceAt_slice W _ _ _ _ _ ab,run_slice_l W _ _ _ _ ab .i64 1 o_ o_,hel,run_sizeOf W hi,hcs];rfl
 by_cases h1:c=1
 ·have ac:m=1:=o_
  refine ⟨some ⟨g,o,none⟩,c-1,fun W=>?_,?_⟩
  ·rw [aa W,sliced,if_pos h1]
  ·have:L=[]:=List.eq_nil_of_length_eq_zero o_
   rw [this,ac,h1];exact HasR.nil _ _ _ Aa_ _
 ·refine ⟨some ⟨g,o+4,none⟩,c-1,fun W=>?_,HasR.tail h (by omega:1≤m)⟩
  rw [aa W,sliced,if_neg h1];simp [Addr.add]
theorem qxt{R:Stk}{p:Value×Value×List TermM×List TermM}(hk:k=R.length):(flat (p::R))[k*2]? =some p.1∧(flat (p::R))[k*2+1]? =some p.2.1:=by
 have h:=ql8 R;rw [flat,hk];refine ⟨?_,?_⟩
 ·rw [List.getElem?_append_right o_,h,Nat.sub_self];rfl
 ·rw [List.getElem?_append_right o_,h,Nat.add_sub_cancel_left];rfl
theorem qxu{R:Stk}{p:Value×Value×List TermM×List TermM}(hk:k=R.length):(flat (p::R)).take (k*2)=flat R:=by
 have h:=ql8 R;rw [flat,hk,List.take_append_of_le_length o_,List.take_of_length_le o_]
theorem c7_{p:Prop}(h:p:=by
 have p3:=(aa.below.cell (p:=⟨ga,oa+3,none⟩) ag).trans c3;have q3:=(aa.below.cell (p:=⟨gb,ob+3,none⟩) ab).trans e3;clear c3 e3;go_wp2_with fail
 go_region_law (refine step_append_d (by rfl) _ _ _ (by rfl) w.heap.size 259 j0 _ 2 48 Tryz.underlying257 aL aM aN aO rfl o_ g k cap (flat R) (by rfl) (own_below au.out (b_.drew.alloc (by simp) _)) ⟨_,0,none⟩ 1 1 [.slice A4 (na-1) c4,.slice B4 (nb-1) d4] (by rfl) (by rfl) (qeb _ _ _ _) (qgp rfl rfl) Aa_ o_ (by have:=aa.below.size;simp;omega) ?_;intro g' cap' w4 ad ah hg4 aY ai)
 all_goals
  have ac:GB w.heap.size w w4:=GB.grown ((aa.drew).alloc (by have:=aa.below.size;simp;omega) _) ah ai (by have:=aa.below.size;simp;omega) aE;have hg2:w.heap.size≤g':=by
   have:=aa.below.size;rcases hg4 with h|h
   ·omega
   ·rw [h];simp;omega
  have aZ:=z_ ad;have p4:w4.cell? ⟨ga,oa+3,none⟩=some (.slice A2 ax ap):=(ac.below.cell (p:=⟨ga,oa+3,none⟩) ag).trans ((aa.below.cell (p:=⟨ga,oa+3,none⟩) ag).symm.trans p3);have q4:w4.cell? ⟨gb,ob+3,none⟩=some (.slice B2 ay aq):=(ac.below.cell (p:=⟨gb,ob+3,none⟩) ab).trans ((aa.below.cell (p:=⟨gb,ob+3,none⟩) ab).symm.trans q3);clear ah ai ad hg4 p3 q3;go_wp2;go_quiet (fail)
  go_wp2;go_roundg (2*qa2 x.args+wtS ((.slice A4 (na-1) c4,.slice B4 (nb-1) d4,ta,tb)::R))
  case measure=>have h5:=an.out;have h6:=az.out;simp only [wtS];omega
  case rel=>
   refine ⟨A2,ax,ap,B2,ay,aq,x.args,y.args,(.slice A4 (na-1) c4,.slice B4 (nb-1) d4,ta,tb)::R,g',k+1,cap',rfl,rfl,rfl,z_ ⟨ao.out.1,ao.out.2,?_⟩,z_ ?_,?_,hg2,⟨Nat.le_refl _,?_⟩,own_below aZ.out (qa3 b_ _),by first|exact ac.drewN _|exact ac.drew|exact ac⟩
   ·intro p hp
    rcases List.mem_cons.1 hp with rfl|hp
    ·exact ⟨bg.out,bh.out⟩
    ·exact HI.out.2.2 p hp
   ·rw [← HE.out]
    exact (qik x y ta tb _ _ R aX.out _ _ _ _).symm
   ·rw [List.length_cons,← aV.out]
   ·have h5:=an.out;have h6:=az.out;simp only [wtS];omega
):p:=h
theorem c8_{p:Prop}(h:p:=by
 rintro e w' ⟨rfl,rfl⟩;rw [af];go_wp2;go_ret;exact ⟨qan HR.out.symm,ae⟩
):p:=h
theorem qu8 (L M:List TermM)(va vb:Value)(w:World)(ha:HasTs n lo w va L)(hb:HasTs n lo' w vb M)(hsz:qa2 L≤2097152):
  Calls Tryz.prog 168 #[va,vb] w fun e w'=>e=.returned (.int .i64 (cmpL L M))∧GB w.heap.size w w':=by
 obtain ⟨A,ca,rfl,ha⟩:=HasR.shape ha rfl;obtain ⟨B,cb,rfl,hb⟩:=HasR.shape hb rfl;have HA:=z_ ha;have HB:=z_ hb;obtain ⟨j0,aL,aM,aN,aO⟩:=info_parts qu7;obtain ⟨O,bB,am⟩:∃ O,(∀ W,(Instr.makeSlice 257 (.int .i64 0) (.int .i64 20)).run Tryz.prog W=.ok (.slice (some ⟨W.heap.size,0,none⟩) 0 20) (W.alloc O))∧∀ W:World,(W.alloc O).ownsRow W.heap.size 259 2 (.slice (some ⟨W.heap.size,0,none⟩) 0 20) 0 []:=by
  refine ⟨.cells (madeCells (Value.agg #[.slice none 0 0,.slice none 0 0]).cells ((20:Int).toNat*j0.size)) 259,fun W=>?_,fun W=>?_⟩
  ·exact run_make W _ _ _ _ Tryz.underlying257 aL aM .i64 .i64 0 20 o_ o_ (by rw [aO];omega) o_
  ·exact World.ownsRow_made W _ 20 n_ Aa_ (by rw [size_madeCells,aN];rfl)
 have a6:=z_ (am w);obtain ⟨NL,a7⟩:=e_ (L.length);obtain ⟨NM,a8⟩:=e_ (M.length);rw [← a7] at HA ⊢;rw [← a8] at HB ⊢;clear ha hb am a7 a8;go_enter Tryz.func168,Tryz.ntmps168
 go_wp2_with fail
 have aA:GB w.heap.size w (w.alloc O):=(GB.refl _ _).alloc n_ _;have bj:Hid (w.heap.size<(w.alloc O).heap.size):=z_ (by simp);generalize w.alloc O=W0 at aA a6 bj ⊢
 go_loopg [0,1,5] (2*qa2 L) (fun gk v0 v1 v5 wr=>∃ (A:Option Addr) (na ca:Nat) (B:Option Addr) (nb cb:Nat) (la lb:List TermM) (R:Stk) (g k cap:Nat),v0=.slice A na ca∧v1=.slice B nb cb∧v5=.slice (some ⟨g,0,none⟩) k cap∧
   Hid (HasTs n lo w (.slice A na ca) la∧HasTs n lo' w (.slice B nb cb) lb∧∀ p∈R,HasTs n lo w p.1 p.2.2.1∧HasTs n lo' w p.2.1 p.2.2.2)∧Hid (cmpS ((v0,v1,la,lb)::R)=cmpL L M)∧k=R.length∧w.heap.size≤g∧(2*qa2 la+wtS R≤gk∧gk≤4194304)∧
   wr.ownsRow w.heap.size 259 2 (.slice (some ⟨g,0,none⟩) k cap) k (flat R)∧GB w.heap.size w wr)
 case atStart=>
  refine ⟨A,NL,ca,B,NM,cb,L,M,[],w.heap.size,0,20,rfl,rfl,rfl,z_ ⟨HA.out,HB.out,fun p hp=>by simp at hp⟩,z_ ?_,rfl,Nat.le_refl _,⟨by simp [wtS],by omega⟩,a6.out,aA⟩;simp only [cmpS];by_cases h:cmpL L M=0<;>simp [h]
 case round=>
  obtain ⟨A,na,ca,B,nb,cb,la,lb,R,g,k,cap,rfl,rfl,rfl,HI,HE,av,aE,⟨aP,bC⟩,hown,ae⟩:=hrel;have an:=z_ aP;have aj:=z_ hown;have bk:g<wr.heap.size:=by
   rcases hown.2 with ⟨hv,_⟩|⟨g',cap',cur,hv,hb,hg,_⟩
   ·cases hv
   ·simp only [Value.slice.injEq,Option.some.injEq,Addr.mk.injEq,and_true,true_and] at hv
    obtain ⟨rfl,rfl⟩:=hv;exact (q_ hg)
  have bD:k≤4194304:=by have h1:=qu6 R;omega
  have bl:k≤cap:=by obtain ⟨_,_,e,h⟩:=qaz hown;cases e;exact h
  clear hown;cases la with
  | nil=>
   obtain rfl:na=0:=HI.out.1.len.1;cases lb with
   | nil=>
    obtain rfl:nb=0:=HI.out.2.1.len.1;have af:cmpI 0 0=0:=by decide
    cases R with
    | nil=>
     obtain rfl:k=0:=av;have HR:Hid (cmpL L M=0):=z_ (by rw [← HE.out];rfl);go_wp2_with fail
     refine (qfr 0 0 _).mono ?_;exact c8_
    | cons p R=>
     obtain ⟨k',rfl⟩:∃ k',k=k'+1:=⟨R.length,by rw [av];rfl⟩;have aF:k'=R.length:=by simpa using av
     obtain ⟨v1,v2,l1,m1⟩:=p;have aG:HasTs n lo w v1 l1:=(HI.out.2.2 _ (List.mem_cons_self)).1;have aH:HasTs n lo' w v2 m1:=(HI.out.2.2 _ (List.mem_cons_self)).2;obtain ⟨A3,c3,rfl,aG⟩:=HasR.shape aG rfl;obtain ⟨B3,d3,rfl,aH⟩:=HasR.shape aH rfl;obtain ⟨ba,bb⟩:=qxt (p:=(.slice A3 l1.length c3,.slice B3 m1.length d3,l1,m1)) aF;have s1:=(aj.out.cellAt (k'*2) o_).trans ba;have s2:=(aj.out.cellAt (k'*2+1) o_).trans bb
     have bm:Hid (wr.ownsRow w.heap.size 259 2 (.slice (some ⟨g,0,none⟩) k' cap) k' (flat R)):=z_ (by
      have h:=qdu aj.out (m:=k') o_
      rwa [qxu aF] at h)
     have HP:=z_ (And.intro aG aH);have HT:Hid (∀ p∈R,HasTs n lo w p.1 p.2.2.1∧HasTs n lo' w p.2.1 p.2.2.2):=z_ (fun p hp=>HI.out.2.2 p (List.mem_cons_of_mem _ hp));have aQ:Hid (cmpS ((.slice A3 l1.length c3,.slice B3 m1.length d3,l1,m1)::R)=cmpL L M):=z_ (by rw [← HE.out];rfl);obtain ⟨n1,bc⟩:=e_ (l1.length);obtain ⟨m2,bd⟩:=e_ (m1.length);rw [← bc] at s1 HP aQ;rw [← bd] at s2 HP aQ;have bn:k'+1≤cap:=bl;have bo:=z_ aF;clear aG aH ba bb bc bd aP aF av;go_wp2_with fail
     refine (qfr 0 0 _).mono ?_;rintro e w' ⟨rfl,rfl⟩;rw [af];go_wp2;go_quiet (fail)
     go_wp2;go_roundg (2*qa2 l1+wtS R)
     case measure=>have:=an.out;simp only [wtS] at this;omega
     case rel=>
      refine ⟨A3,n1,c3,B3,m2,d3,l1,m1,R,g,k',cap,rfl,rfl,?_,z_ ⟨HP.out.1,HP.out.2,HT.out⟩,aQ,bo.out,aE,⟨Nat.le_refl _,?_⟩,?_,?_⟩
      ·first|rfl|go_num
      ·have:=an.out;simp only [wtS] at this;omega
      ·exact own_below bm.out (qa3 b_ _)
      ·exact ae.drewN _
   | cons y tb=>
    have aw:=HI.out.2.1.len.1;rw [List.length_cons] at aw;have af:cmpI 0 (nb:Int)=-1:=by unfold cmpI;rw [if_neg o_,if_pos o_]
    have HR:Hid (cmpL L M=-1):=z_ (by rw [← HE.out];simp only [cmpS];rw [if_pos (by simp [cmpL])];rfl);have aB:¬ nb=0:=o_;have aR:=HI.out.2.1.len.2.1;clear aw;go_wp2_with fail
    refine (qfr 0 nb _).mono ?_;exact c8_
  | cons x ta=>
   have aI:=HI.out.1.len.1;rw [List.length_cons] at aI;have aS:¬ na=0:=o_;have bp:=HI.out.1.len.2.1;cases lb with
   | nil=>
    obtain rfl:nb=0:=HI.out.2.1.len.1;have af:cmpI (na:Int) 0=1:=by unfold cmpI;rw [if_neg o_,if_neg o_]
    have HR:Hid (cmpL L M=1):=z_ (by rw [← HE.out];simp only [cmpS];rw [if_pos (by simp [cmpL])];rfl);clear aI;go_wp2_with fail
    refine (qfr na 0 _).mono ?_;exact c8_
   | cons y tb=>
    have aw:=HI.out.2.1.len.1;rw [List.length_cons] at aw;have aB:¬ nb=0:=o_;have aR:=HI.out.2.1.len.2.1;obtain ⟨ka,ga,oa,A2,ap,bq,rfl,_,ag,c0,c1,c2,c3,aT,_⟩:=qal HI.out.1 (j:=0) o_;obtain ⟨kb,gb,ob,B2,aq,br,rfl,_,ab,e0,e1,e2,e3,aU,_⟩:=qal HI.out.2.1 (j:=0) o_;obtain ⟨A4,c4,bE,be⟩:=qqe HI.out.1;obtain ⟨B4,d4,bs,bf⟩:=qqe HI.out.2.1;have eA:(x::ta).getD 0 default=x:=rfl;have eB:(y::tb).getD 0 default=y:=rfl;rw [eA] at c0 c1 c2 c3 aT;rw [eB] at e0 e1 e2 e3 aU;simp only [Nat.zero_mul,Nat.add_zero] at c0 c1 c2 c3 e0 e1 e2 e3;have HN:=z_ (And.intro aI aw);have bF:decide (na=0)=false:=decide_eq_false aS;have bG:decide (nb=0)=false:=decide_eq_false aB;have bH:decide ((na:Int)=0)=false:=f_;have bI:decide ((nb:Int)=0)=false:=f_;have bJ:((na:Int)==0)=false:=beq_eq_false_iff_ne.2 o_;have bK:((nb:Int)==0)=false:=beq_eq_false_iff_ne.2 o_;have bg:=z_ be;have bh:=z_ bf;have aV:=z_ av;have ao:Hid (HasTs n lo w (.slice A2 x.args.length ap) x.args∧HasTs n lo' w (.slice B2 y.args.length aq) y.args):=z_ ⟨aT.up o_,aU.up o_⟩;obtain ⟨ax,aC⟩:=e_ (x.args.length);obtain ⟨ay,aD⟩:=e_ (y.args.length);rw [← aC] at c3 ao;rw [← aD] at e3 ao
    have az:Hid (qa2 (x::ta)=1+qa2 x.args+qa2 ta):=z_ (by
     have:size x=1+qa2 x.args:=by cases x;exact qbe _ _ _ _
     simp only [qa2,List.map_cons,List.sum_cons] at this ⊢
     omega)
    have ak:ga<wr.heap.size:=w_ ag ae.below.size;have al:gb<wr.heap.size:=w_ ab ae.below.size;have p0:=(ae.below.cell (p:=⟨ga,oa,none⟩) ag).trans c0;have p1:=(ae.below.cell (p:=⟨ga,oa+1,none⟩) ag).trans c1;have p2:=(ae.below.cell (p:=⟨ga,oa+2,none⟩) ag).trans c2;have q0:=(ae.below.cell (p:=⟨gb,ob,none⟩) ab).trans e0;have q1:=(ae.below.cell (p:=⟨gb,ob+1,none⟩) ab).trans e1;have q2:=(ae.below.cell (p:=⟨gb,ob+2,none⟩) ab).trans e2
    have aW:=z_ (fun W (hW:GB wr.heap.size wr W)=>qij x y ga oa gb ob W (w_ ak hW.below.size) (w_ al hW.below.size)
     ((hW.below.cell (p:=⟨ga,oa,none⟩) ak).trans p0) ((hW.below.cell (p:=⟨ga,oa+1,none⟩) ak).trans p1) ((hW.below.cell (p:=⟨ga,oa+2,none⟩) ak).trans p2)
     ((hW.below.cell (p:=⟨gb,ob,none⟩) al).trans q0) ((hW.below.cell (p:=⟨gb,ob+1,none⟩) al).trans q1) ((hW.below.cell (p:=⟨gb,ob+2,none⟩) al).trans q2))
    obtain ⟨r,hr⟩:=e_ (cmpN x y);rw [← hr] at aW;have bi:=z_ hr;clear c0 c1 c2 e0 e1 e2 p0 p1 p2 q0 q1 q2 aI aw be bf av aT aU aC aD hr bq br aP;go_wp2;go_quiet (fail)
    go_wp2_with fail
    refine (aW.out _ (by first|exact (GB.refl _ _).drewN _|exact (GB.refl _ _).drew)).mono ?_;rintro e w2 ⟨rfl,aJ⟩;have aa:GB w.heap.size w w2:=(by first|exact ae.drewN _|exact ae.drew:GB w.heap.size w _).trans (aJ.mono ae.below.size);have au:=z_ (own_below aj.out ((qa3 b_ _).trans aJ.below));have bt:g<w2.heap.size:=w_ bk aJ.below.size;clear aJ aW;by_cases aK:r=0
    ·subst aK
     have aX:Hid (cmpN x y=0):=z_ bi.out.symm;by_cases h1:1<na
     ·have bu:decide (1<na)=true:=decide_eq_true h1
      have bv:decide ((1:Int)<(na:Int))=true:=d_;exact c7_
     ·have bu:decide (1<na)=false:=decide_eq_false h1
      have bv:decide ((1:Int)<(na:Int))=false:=f_;by_cases h2:1<nb
      ·have bw:decide (1<nb)=true:=decide_eq_true h2
       have bx:decide ((1:Int)<(nb:Int))=true:=d_;exact c7_
      ·have bw:decide (1<nb)=false:=decide_eq_false h2
       have bx:decide ((1:Int)<(nb:Int))=false:=f_;have bz:ta=[]:=List.eq_nil_of_length_eq_zero (by have:=HN.out.1;omega);have bA:tb=[]:=List.eq_nil_of_length_eq_zero (by have:=HN.out.2;omega);have p3:=(aa.below.cell (p:=⟨ga,oa+3,none⟩) ag).trans c3;have q3:=(aa.below.cell (p:=⟨gb,ob+3,none⟩) ab).trans e3;clear c3 e3;go_wp2;go_quiet (fail)
       go_wp2;go_roundg (2*qa2 x.args+wtS R)
       case measure=>have h5:=an.out;have h6:=az.out;omega
       case rel=>
        refine ⟨A2,ax,ap,B2,ay,aq,x.args,y.args,R,g,k,cap,rfl,rfl,rfl,z_ ⟨ao.out.1,ao.out.2,HI.out.2.2⟩,z_ ?_,aV.out,aE,⟨Nat.le_refl _,?_⟩,own_below au.out (qa3 b_ _),by first|exact aa.drewN _|exact aa.drew|exact aa⟩
        ·rw [← HE.out,qik x y ta tb _ _ R aX.out (.slice A2 ax ap) (.slice B2 ay aq) undef undef,bz,bA]
         rfl
        ·have h5:=an.out;have h6:=az.out;omega
    ·have HR:Hid (cmpL L M=r):=z_ (by
      have h:=bi.out;rw [← HE.out];simp only [cmpS]
      rw [qmn,ql6 x y,← h,if_pos aK,if_pos aK,if_pos aK])
     go_wp2;go_ret;exact ⟨qan HR.out.symm,aa⟩
abbrev aggT (t:TermM)(v:Value):Value:=.agg #[.int .i64 t.op,.string (bstr t.name),.int .i64 t.sort,v]
theorem qcu (t u:TermM)(va vb:Value)(w:World)(ha:HasTs n lo w va t.args)(hb:HasTs n lo' w vb u.args)(hsz:qa2 t.args≤2097152):
  Calls Tryz.prog 115 #[aggT t va,aggT u vb] w fun e w'=>e=.returned (.int .i64 (cmp t u))∧GB w.heap.size w w':=by
 obtain ⟨A,ca,rfl,_⟩:=HasR.shape ha rfl;obtain ⟨B,cb,rfl,_⟩:=HasR.shape hb rfl;have HL:=z_ (fun W (hW:GB w.heap.size w W)=>qu8 t.args u.args _ _ W (ha.below n_ hW.below) (hb.below n_ hW.below) hsz);have HN:=z_ (fun W=>qij t u w.heap.size 0 (w.heap.size+1) 0 W);obtain ⟨r,hr⟩:=e_ (cmpN t u);obtain ⟨z,hz⟩:=e_ (cmpL t.args u.args);have HC:Hid (cmp t u=if r≠0 then r else z):=z_ (by rw [hr,hz];exact ql6 t u);obtain ⟨c,hc⟩:=e_ (cmp t u);rw [← hc] at HC ⊢;rw [← hr] at HN;rw [← hz] at HL;unfold aggT;obtain ⟨k,hk⟩:=e_ (t.args.length);obtain ⟨m,hm⟩:=e_ (u.args.length);rw [← hk] at HL ⊢;rw [← hm] at HL ⊢;obtain ⟨to,ad⟩:=e_ (t.op);obtain ⟨tn,ae⟩:=e_ (t.name);obtain ⟨ts,af⟩:=e_ (t.sort);obtain ⟨uo,ag⟩:=e_ (u.op);obtain ⟨un,ah⟩:=e_ (u.name);obtain ⟨us,ai⟩:=e_ (u.sort);rw [← ad,← ae,← af,← ag,← ah,← ai] at HN ⊢;clear ha hb hsz hr hz hc hk hm ad ae af ag ah ai;go_enter Tryz.func115,Tryz.ntmps115
 go_wp2_with fail
 refine (HN.out _ (by simp;omega) (by simp) (by simp) (by simp) (by simp) (by simp) (by simp) (by simp)).mono ?_;rintro e w1 ⟨rfl,aa⟩;have ab:GB w.heap.size w w1:=((((GB.refl _ _).alloc n_ _).alloc (by simp) _)).trans (aa.mono (by simp;omega));have d1:w1.cell? ⟨w.heap.size,3,none⟩=some (.slice A k ca):=by rw [aa.below.cell (p:=⟨w.heap.size,3,none⟩) (by simp;omega)];simp
 have d2:w1.cell? ⟨w.heap.size+1,3,none⟩=some (.slice B m cb):=by rw [aa.below.cell (p:=⟨w.heap.size+1,3,none⟩) (by simp)];simp
 clear aa;by_cases h0:r=0
 ·subst h0
  have HE:Hid (c=z):=z_ (by rw [HC.out];simp);go_wp2_with fail
  refine (HL.out _ ab).mono ?_;rintro e w2 ⟨rfl,aj⟩;have ac:=ab.trans (aj.mono ab.below.size);clear aj;go_wp2;go_ret;exact ⟨qan HE.out.symm,ac⟩
 ·have HE:Hid (c=r):=z_ (by rw [HC.out,if_pos h0])
  go_wp2;go_ret;exact ⟨qan HE.out.symm,ab⟩
theorem qec (t u:TermM)(va vb:Value)(w:World)(ha:HasTs n lo w va t.args)(hb:HasTs n lo' w vb u.args)(hsz:qa2 t.args≤2097152)(r:Bool)(hr:decide (cmp t u=0)=r):
  Calls Tryz.prog 110 #[aggT t va,aggT u vb] w fun e w'=>e=.returned (.bool r)∧GB w.heap.size w w':=by
 obtain ⟨A,ca,rfl,_⟩:=HasR.shape ha rfl;obtain ⟨B,cb,rfl,_⟩:=HasR.shape hb rfl;have HL:=z_ (fun W (hW:GB w.heap.size w W)=>qcu t u _ _ W (ha.below n_ hW.below) (hb.below n_ hW.below) hsz);obtain ⟨c,hc⟩:=e_ (cmp t u);rw [← hc] at hr HL;unfold aggT at HL ⊢;obtain ⟨k,hk⟩:=e_ (t.args.length);obtain ⟨m,hm⟩:=e_ (u.args.length);rw [← hk] at HL ⊢;rw [← hm] at HL ⊢;have ad:Hid (r=(c==0)):=z_ (by rw [← hr,Bool.eq_iff_iff];simp);clear ha hb hsz hc hk hm hr;go_enter Tryz.func110,Tryz.ntmps110
 go_wp2_with fail
 have aa:GB w.heap.size w ((w.alloc (.cells #[.int .i64 t.op,.string (bstr t.name),.int .i64 t.sort,.slice A k ca] 38)).alloc (.cells #[.int .i64 u.op,.string (bstr u.name),.int .i64 u.sort,.slice B m cb] 38)):=((GB.refl _ _).alloc n_ _).alloc (by simp) _;refine (HL.out _ aa).mono ?_;rintro e w2 ⟨rfl,ac⟩;have ab:=aa.trans (ac.mono aa.below.size);clear ac aa;go_wp2;go_ret;exact ⟨qa0 ad.out.symm,ab⟩
end termx

namespace bndl
open mem rowl trm terml termb termt
structure BindM where
 v:TermM
 t:TermM
instance:Inhabited BindM:=⟨⟨default,default⟩⟩
abbrev aggB (b:BindM)(va vb:Value):Value:=.agg #[.int .i64 b.v.op,.string (bstr b.v.name),.int .i64 b.v.sort,va,.int .i64 b.t.op,.string (bstr b.t.name),.int .i64 b.t.sort,vb]
def RB (n:Nat):qhq BindM:=fun lo w cs b=>∃ va vb,cs=[.int .i64 b.v.op,.string (bstr b.v.name),.int .i64 b.v.sort,va,.int .i64 b.t.op,.string (bstr b.t.name),.int .i64 b.t.sort,vb]∧HasTs n lo w va b.v.args∧HasTs n lo w vb b.t.args∧Bnd b.v∧Bnd b.t
theorem qcv (n:Nat):Steady (RB n):=
 ⟨fun ⟨va,vb,e,h1,h2,r⟩ hk=>⟨va,vb,e,h1.kept (qa7 n) hk,h2.kept (qa7 n) hk,r⟩,fun ⟨va,vb,e,h1,h2,r⟩ hl=>⟨va,vb,e,h1.mono (qa7 n) hl,h2.mono (qa7 n) hl,r⟩⟩
abbrev HasBs (n lo:Nat)(w:World)(v:Value)(L:List BindM):Prop:=HasR (RB n) 8 lo w v L
theorem HasBs.up {n m:Nat}(h:n≤m){lo:Nat}{w:World}{v:Value}{L:List BindM}(hr:HasBs n lo w v L):HasBs m lo w v L:=
 hr.map (fun ⟨va,vb,e,h1,h2,r⟩=>⟨va,vb,e,h1.up h,h2.up h,r⟩)
theorem HasBs.below {n lo:Nat}{w w':World}{v:Value}{L:List BindM}(h:HasBs n lo w v L){B:Nat}(hB:w.heap.size≤B)(hb:Below B w w'):HasBs n lo w' v L:=HasR.below (qcv n) h hB hb
def Cells8 (w:World)(g p:Nat)(b:BindM)(A1:Option Addr)(c1:Nat)(A2:Option Addr)(c2:Nat):Prop:=
 (w.cell? ⟨g,p,none⟩=some (.int .i64 b.v.op)∧w.cell? ⟨g,p+1,none⟩=some (.string (bstr b.v.name))∧w.cell? ⟨g,p+2,none⟩=some (.int .i64 b.v.sort)∧w.cell? ⟨g,p+3,none⟩=some (.slice A1 b.v.args.length c1))∧
 (w.cell? ⟨g,p+4,none⟩=some (.int .i64 b.t.op)∧w.cell? ⟨g,p+5,none⟩=some (.string (bstr b.t.name))∧w.cell? ⟨g,p+6,none⟩=some (.int .i64 b.t.sort)∧w.cell? ⟨g,p+7,none⟩=some (.slice A2 b.t.args.length c2))
theorem Cells8.below{p:Nat}{b:BindM}{A1:Option Addr}{c1:Nat}{A2:Option Addr}{c2:Nat}(h:Cells8 w g p b A1 c1 A2 c2)(hb:Below w.heap.size w w'):Cells8 w' g p b A1 c1 A2 c2:=by
 obtain ⟨⟨h0,h1,h2,h3⟩,h4,h5,h6,h7⟩:=h;have k:∀ {o:Nat} {v:Value},w.cell? ⟨g,o,none⟩=some v→w'.cell? ⟨g,o,none⟩=some v:=fun {o v} h=>(hb.cell (p:=⟨g,o,none⟩) (World.block_lt_of_cell? w _ h)).trans h
 exact ⟨⟨k h0,k h1,k h2,k h3⟩,k h4,k h5,k h6,k h7⟩
theorem qdc{L:List BindM}(h:HasBs n lo w (.slice A m c) L){j:Nat}(hj:j<m):
  ∃ (g o:Nat) (A1:Option Addr) (c1:Nat) (A2:Option Addr) (c2:Nat),A=some ⟨g,o,none⟩∧g<w.heap.size∧Cells8 w g (o+j*8) (L.getD j default) A1 c1 A2 c2∧
   HasTs n lo w (.slice A1 (L.getD j default).v.args.length c1) (L.getD j default).v.args∧HasTs n lo w (.slice A2 (L.getD j default).t.args.length c2) (L.getD j default).t.args∧Bnd (L.getD j default).v∧Bnd (L.getD j default).t:=by
 obtain ⟨g,o,cs,e,hl,hg,hc,va,vb,aa,h1,h2,h3,h4⟩:=h.get hj;subst aa;obtain ⟨A1,c1,rfl,ab⟩:=HasR.shape h1 rfl;obtain ⟨A2,c2,rfl,ac⟩:=HasR.shape h2 rfl;exact ⟨g,o,A1,c1,A2,c2,e,hg,⟨⟨hc 0 o_,hc 1 o_,hc 2 o_,hc 3 o_⟩,hc 4 o_,hc 5 o_,hc 6 o_,hc 7 o_⟩,ab,ac,h3,h4⟩
noncomputable def bsz (L:List BindM):Nat:=(L.map fun b=>1+qa2 b.v.args+qa2 b.t.args).sum
theorem qxv{L:List BindM}(h:k<L.length):bsz (L.take (k+1))=bsz (L.take k)+(1+qa2 (L.getD k default).v.args+qa2 (L.getD k default).t.args):=by
 rw [List.take_succ_eq_append_getElem h];have:L.getD k default=L[k]:=by simp [List.getD,h]
 rw [this];simp only [bsz,List.map_append,List.map_cons,List.map_nil,List.sum_append,List.sum_cons,List.sum_nil];omega
theorem qoq (L:List BindM):L.length≤bsz L:=by
 induction L with
 | nil=>simp
 | cons a l ih=>simp only [bsz,List.map_cons,List.sum_cons,List.length_cons] at ih ⊢;omega
theorem qqf{L:List BindM}:∀ {j:Nat},j<L.length→1+qa2 (L.getD j default).v.args+qa2 (L.getD j default).t.args≤bsz L:=by
 induction L with
 | nil=>intro j h;simp at h
 | cons a l ih=>
  intro j h;simp only [bsz,List.map_cons,List.sum_cons] at ih ⊢;cases j with
  | zero=>simp
  | succ j=>
   have:=ih (j:=j) Bg_;rw [List.getD_cons_succ];omega
end bndl

namespace bndc
open mem dec rowl trm terml termb termt termx bndl
theorem qjo{v3 v4 v5 v6 v7:Value}{t:TypeId}(h:w.heap[x]? =some (.cells #[v0,v1,v2,v3,v4,v5,v6,v7] t (0,0))):(w.cell? ⟨x,0,none⟩=some v0∧w.cell? ⟨x,1,none⟩=some v1∧w.cell? ⟨x,2,none⟩=some v2∧w.cell? ⟨x,3,none⟩=some v3)∧w.cell? ⟨x,4,none⟩=some v4∧w.cell? ⟨x,5,none⟩=some v5∧w.cell? ⟨x,6,none⟩=some v6∧w.cell? ⟨x,7,none⟩=some v7:=
 ⟨⟨h_ w x 0 _ _ _ h,h_ w x 1 _ _ _ h,h_ w x 2 _ _ _ h,h_ w x 3 _ _ _ h⟩,h_ w x 4 _ _ _ h,h_ w x 5 _ _ _ h,h_ w x 6 _ _ _ h,h_ w x 7 _ _ _ h⟩
set_option maxRecDepth 20000 in
set_option maxHeartbeats 2000000 in
theorem qxw (a b:BindM)(va vb:Value)(U:Option Addr)(m c:Nat)(U':Option Addr)(m' c':Nat)(w:World)(ha:HasTs n lo w va a.v.args)(hb:HasTs n lo' w vb b.v.args)(hsz:qa2 a.v.args≤2097152):
  Calls Tryz.prog 92 #[aggB a va (.slice U m c),aggB b vb (.slice U' m' c')] w fun e w'=>e=.returned (.int .i64 (cmp a.v b.v))∧GB w.heap.size w w':=by
 obtain ⟨A,ca,rfl,_⟩:=HasR.shape ha rfl;obtain ⟨B,cb,rfl,_⟩:=HasR.shape hb rfl;have HC:=z_ (fun W (hW:GB w.heap.size w W)=>qcu a.v b.v _ _ W (ha.below n_ hW.below) (hb.below n_ hW.below) hsz);unfold aggB;unfold aggT at HC;obtain ⟨z,hz⟩:=e_ (cmp a.v b.v);obtain ⟨ka,aa⟩:=e_ (a.v.args.length);obtain ⟨kb,ab⟩:=e_ (b.v.args.length);rw [← hz] at HC ⊢;rw [← aa,← ab] at HC ⊢;clear ha hb hsz hz aa ab;go_enter Tryz.func92,Tryz.ntmps92
 go_wp2_with fail
 refine (HC.out _ (((GB.refl _ _).alloc n_ _).alloc (by simp) _)).mono ?_;rintro e w1 ⟨rfl,ac⟩;have ad:GB w.heap.size w w1:=((((GB.refl _ _).alloc n_ _).alloc (by simp) _)).trans (ac.mono (by simp;omega));clear ac;go_wp2;go_ret;exact ⟨rfl,ad⟩
end bndc

namespace gramo
set_option maxRecDepth 20000
open mem dec rowl trm trmv terml termb termt sigi
abbrev aggE (nm:List UInt8)(A:Option Addr)(n c:Nat)(a b:Bool)(u:Int)(i s0 s1 s2 s3 s4:Nat):Value:=.agg #[.string (bstr nm),.slice A n c,.bool a,.bool b,.int .i64 u,.int .i64 (i:Int),.int .i64 (s0:Int),.int .u16 (s1:Int),.int .u16 (s2:Int),.int .u16 (s3:Int),.int .u16 (s4:Int)]
theorem c44_{p:Prop}(h:p:=by
 go_enter Tryz.func190,Tryz.ntmps190
 go_wp2;go_ret;exact ⟨qa0 (by rw [← HB.out];try simp),b_.alloc n_ _⟩
):p:=h
theorem qv1 (nm:List UInt8)(A:Option Addr)(n c:Nat)(a b:Bool)(u:Int)(i s0 s1 s2 s3 s4 m:Nat)(hm:m≤9223372036854775807)(r:Bool)(hr:(if a then decide (2≤m) else decide (m=s0))=r)(w:World):
  Calls Tryz.prog 190 #[aggE nm A n c a b u i s0 s1 s2 s3 s4,.int .i64 m] w fun e w'=>e=.returned (.bool r)∧Below w.heap.size w w':=by
 have HR:=z_ hr;clear hr;cases a with
 | true=>
  have HB:Hid (decide ((2:Int)≤(m:Int))=r):=z_ (by rw [← HR.out,if_pos rfl,Bool.eq_iff_iff];simp;omega);exact c44_
 | false=>
  have HB:Hid (((m:Int)==(s0:Int))=r):=z_ (by rw [← HR.out,if_neg (by simp),Bool.eq_iff_iff];simp;omega);exact c44_
def kAtS (a:Bool)(s:Shp)(k:Nat):Nat:=if a then s.2.1 else match k with|0=>s.2.1|1=>s.2.2.1|_=>s.2.2.2.1
theorem qsq (nm:List UInt8)(A:Option Addr)(n c:Nat)(a b:Bool)(u:Int)(i s0 s1 s2 s3 s4 k:Nat)(hk:a=false→k<3)(w:World):
  Calls Tryz.prog 192 #[aggE nm A n c a b u i s0 s1 s2 s3 s4,.int .i64 k] w fun e w'=>e=.returned (.int .u16 ((kAtS a (s0,s1,s2,s3,s4) k:Nat):Int))∧Below w.heap.size w w':=by
 cases a with
 | true=>
  go_enter Tryz.func192,Tryz.ntmps192
  go_wp2;go_ret;exact ⟨rfl,b_.alloc n_ _⟩
 | false=>
  have hk:=hk rfl;have hcs:k=0∨k=1∨k=2:=o_;rcases hcs with rfl|rfl|rfl
  all_goals
   go_enter Tryz.func192,Tryz.ntmps192
   go_wp2;go_ret;exact ⟨rfl,b_.alloc n_ _⟩
theorem qiz (nm:List UInt8)(A:Option Addr)(n c:Nat)(a b:Bool)(u:Int)(i s0 s1 s2 s3 s4:Nat)(r:Bool)(hr:decide (u≠0)=r)(w:World):
  Calls Tryz.prog 201 #[aggE nm A n c a b u i s0 s1 s2 s3 s4] w fun e w'=>e=.returned (.bool r)∧Below w.heap.size w w':=by
 have HB:Hid ((!(u==0))=r):=z_ (by rw [← hr,Bool.eq_iff_iff];simp);clear hr;go_enter Tryz.func201,Tryz.ntmps201
 go_wp2;go_ret;exact ⟨qa0 (by rw [← HB.out];rfl),b_.alloc n_ _⟩
theorem qyf (nm:List UInt8)(A:Option Addr)(n c:Nat)(a b:Bool)(u:Int)(hu:I64 u)(aa:0≤u)(i s0 s1 s2 s3 s4:Nat)(w:World):
  Calls Tryz.prog 202 #[aggE nm A n c a b u i s0 s1 s2 s3 s4] w fun e w'=>e=.returned (.agg #[.int .i64 (u-1),.string { data:=#[] },.int .i64 0,.slice none 0 0])∧Below w.heap.size w w':=by
 obtain ⟨ab,ac⟩:=hu;have hw:IntKind.i64.wrap (u-1)=u-1:=IntWalk.i64_in _ o_;have ad:wrap64 (u-1)=u-1:=IntWalk.wrap64_in (u-1) o_;clear ab ac aa;go_enter Tryz.func202,Tryz.ntmps202
 go_wp2;refine bodyPost_ret (v:=.agg #[.int .i64 (u-1),.string { data:=#[] },.int .i64 0,.slice none 0 0]) (by simp [results,Tryz.results202,go_sem]) rfl ⟨rfl,?_⟩;repeat (first|(refine Below.setCell ?_ Ab_ _)|(refine Below.alloc ?_ Ab_ _))
 exact Below.refl _ _
theorem qk6 (nm:List UInt8)(A:Option Addr)(n c:Nat)(a b:Bool)(u:Int)(hu:I64 u)(ac:0≤u)(i s0 s1 s2 s3 s4:Nat)(t:TermM)(B:Option Addr)(m cb:Nat)(r:Bool)(hr:decide (u≠0∧t.op=u-1)=r)(w:World):
  Calls Tryz.prog 194 #[aggE nm A n c a b u i s0 s1 s2 s3 s4,.agg #[.int .i64 t.op,.string (bstr t.name),.int .i64 t.sort,.slice B m cb]] w fun e w'=>e=.returned (.bool r)∧Below w.heap.size w w':=by
 have HU:=z_ (fun r hr W=>qiz nm A n c a b u i s0 s1 s2 s3 s4 r hr W);obtain ⟨ad,ae⟩:=hu;have af:∀ w:World,∀ o1 o2:Obj,Below w.heap.size w ((w.alloc o1).alloc o2):=fun w o1 o2=>(b_.alloc n_ _).alloc (by simp) _
 have hw:IntKind.i64.wrap (u-1)=u-1:=IntWalk.i64_in _ o_;by_cases h0:u=0
 ·have HR:Hid (r=false):=z_ (by rw [← hr];exact decide_eq_false (fun e=>e.1 h0))
  have ab:=z_ (HU.out false (decide_eq_false (fun e=>e h0)));clear hr HU h0 hw af ac ad ae;go_enter Tryz.func194,Tryz.ntmps194
  go_wp2_with fail
  refine (ab.out _).mono ?_;rintro e w1 ⟨rfl,aa⟩;go_wp2;go_ret;exact ⟨qa0 HR.out.symm,(((b_.alloc n_ _).alloc (by simp) _).trans (aa.mono (by simp;omega)))⟩
 ·have ab:=z_ (HU.out true (decide_eq_true h0))
  have HR:Hid ((t.op==u-1)=r):=z_ (by rw [← hr,Bool.eq_iff_iff];simp [h0]);clear hr HU h0 af ac ad ae;go_enter Tryz.func194,Tryz.ntmps194
  go_wp2_with fail
  refine (ab.out _).mono ?_;rintro e w1 ⟨rfl,aa⟩;have e1:w1.cell? ⟨w.heap.size,4,none⟩=some (.int .i64 u):=(aa.cell (p:=⟨w.heap.size,4,none⟩) (by simp;omega)).trans (by simp);have e2:w1.cell? ⟨w.heap.size+1,0,none⟩=some (.int .i64 t.op):=(aa.cell (p:=⟨w.heap.size+1,0,none⟩) (by simp)).trans (by simp);have ag:Below w.heap.size w w1:=(((b_.alloc n_ _).alloc (by simp) _).trans (aa.mono (by simp;omega)));clear aa;go_wp2;go_ret;exact ⟨qa0 (by rw [← HR.out];try rfl),ag⟩
theorem qj0 (nm:List UInt8)(A:Option Addr)(n c:Nat)(a b:Bool)(u:Int)(i s0 s1 s2 s3 s4:Nat)(t:TermM)(B:Option Addr)(m cb:Nat)(r:Bool)(hr:(a&&decide (t.op=i))=r)(w:World):
  Calls Tryz.prog 195 #[aggE nm A n c a b u i s0 s1 s2 s3 s4,.agg #[.int .i64 t.op,.string (bstr t.name),.int .i64 t.sort,.slice B m cb]] w fun e w'=>e=.returned (.bool r)∧Below w.heap.size w w':=by
 have aa:∀ o1 o2:Obj,Below w.heap.size w ((w.alloc o1).alloc o2):=fun o1 o2=>(b_.alloc n_ _).alloc (by simp) _
 have ab:=z_ aa;cases a with
 | false=>
  have HR:Hid (r=false):=z_ (by rw [← hr];rfl);clear hr aa;go_enter Tryz.func195,Tryz.ntmps195
  go_wp2;go_ret;exact ⟨qa0 HR.out.symm,ab.out _ _⟩
 | true=>
  have HR:Hid ((t.op==(i:Int))=r):=z_ (by rw [← hr,Bool.eq_iff_iff];simp);clear hr aa;go_enter Tryz.func195,Tryz.ntmps195
  go_wp2;go_ret;exact ⟨qa0 (by rw [← HR.out];try rfl),ab.out _ _⟩
theorem qsr (f:Nat)(ad cap:Array Value)(eg:∀ args w,(callFunc f args).run Tryz.prog w=.ok (.enter f args) w)(p:TermM→Bool)(L:List TermM)(v:Value)(w:World)(h:HasTs N lo w v L)(hp:∀ t∈L,∀ (B:Option Addr) (m cb:Nat) W,Below w.heap.size w W→Calls Tryz.prog f (ad.push (.agg #[.int .i64 t.op,.string (bstr t.name),.int .i64 t.sort,.slice B m cb])++cap) W fun e w'=>e=.returned (.bool (p t))∧Below W.heap.size W w'):
  Calls Tryz.prog 226 #[v,.func (.func f) ad cap] w fun e w'=>∃ i:Int,e=.returned (.int .i64 i)∧(0≤i↔L.any p=true)∧Below w.heap.size w w':=by
 obtain ⟨n,hn⟩:=e_ (L.length);obtain ⟨A,c,rfl,h⟩:=HasR.shape h hn.symm;have hl:=h.len.2.1;have HH:=z_ h;have HN:=z_ hn;have HP:=z_ hp;clear h hn hp;go_enter Tryz.func226,Tryz.ntmps226
 go_wp2;go_loopw [5,8] (fun _ i wr=>∃ k:Nat,k≤n∧i=.int .i64 k∧Hid (∀ j,j<k→p (L.getD j default)=false)∧Hid (Below w.heap.size w wr)) (fun _ i _=>n-(intOf i).toNat)
 case atStart=>exact ⟨0,y_,rfl,z_ (fun j hj=>by omega),z_ b_⟩
 case round=>
  obtain ⟨k,hk,rfl,ac,HB⟩:=hrel;by_cases ag:k<n
  ·obtain ⟨_,g,o,A2,c2,_,rfl,_,hg,e0,e1,e2,e3,_,_⟩:=qal HH.out ag
   have aa:=HB.out;have s0:=(aa.cell (p:=⟨g,o+k*4,none⟩) hg).trans e0;have s1:=(aa.cell (p:=⟨g,o+k*4+1,none⟩) hg).trans e1;have s2:=(aa.cell (p:=⟨g,o+k*4+2,none⟩) hg).trans e2;have s3:=(aa.cell (p:=⟨g,o+k*4+3,none⟩) hg).trans e3;have ab:L.getD k default∈L:=by rw [qai Ac_];exact List.getElem_mem _
   have HC:=z_ (HP.out (L.getD k default) ab A2 (L.getD k default).args.length c2 wr aa);have HX:Hid (p (L.getD k default)=true→L.any p=true):=z_ (fun hq=>List.any_eq_true.2 ⟨_,ab,hq⟩)
   have HG:Hid (p (L.getD k default)=false→∀ j,j<k+1→p (L.getD j default)=false):=z_ (fun hq j hj=>by
    by_cases e:j=k
    ·subst e;exact hq
    ·exact ac.out j o_)
   have i1:(0:Int)≤(k:Int):=o_;have i2:(k:Int)<(n:Int):=o_;obtain ⟨t,ht⟩:=e_ (L.getD k default);rw [← ht] at s0 s1 s2 s3 HC HX HG;obtain ⟨q,hq⟩:=e_ (p t);rw [← hq] at HC HX HG;clear e0 e1 e2 e3 aa ab ht hq;go_wp2_with fail
   refine HC.out.mono ?_;rintro e w1 ⟨rfl,ae⟩;have af:=z_ (HB.out.trans (ae.mono HB.out.size));clear ae s0 s1 s2 s3 HC;cases q with
   | true=>
    go_wp2;go_ret;exact ⟨(k:Int),rfl,⟨fun _=>HX.out trivial,fun _=>by omega⟩,af.out⟩
   | false=>
    have ah:=z_ (HG.out rfl);go_wp2;go_roundw
    case rel=>exact ⟨k+1,by omega,by go_num,ah,af⟩
    case measure=>simp [intOf];omega
  ·obtain rfl:k=n:=o_
   have HF:Hid (L.any p=false):=z_ (by
    rw [List.any_eq_false];intro t ht;obtain ⟨j,hj,rfl⟩:=List.getElem_of_mem ht;have:=ac.out j Ac_;rw [qai hj] at this
    simp [this])
   go_wp2;go_ret;exact ⟨-1,rfl,⟨fun h=>by omega,fun h=>(by rw [HF.out] at h;cases h)⟩,HB.out⟩
theorem qg7 (f:Nat)(aa cap:Array Value)(eg:∀ args w,(callFunc f args).run Tryz.prog w=.ok (.enter f args) w)(p:TermM→Bool)(L:List TermM)(v:Value)(w:World)(h:HasTs N lo w v L)(hp:∀ t∈L,∀ (B:Option Addr) (m cb:Nat) W,Below w.heap.size w W→Calls Tryz.prog f (aa.push (.agg #[.int .i64 t.op,.string (bstr t.name),.int .i64 t.sort,.slice B m cb])++cap) W fun e w'=>e=.returned (.bool (p t))∧Below W.heap.size W w')(r:Bool)(hr:L.any p=r):
  Calls Tryz.prog 193 #[v,.func (.func f) aa cap] w fun e w'=>e=.returned (.bool r)∧Below w.heap.size w w':=by
 have HC:=z_ (qsr f aa cap eg p L v w h hp);rw [hr] at HC;obtain ⟨A,c,rfl,_⟩:=HasR.shape h rfl;clear hr h hp;go_enter Tryz.func193,Tryz.ntmps193
 go_wp2_with fail
 refine HC.out.mono ?_;rintro e w1 ⟨i,rfl,hi,ab⟩;cases r with
 | true=>
  have hd:decide (0≤i)=true:=decide_eq_true (hi.2 rfl);have h0:0≤i:=hi.2 rfl;clear hi;go_wp2;go_ret;exact ⟨rfl,ab⟩
 | false=>
  have h0:¬ 0≤i:=fun h=>by have:=hi.1 h;cases this
  have hd:decide (0≤i)=false:=decide_eq_false h0;clear hi;go_wp2;go_ret;exact ⟨rfl,ab⟩
end gramo

namespace termz
open mem dec rowl trm terml termb termt
abbrev Ent:=Nat×Nat×Nat
def ptr (e:Ent):Value:=.pointer (some ⟨e.1,e.2.1,none⟩)
def qbf:List Ent→List Value
 | []=>[]
 | e::L=>qbf L++[ptr e,.int .i64 e.2.2]
theorem qbu:∀ L:List Ent,(qbf L).length=L.length*2
 | []=>rfl
 | p::R=>by simp [qbf,qbu R];omega
def kids (g o d:Nat):Nat→List Ent
 | 0=>[]
 | m+1=>(g,o+m*4,d)::kids g o d m
theorem qls (g o d:Nat):∀ m,(kids g o d m).length=m
 | 0=>rfl
 | m+1=>by rw [kids,List.length_cons,qls g o d m]
def qdi (e:Ent):Value:=.agg #[ptr e,.int .i64 e.2.2]
structure Visits (vf:Nat) (cb:Array Value) (R:Nat→List Nat→List Ent→World→Prop):Prop where
 keep:∀ {n:Nat} {S S':List Nat} {L:List Ent} {w w':World},R n S L w→Chg S w w'→(∀ k∈S',(k∈S∨w.heap.size≤k)∧k<w'.heap.size)→R n S' L w'
 ent:∀ {n:Nat} {S:List Nat} {e:Ent} {L:List Ent} {w:World},R n S (e::L) w→e.1<w.heap.size∧e.1 ∉ S∧e.2.2≤1073741824∧n≤1073741824∧L.length≤1073741824
 visit:∀ {n:Nat} {S:List Nat} {e:Ent} {L:List Ent} {w:World},R n S (e::L) w→∃ n',n=n'+1∧
  Calls Tryz.prog vf (#[qdi e]++cb) w fun ex w'=>∃ b,ex=.returned (.bool b)∧w.heap.size≤w'.heap.size∧(∀ k∈S,k<w.heap.size→w'.heap[k]? =w.heap[k]?)∧
   ((b=false∧R n' S L w')∨(b=true∧∃ A m c,w'.cell? ⟨e.1,e.2.1+3,none⟩=some (.slice A m c)∧m≤1073741824∧m≤c∧
    ∃ g o,(m≠0→A=some ⟨g,o,none⟩)∧R n' S (kids g o (e.2.2+1) m++L) w'))
theorem qss:(Tryz.prog.info? 164).map (fun i=>(i.zero,i.size,i.bytes))=some (some (.agg #[.pointer none,.int .i64 0]),2,16):=by kernel_rfl
theorem qdj{R:List Ent}{p:Ent}(hk:k=R.length):(qbf (p::R))[k*2]? =some (ptr p)∧(qbf (p::R))[k*2+1]? =some (.int .i64 p.2.2):=by
 have h:=qbu R;rw [qbf,hk];refine ⟨?_,?_⟩
 ·rw [List.getElem?_append_right o_,h,Nat.sub_self];rfl
 ·rw [List.getElem?_append_right o_,h,Nat.add_sub_cancel_left];rfl
theorem qg8{R:List Ent}{p:Ent}(hk:k=R.length):(qbf (p::R)).take (k*2)=qbf R:=by
 have h:=qbu R;rw [qbf,hk,List.take_append_of_le_length o_,List.take_of_length_le o_]
theorem qqx (w:World)(u v:Value)(t:TypeId)(b:Nat)(h:b=w.heap.size):∀ (j:Nat) (x:Value),[u,v][j]? =some x→(w.alloc (.cells #[u,v] t)).cell? ((⟨b,0,none⟩:Addr).add j)=some x:=by
 subst h;exact termx.qeb w u v t
theorem qqy{size:Nat}(h:w.ownsRow base e size (.slice (some ⟨g,0,none⟩) n cap) n xs)(hb:w'.heap[g]? =w.heap[g]?):w'.ownsRow base e size (.slice (some ⟨g,0,none⟩) n cap) n xs:=by
 refine ⟨h.1,?_⟩;rcases h.2 with h2|⟨g',cap',cur,hv,hg,hh,r⟩
 ·exact .inl h2
 ·have e:=hv
  simp only [Value.slice.injEq,Option.some.injEq,Addr.mk.injEq,and_true,true_and] at e;obtain ⟨rfl,rfl⟩:=e;exact .inr ⟨g,cap,cur,rfl,hg,by rw [hb];exact hh,r⟩
theorem qc8{size:Nat}(h:w.ownsRow base e size (.slice (some ⟨g,0,none⟩) n cap) n xs):base≤g∧g<w.heap.size∧n≤cap:=by
 rcases h.2 with ⟨hv,_⟩|⟨g',cap',cur,hv,hb,hg,hc,_⟩
 ·cases hv
 ·simp only [Value.slice.injEq,Option.some.injEq,Addr.mk.injEq,and_true,true_and] at hv
  obtain ⟨rfl,rfl⟩:=hv;exact ⟨hb,(q_ hg),hc⟩
theorem qyg{w0 w1:World}(h:(w0.cell? ⟨x,0,none⟩=some v0∧w0.cell? ⟨x,1,none⟩=some v1∧w0.cell? ⟨gx,ox,none⟩=some v2)∧Chg [g5] wr w0)(hx:x<wr.heap.size)(hg:gx<wr.heap.size)(hb:Below w0.heap.size w0 w1):
  (w1.cell? ⟨x,0,none⟩=some v0∧w1.cell? ⟨x,1,none⟩=some v1∧w1.cell? ⟨gx,ox,none⟩=some v2)∧Chg [g5] wr w1:=by
 have hs:=h.2.size;have k:∀ y,w1.cell? ⟨x,y,none⟩=w0.cell? ⟨x,y,none⟩:=fun y=>hb.cell (p:=⟨x,y,none⟩) (by show x<_;omega)
 rw [k,k,hb.cell (p:=⟨gx,ox,none⟩) (by show gx<_;omega)];exact ⟨h.1,h.2.trans (Chg.of_below hb)⟩
theorem qAx{w4:World}(aa:W.grownBy w4 (some g5))(h0:W.cell? ⟨x,0,none⟩=some v0∧W.cell? ⟨x,1,none⟩=some v1∧W.cell? ⟨gx,ox,none⟩=some v2)(hc:Chg [g5] wr W)(ab:g5≠x∧g5≠gx)(hx:x<wr.heap.size)(hg:gx<wr.heap.size):
  (w4.cell? ⟨x,0,none⟩=some v0∧w4.cell? ⟨x,1,none⟩=some v1∧w4.cell? ⟨gx,ox,none⟩=some v2)∧Chg [g5] wr w4:=by
 have hs:=hc.size;have k:∀ y,w4.cell? ⟨x,y,none⟩=W.cell? ⟨x,y,none⟩:=fun y=>aa.cell_far ⟨x,y,none⟩ (by show x<_;omega) (by show some x≠some g5;intro e;injection e;omega)
 rw [k,k,aa.cell_far ⟨gx,ox,none⟩ (by show gx<_;omega) (by show some gx≠some g5;intro e;injection e;omega)];exact ⟨h0,hc.trans ⟨aa.os,aa.tape,aa.output,aa.size,fun k hk hn=>aa.block k hk (by intro e;injection e;simp at hn;omega)⟩⟩
set_option maxRecDepth 50000 in
set_option maxHeartbeats 8000000 in
theorem qlt (vf:Nat)(cb:Array Value)(eg:∀ args w,(callFunc vf args).run Tryz.prog w=.ok (.enter vf args) w)(R:Nat→List Nat→List Ent→World→Prop)(hV:Visits vf cb R)(n g0 o0:Nat)(w:World)(h:R n [] [(g0,o0,1)] w):
  Calls Tryz.prog 111 #[.pointer (some ⟨g0,o0,none⟩),.func (.func vf) #[] cb] w fun e w'=>e=.returned (.tuple #[])∧∃ n S,R n S [] w':=by
 have HV:=z_ hV;have HR:=z_ h;obtain ⟨j0,av,aw,ax,ay⟩:=info_parts qss;obtain ⟨O,a8,af⟩:∃ O,(∀ W,(Instr.makeSlice 223 (.int .i64 0) (.int .i64 60)).run Tryz.prog W=.ok (.slice (some ⟨W.heap.size,0,none⟩) 0 60) (W.alloc O))∧∀ W:World,(W.alloc O).ownsRow W.heap.size 164 2 (.slice (some ⟨W.heap.size,0,none⟩) 0 60) 0 []:=by
  refine ⟨.cells (madeCells (Value.agg #[.pointer none,.int .i64 0]).cells ((60:Int).toNat*j0.size)) 164,fun W=>?_,fun W=>?_⟩
  ·exact run_make W _ _ _ _ Tryz.underlying223 av aw .i64 .i64 0 60 o_ o_ (by rw [ay];omega) o_
  ·exact World.ownsRow_made W _ 60 n_ Aa_ (by rw [size_madeCells,ax];rfl)
 have ba:=z_ (af w);clear hV h af;go_enter Tryz.func111,Tryz.ntmps111
 have aP:Hid (Below w.heap.size w (w.alloc O)):=z_ (b_.alloc n_ _);have az:(w.alloc O).heap.size=w.heap.size+1:=by simp
 go_wp2_with (at_builtin;refine wpList_append_d rfl _ _ _ rfl w.heap.size 164 j0 _ 2 16 Tryz.underlying223 av aw ax ay rfl o_ w.heap.size 0 60 [] rfl (own_below ba.out (b_.alloc n_ _)) ⟨w.heap.size+1,0,none⟩ 1 1 [.pointer (some ⟨g0,o0,none⟩),.int .i64 1] rfl rfl (qqx _ _ _ _ _ (by simp)) (termx.qgp rfl rfl) Aa_ o_ (by simp;omega) ?_;intro g' cap' w1 ag ai hg1 aA aB)
 have hg2:w.heap.size≤g':=by
  rcases hg1 with h|h
  ·omega
  ·rw [h];simp;omega
 have bb:Hid (R n [g'] [(g0,o0,1)] w1):=z_ ((HV.out.keep HR.out (Chg.of_below ((aP.out.alloc (by simp) _).grown ai (by simp;omega) (by intro k hk;cases hk;exact Nat.le_refl _))) (fun k hk=>by
  simp at hk;subst hk;exact ⟨.inr hg2,aA⟩)))
 have bc:=z_ ag;clear ag ai hg1 aB aP az a8;go_wp2;go_loopg [4] n (fun gk v4 wr=>∃ (L:List Ent) (g k cap:Nat),v4=.slice (some ⟨g,0,none⟩) k cap∧Hid (k=L.length)∧Hid (R gk [g] L wr)∧Hid (wr.ownsRow w.heap.size 164 2 (.slice (some ⟨g,0,none⟩) k cap) k (qbf L)))
 case atStart=>exact ⟨[(g0,o0,1)],g',1,cap',rfl,z_ rfl,bb,bc⟩
 case round=>
  obtain ⟨L,g,k,cap,rfl,aC,aq,ad⟩:=hrel;cases L with
  | nil=>
   obtain rfl:k=0:=aC.out;have HF:Hid (∃ n S,R n S [] wr):=z_ ⟨_,_,aq.out⟩;go_wp2;go_end0
   exact ⟨rfl,HF.out⟩
  | cons e L=>
   obtain ⟨k',rfl⟩:∃ k',k=k'+1:=⟨L.length,by have:=aC.out;simpa using this⟩;have aj:Hid (k'=L.length):=z_ (by have:=aC.out;simpa using this);obtain ⟨bd,aQ,be,bv,bw⟩:=HV.out.ent aq.out;obtain ⟨n',ak,ae⟩:=HV.out.visit aq.out;obtain ⟨bx,bz,bA⟩:=qc8 ad.out;obtain ⟨aR,aS⟩:=qdj (p:=e) aj.out;have s1:=(ad.out.cellAt (k'*2) o_).trans aR;have s2:=(ad.out.cellAt (k'*2+1) o_).trans aS;have bB:k'≤1073741824:=by have:=aj.out;omega
   have aT:Hid (wr.ownsRow w.heap.size 164 2 (.slice (some ⟨g,0,none⟩) k' cap) k' (qbf L)):=z_ (by
    have h:=qdu ad.out (m:=k') o_
    rwa [qg8 aj.out] at h)
   obtain ⟨ge,oe,de⟩:=e;unfold ptr at s1;simp only [] at s1 s2;have aU:=z_ (And.intro aQ ak);simp only [] at bd be;clear aR aS aQ ak ae;obtain ⟨wo,bf⟩:∃ wo,wo=wr:=⟨wr,rfl⟩;subst bf;go_wp2_with fail
   have aD:(wo.alloc (.cells #[.pointer (some ⟨ge,oe,none⟩),.int .i64 de] 164)).heap[wo.heap.size]? =some (.cells #[.pointer (some ⟨ge,oe,none⟩),.int .i64 de] 164 (0,0)):=qa5 _ _ _ rfl;have au:Below wo.heap.size wo (wo.alloc (.cells #[.pointer (some ⟨ge,oe,none⟩),.int .i64 de] 164)):=b_.alloc n_ _;have aV:(wo.alloc (.cells #[.pointer (some ⟨ge,oe,none⟩),.int .i64 de] 164)).heap.size=wo.heap.size+1:=by simp
   have aE:Hid (R gk [g,wo.heap.size] ((ge,oe,de)::L) (wo.alloc (.cells #[.pointer (some ⟨ge,oe,none⟩),.int .i64 de] 164))):=z_ (HV.out.keep aq.out (Chg.of_below au) (fun k hk=>by
    simp at hk;rcases hk with rfl|rfl
    ·exact ⟨.inl (by simp),by omega⟩
    ·exact ⟨.inr n_,by omega⟩))
   have ah:=z_ (own_below aT.out au);generalize wo.alloc (.cells #[.pointer (some ⟨ge,oe,none⟩),.int .i64 de] 164)=W1 at aD au aV aE ah ⊢
   obtain ⟨n',ak,ae⟩:=HV.out.visit aE.out;refine ae.mono ?_;rintro ex w2 ⟨b,rfl,aF,aa,al⟩;have hg2:w2.heap[g]? =W1.heap[g]? := aa g (by simp) o_;have aG:w2.heap[wo.heap.size]? =some (.cells #[.pointer (some ⟨ge,oe,none⟩),.int .i64 de] 164 (0,0)):=by rw [aa wo.heap.size (by simp) o_];exact aD
   have b0:=h_ w2 _ 0 _ _ _ aG;have b1:=h_ w2 _ 1 _ _ _ aG;have am:=z_ (qqy ah.out hg2);have bg:wo.heap.size<w2.heap.size:=o_;have aH:g<w2.heap.size:=o_;have bh:ge<w2.heap.size:=o_;have aI:Hid (ge≠g∧ge≠wo.heap.size∧gk=n'+1):=z_ ⟨fun h=>aU.out.1 (by rw [h];simp),by omega,ak⟩;have aW:w.heap.size≤w2.heap.size:=o_;clear aD au aV aE ah aF aa hg2 aG aT aU ae ak s1 s2;rcases al with ⟨rfl,aX⟩|⟨rfl,A,m,c,aJ,hm30,hmc,g1,o1,hA,hRt⟩
   ·have bi:Hid (R n' [g] L w2):=z_ (HV.out.keep aX (Chg.refl _ _) (fun k hk=>by simp at hk;subst hk;exact ⟨.inl (by simp),aH⟩))
    clear aX;go_wp2;go_roundg n'
    case measure=>have:=aI.out;omega
    case rel=>exact ⟨L,g,k',cap,rfl,aj,bi,am⟩
   ·have bj:=z_ hRt
    have HA:=z_ hA;clear hRt hA;go_wp2
    go_loopw [4,36] (fun v4 bk wr=>∃ (j g5 k5 ab:Nat),v4=.slice (some ⟨g5,0,none⟩) k5 ab∧bk=.int .i64 j∧j≤m∧k5=j+k'∧Hid (R n' [g5,wo.heap.size] (kids g1 o1 (de+1) m++L) wr)∧Hid (wr.ownsRow w.heap.size 164 2 (.slice (some ⟨g5,0,none⟩) k5 ab) k5 (qbf (kids g1 o1 (de+1) j++L)))∧
      wr.cell? ⟨wo.heap.size,0,none⟩=some (.pointer (some ⟨ge,oe,none⟩))∧wr.cell? ⟨wo.heap.size,1,none⟩=some (.int .i64 de)∧wr.cell? ⟨ge,oe+3,none⟩=some (.slice A m c)∧w2.heap.size≤wr.heap.size∧Hid (g5≠wo.heap.size∧g5≠ge)) (fun _ i _=>m-(intOf i).toNat)
    case atStart=>exact ⟨0,g,k',cap,rfl,rfl,y_,by omega,bj,am,b0,b1,aJ,Nat.le_refl _,z_ ⟨by omega,fun h=>aI.out.1 h.symm⟩⟩
    case round=>
     clear b0 b1 aJ;obtain ⟨j,g5,k5,ab,rfl,rfl,hj,rfl,aY,aK,b0,b1,aJ,bl,aZ⟩:=hrel;obtain ⟨bm,aL,bn⟩:=qc8 aK.out;by_cases bC:j<m
     ·have bo:=HA.out o_
      subst bo;have a6:wo.heap.size<wr.heap.size:=o_;have an:ge<wr.heap.size:=o_;have bD:w.heap.size≤wr.heap.size:=o_;have bE:(0:Int)≤(j:Int):=o_;have bF:(j:Int)<(m:Int):=o_;go_wp2_with fail
      go_region_held3 (fun w'=>(w'.cell? ⟨wo.heap.size,0,none⟩=some (.pointer (some ⟨ge,oe,none⟩))∧w'.cell? ⟨wo.heap.size,1,none⟩=some (.int .i64 de)∧w'.cell? ⟨ge,oe+3,none⟩=some (.slice (some ⟨g1,o1,none⟩) m c))∧Chg [g5] wr w')
       (first|assumption|(refine ⟨⟨?_,?_,?_⟩,Chg.of_below b_.drew⟩<;>assumption)|(go_split_ands;exact qyg ⟨⟨by assumption,by assumption,by assumption⟩,by assumption⟩ a6 an (b_.alloc n_ _)))
       ((refine step_append_d (by rfl) _ _ _ (by rfl) w.heap.size 164 j0 _ 2 16 Tryz.underlying223 av aw ax ay rfl o_ g5 (j+k') ab (qbf (kids g1 o1 (de+1) j++L)) (by rfl) (own_below aK.out (b_.alloc n_ _).drew) ⟨_,0,none⟩ 1 1 [.pointer (some ⟨g1,o1+j*4,none⟩),.int .i64 (IntKind.i64.wrap ((de:Int)+1))] (by rfl) (by rfl) (fun q x hq=>termx.qeb wr _ _ _ q x hq) (termx.qgp rfl rfl) Aa_ o_ (by simp;omega) ?_;intro g4 ao w4 ac ap hg4 aM aN;have a7:=qAx ap (by go_split_ands;exact ⟨by assumption,by assumption,by assumption⟩) (by go_split_ands;assumption) aZ.out a6 an))
      all_goals
       have aO:=a7.2;have bG:=aO.size
       have bp:Hid (w4.ownsRow w.heap.size 164 2 (.slice (some ⟨g4,0,none⟩) (j+k'+1) ao) (j+k'+1) (qbf (kids g1 o1 (de+1) (j+1)++L))):=z_ (by
        have bq:IntKind.i64.wrap ((de:Int)+1)=((de+1:Nat):Int):=by simp only [IntKind.wrap,IntKind.bits,IntKind.signed];simp;omega
        rw [bq] at ac
        exact ac)
       have br:Hid (R n' [g4,wo.heap.size] (kids g1 o1 (de+1) m++L) w4):=z_ (HV.out.keep aY.out (aO.mono (fun q hq=>by simp at hq;subst hq;simp)) (fun q hq=>by
        simp at hq;rcases hq with rfl|rfl
        ·refine ⟨?_,aM⟩
         rcases hg4 with h|h
         ·exact .inl (by rw [h];simp)
         ·exact .inr (by rw [h];simp)
        ·exact ⟨.inl (by simp),by omega⟩))
       have bs:Hid (g4≠wo.heap.size∧g4≠ge):=z_ (by
        rcases hg4 with h|h
        ·rw [h];exact aZ.out
        ·rw [h];simp;omega)
       obtain ⟨⟨c0,c1,c2⟩,_⟩:=a7;clear ac ap hg4 aO aN;go_wp2;go_roundw
       case rel=>exact ⟨j+1,g4,j+k'+1,ao,rfl,by go_num,by omega,by omega,br,bp,c0,c1,c2,by omega,bs⟩
       case measure=>simp [intOf];omega
     ·obtain rfl:j=m:=o_
      have bt:Hid (R n' [g5] (kids g1 o1 (de+1) j++L) wr):=z_ (HV.out.keep aY.out (Chg.refl _ _) (fun q hq=>by simp at hq;subst hq;exact ⟨.inl (by simp),aL⟩));have bu:Hid (j+k'=(kids g1 o1 (de+1) j++L).length):=z_ (by rw [List.length_append,qls,← aj.out]);go_wp2;go_roundg n'
      case measure=>have:=aI.out;omega
      case rel=>exact ⟨kids g1 o1 (de+1) j++L,g5,j+k',ab,rfl,bu,bt,aK⟩
end termz

namespace termro
open mem dec rowl trm trmv terml termb termt termz
abbrev Pend:=List (TermM×Nat)
noncomputable def qbv:Pend→Nat
 | []=>0
 | p::T=>size p.1+qbv T
def qst (N lo:Nat)(W:World)(e:Ent)(p:TermM×Nat):Prop:=e.2.2=p.2∧p.2+depth p.1≤1073741824∧e.1<W.heap.size∧W.cell? ⟨e.1,e.2.1,none⟩=some (.int .i64 p.1.op)∧W.cell? ⟨e.1,e.2.1+1,none⟩=some (.string (bstr p.1.name))∧
 W.cell? ⟨e.1,e.2.1+2,none⟩=some (.int .i64 p.1.sort)∧∃ v,W.cell? ⟨e.1,e.2.1+3,none⟩=some v∧HasTs N lo W v p.1.args∧Bnd p.1
def AllE (Q:Ent→TermM×Nat→Prop):List Ent→Pend→Prop
 | [],[]=>True
 | e::L,p::T=>Q e p∧AllE Q L T
 | _,_=>False
theorem AllE.append {Q:Ent→TermM×Nat→Prop}:∀ {L M:List Ent} {T U:Pend},AllE Q L T→AllE Q M U→AllE Q (L++M) (T++U)
 | [],_,[],_,_,h=>h
 | _::_,_,_::_,_,⟨a,b⟩,h=>⟨a,AllE.append b h⟩
 | [],_,_::_,_,h,_=>h.elim
 | _::_,_,[],_,h,_=>h.elim
theorem AllE.len {Q:Ent→TermM×Nat→Prop}:∀ {L:List Ent} {T:Pend},AllE Q L T→L.length=T.length
 | [],[],_=>rfl
 | _::_,_::_,⟨_,b⟩=>by rw [List.length_cons,List.length_cons,AllE.len b]
 | [],_::_,h=>h.elim
 | _::_,[],h=>h.elim
def kidsP (t:TermM)(d:Nat):Pend:=(t.args.map fun a=>(a,d+1)).reverse
theorem qc1:∀ T U:Pend,qbv (T++U)=qbv T+qbv U
 | [],U=>by simp [qbv]
 | p::T,U=>by simp only [List.cons_append,qbv,qc1 T U];omega
theorem qeu (t:TermM)(d:Nat):qbv (kidsP t d)=qa2 t.args:=by
 unfold kidsP;induction t.args with
 | nil=>rfl
 | cons a l ih=>rw [List.map_cons,List.reverse_cons,qc1,ih];simp only [qbv,qa2,List.map_cons,List.sum_cons];omega
theorem qao (t:TermM):size t=1+qa2 t.args:=by cases t;exact qbe _ _ _ _
theorem qas (t:TermM):depth t=depths t.args+1:=by cases t;exact qeo _ _ _ _
theorem qg9{l:List TermM}{a:TermM}(h:a∈l):depth a≤depths l:=by
 induction l with
 | nil=>simp at h
 | cons b l ih=>
  have e:depths (b::l)=max (depth b) (depths l):=rfl;rcases List.mem_cons.1 h with rfl|h
  ·omega
  ·have:=ih h;omega
theorem qcz:∀ T:Pend,T.length≤qbv T
 | []=>Nat.le_refl _
 | p::T=>by have:=qcz T;have:=qhw p.1;simp only [List.length_cons,qbv];omega
theorem qne{l:List TermM}(h:HasTs N lo W (.slice A m c) l)(hd:d+1+depths l≤1073741824):
  ∃ g o,(m≠0→A=some ⟨g,o,none⟩)∧AllE (qst N lo W) (kids g o (d+1) m) ((l.map fun a=>(a,d+1)).reverse):=by
 have hm:=h.len.1;by_cases h0:m=0
 ·subst h0
  have:l=[]:=List.eq_nil_of_length_eq_zero hm.symm;subst this;exact ⟨0,0,fun h=>absurd rfl h,trivial⟩
 ·obtain ⟨k,g,o,A2,c2,hk,rfl,_⟩:=qal h (j:=0) o_
  refine ⟨g,o,fun _=>rfl,?_⟩;have ac:∀ q,q≤m→AllE (qst N lo W) (kids g o (d+1) q) (((l.take q).map fun a=>(a,d+1)).reverse):=by
   intro q;induction q with
   | zero=>intro _;simp [kids,AllE]
   | succ q ih=>
    intro hq;obtain ⟨k',g',o',A3,c3,ag,eA,_,ad,c0,c1,ae,af,hh,hb⟩:=qal h (j:=q) o_;simp only [Option.some.injEq,Addr.mk.injEq,and_true] at eA;obtain ⟨rfl,rfl⟩:=eA;have aa:q<l.length:=o_;rw [List.take_succ_eq_append_getElem aa,List.map_append,List.reverse_append];simp only [List.map_cons,List.map_nil,List.reverse_cons,List.reverse_nil,List.nil_append,List.singleton_append];rw [← qai aa];have ab:l.getD q default∈l:=by rw [qai aa];exact List.getElem_mem aa
    have ah:=qg9 ab;exact ⟨⟨rfl,by simp only [];omega,ad,c0,c1,ae,_,af,hh.up o_,hb⟩,ih o_⟩
  have:=ac m n_;rwa [List.take_of_length_le o_] at this
structure ROState (J:Pend→List Nat→World→Prop):Prop where
 same:∀ {T:Pend} {F:List Nat} {w w':World},J T F w→(∀ k∈F,w'.heap[k]? =w.heap[k]?)→J T F w'
 lt:∀ {T:Pend} {F:List Nat} {w:World},J T F w→∀ k∈F,k<w.heap.size
def ROR (W1:World)(N lo:Nat)(J:Pend→List Nat→World→Prop)(n:Nat)(S:List Nat)(L:List Ent)(w:World):Prop:=
 ∃ (T:Pend) (F:List Nat),AllE (qst N lo W1) L T∧qbv T≤n∧n≤1073741824∧(∀ k∈S,W1.heap.size≤k∧k<w.heap.size)∧Below W1.heap.size W1 w∧J T F w∧(∀ k∈F,W1.heap.size≤k∧k ∉ S)
theorem qv2{W1:World}{J:Pend→List Nat→World→Prop}(hJ:ROState J)(vf:Nat)(cb:Array Value)(hv:∀ (e:Ent) (t:TermM) (d:Nat) (T:Pend) (F:List Nat) (w:World),qst N lo W1 e (t,d)→Below W1.heap.size W1 w→(∀ k∈F,W1.heap.size≤k)→J ((t,d)::T) F w→Calls Tryz.prog vf (#[qdi e]++cb) w fun ex w'=>∃ b F',ex=.returned (.bool b)∧Chg F w w'∧(∀ k∈F',k∈F∨w.heap.size≤k)∧
   J (if b then kidsP t d++T else T) F' w'):Visits vf cb (ROR W1 N lo J) where
 keep:=by
  rintro n S S' L w w' ⟨T,F,h1,h2,h3,h4,h5,h6,h7⟩ hc hS;have aa:=hJ.lt h6;refine ⟨T,F,h1,h2,h3,fun k hk=>⟨?_,(hS k hk).2⟩,h5.trans (hc.below h5.size (fun k hk=>(h4 k hk).1)),hJ.same h6 (fun k hk=>hc.block k (aa k hk) (h7 k hk).2),fun k hk=>⟨(h7 k hk).1,fun ah=>?_⟩⟩
  ·rcases (hS k hk).1 with h|h
   ·exact (h4 k h).1
   ·exact Nat.le_trans h5.size h
  ·rcases (hS k ah).1 with h|h
   ·exact (h7 k hk).2 h
   ·have:=aa k hk;omega
 ent:=by
  rintro n S e L w ⟨T,F,h1,h2,h3,h4,h5,h6,h7⟩;cases T with
  | nil=>exact h1.elim
  | cons p T=>
   obtain ⟨⟨a1,a2,a3,_⟩,hL⟩:=h1;have h8:=qcz T;have h9:=AllE.len hL;have al:qbv (p::T)=size p.1+qbv T:=rfl;refine ⟨w_ a3 h5.size,fun hm=>by have:=(h4 _ hm).1;omega,by omega,h3,by omega⟩
 visit:=by
  rintro n S e L w ⟨T,F,h1,h2,h3,h4,h5,h6,h7⟩;cases T with
  | nil=>exact h1.elim
  | cons p T=>
   obtain ⟨t,d⟩:=p;obtain ⟨hE,hL⟩:=h1;have ai:=hE;obtain ⟨a1,a2,a3,c0,c1,c2,v,c3,hh,hb⟩:=ai;have hsz:qbv ((t,d)::T)=1+qa2 t.args+qbv T:=by rw [← qao];rfl
   refine ⟨n-1,by omega,(hv e t d T F w hE h5 (fun k hk=>(h7 k hk).1) h6).mono ?_⟩;rintro ex w' ⟨b,F',rfl,hc,aj,ad⟩;have ak:∀ k∈F,W1.heap.size≤k:=fun k hk=>(h7 k hk).1
   have ab:=h5.trans (hc.below h5.size ak);have aa:=hJ.lt h6
   have ae:∀ k∈F',W1.heap.size≤k∧k ∉ S:=fun k hk=>by
    rcases aj k hk with h|h
    ·exact h7 k h
    ·exact ⟨Nat.le_trans h5.size h,fun hm=>by have:=(h4 k hm).2;omega⟩
   have af:∀ k∈S,W1.heap.size≤k∧k<w'.heap.size:=fun k hk=>⟨(h4 k hk).1,w_ (h4 k hk).2 hc.size⟩
   refine ⟨b,rfl,hc.size,fun k hk ac=>hc.block k ac (fun hm=>(h7 k hm).2 hk),?_⟩;cases b with
   | false=>exact .inl ⟨rfl,T,F',hL,by omega,by omega,af,ab,ad,ae⟩
   | true=>
    right
    obtain ⟨A,c,rfl,ag⟩:=HasR.shape hh rfl;have am:=qas t;have an:d+depth t≤1073741824:=a2;obtain ⟨g,o,hA,hK⟩:=qne (d:=d) ag (show d+1+depths t.args≤1073741824 by omega);refine ⟨rfl,A,t.args.length,c,(ab.cell (p:=⟨e.1,e.2.1+3,none⟩) a3).trans c3,by have:=qat t.args;omega,ag.len.2.2,g,o,hA,kidsP t d++T,F',?_,?_,by omega,af,ab,ad,ae⟩
    ·rw [a1];exact AllE.append hK hL
    ·rw [qc1,qeu];omega
end termro

namespace frm
open trm terml termro
def allN (R:TermM→Prop)(t:TermM):Prop:=
 TermM.rec (motive_1:=fun _=>Prop) (motive_2:=fun _=>Prop) (fun o n s l h=>R (.mk o n s l)∧h) True (fun _ _ p q=>p∧q) t
theorem qh0 (R:TermM→Prop)(o:Int)(n:List UInt8)(s:Int)(l:List TermM):allN R (.mk o n s l)↔R (.mk o n s l)∧∀ a∈l,allN R a:=by
 have:∀ l:List TermM,(TermM.rec_1 (motive_1:=fun _=>Prop) (motive_2:=fun _=>Prop) (fun o n s l h=>R (.mk o n s l)∧h) True (fun _ _ p q=>p∧q) l:Prop)↔∀ a∈l,allN R a:=by
  intro l;induction l with
  | nil=>simp
  | cons a l ih=>
   rw [List.forall_mem_cons,← ih];rfl
 rw [← this];rfl
theorem qbq (R:TermM→Prop)(t:TermM):allN R t↔R t∧∀ a∈t.args,allN R a:=by cases t;exact qh0 _ _ _ _ _
abbrev wide:TermM→Prop:=allN fun t=>t.args.length≤7
def LimT (t:TermM):Prop:=size t≤60∧depth t≤20∧wide t
def LimP (T:Pend):Prop:=∀ p∈T,p.2-1+depth p.1≤20∧wide p.1
theorem qj2{l:List TermM}:depths l≤k↔∀ a∈l,depth a≤k:=by
 induction l with
 | nil=>simp [depths]
 | cons a l ih=>
  have e:depths (a::l)=max (depth a) (depths l):=rfl;rw [e,List.forall_mem_cons,← ih];omega
theorem qv5{t:TermM}{T:Pend}(h1:1≤d)(h2:d≤20)(h3:t.args.length≤7):LimP ((t,d)::T)↔LimP (kidsP t d++T):=by
 unfold LimP;rw [List.forall_mem_cons,List.forall_mem_append];refine and_congr ?_ Iff.rfl;have e:(∀ p∈kidsP t d,p.2-1+depth p.1≤20∧wide p.1)↔∀ a∈t.args,d+depth a≤20∧wide a:=by
  unfold kidsP;simp only [List.mem_reverse,List.mem_map];constructor
  ·intro h a ha;exact h _ ⟨a,ha,rfl⟩
  ·rintro h _ ⟨a,ha,rfl⟩;exact h a ha
 rw [e];have hd:=qas t;show d-1+depth t≤20∧wide t↔_;unfold wide;rw [qbq,hd];constructor
 ·rintro ⟨q1,_,q2⟩ a ha
  have:=qg9 ha;exact ⟨by omega,q2 a ha⟩
 ·intro h
  refine ⟨?_,h3,fun a ha=>(h a ha).2⟩;have:depths t.args≤20-d:=qj2.2 (fun a ha=>by have:=(h a ha).1;omega);omega
theorem qB0{t:TermM}{T:Pend}(h:¬ (d≤20∧t.args.length≤7)):¬ LimP ((t,d)::T):=by
 intro hp;obtain ⟨q1,q2⟩:=hp (t,d) (by simp);have hd:=qas t;have aa:d-1+depth t≤20:=q1;have q3:=((qbq _ t).1 q2).1;exact h ⟨by omega,q3⟩
end frm

namespace formlf
open mem dec rowl trm terml termb termt termv termx
def qci (x:Int)(m:Nat):Int:=if (m:Int)≤x then x-m else -1
theorem qv9{x:Int}(h:0≤qci x a):qci (qci x a) b=qci x (a+b):=by
 unfold qci at h ⊢;split at h
 ·rename_i h1
  rw [if_pos h1];split<;>split<;>omega
 ·omega
theorem qva{x:Int}(h:¬ 0≤qci x a)(aa:a≤b):qci x a=qci x b:=by
 unfold qci at h ⊢;split at h
 ·omega
 ·rename_i h1
  rw [if_neg h1,if_neg o_]
theorem qr2 (x:Int)(m:Nat):-1≤qci x m:=by unfold qci;split<;>omega
theorem qyj{x:Int}(hx:0≤x)(m:Nat):qci x m≤x:=by unfold qci;split<;>omega
theorem qvb{x:Int}(m:Nat):0≤qci x m↔(m:Int)≤x:=by unfold qci;split<;>omega
theorem qlv (L:List TermM)(k:Nat):qa2 (L.take k)≤qa2 L:=by
 induction L generalizing k with
 | nil=>simp
 | cons a l ih=>
  cases k with
  | zero=>exact y_
  | succ k=>
   have:=ih k;show size a+qa2 (l.take k)≤size a+qa2 l;omega
def qB2 (n:Nat):Prop:=∀ (op:Int) (l:List UInt8) (s:Int) (L:List TermM) (v:Value) (w:World) (lo:Nat) (x:Int),HasTs n lo w v L→0≤x→x≤60→
 Calls Tryz.prog 136 #[.agg #[.int .i64 op,.string (bstr l),.int .i64 s,v],.int .i64 x] w fun e w'=>e=.returned (.int .i64 (qci x (1+qa2 L)))∧Below w.heap.size w w'
theorem c52_{p:Prop}(h:p:=by
 have am:=af.trans (aa.mono (Nat.le_of_lt ab));go_wp2;go_ret;exact ⟨qan (by rw [← HE.out]),am⟩
):p:=h
theorem qka (hS:∀ k,n=k+1→qB2 k):qB2 n:=by
 intro op l s L v w lo x h aB au;obtain ⟨N,hN⟩:=e_ (L.length);obtain ⟨A,c,rfl,h⟩:=HasR.shape h hN.symm;have aC:=h.len.2.1;have HN:=z_ hN;have HH:=z_ h;have HS:=z_ hS;have hw:IntKind.i64.wrap (x-1)=x-1:=IntWalk.i64_in _ o_;clear h hN hS;go_enter Tryz.func136,Tryz.ntmps136
 go_wp2;generalize hW:w.alloc (.cells #[.int .i64 op,.string (bstr l),.int .i64 s,.slice A N c] 38)=W
 have af:Below w.heap.size w W:=by rw [← hW];exact b_.alloc n_ _
 have ab:w.heap.size<W.heap.size:=by rw [← hW];simp
 have ag:W.cell? ⟨w.heap.size,3,none⟩=some (.slice A N c):=by rw [← hW];simp
 clear hW hw;go_loopw [1,5] (fun v i wr=>∃ (k:Nat) (z:Int),k≤N∧i=.int .i64 k∧v=.int .i64 z∧Hid (z=qci x (1+qa2 (L.take k)))∧-1≤z∧z≤60∧Below W.heap.size W wr) (fun _ i _=>N-(intOf i).toNat)
 case atStart=>exact ⟨0,x-1,y_,rfl,rfl,z_ (by show x-1=qci x (1+0);unfold qci;split<;>omega),by omega,by omega,Below.refl _ _⟩
 case round=>
  obtain ⟨k,z,hk,rfl,rfl,HZ,aD,av,aa⟩:=hrel;have aE:wr.cell? ⟨w.heap.size,3,none⟩=some (.slice A N c):=(aa.cell (p:=⟨w.heap.size,3,none⟩) ab).trans ag;by_cases aw:k<N
  ·by_cases hz:0≤z
   ·have d1:decide ((k:Int)<(N:Int))=true:=d_
    have d2:decide ((0:Int)≤z)=true:=decide_eq_true hz;have ah:k<L.length:=by have:=HN.out;omega
    have ac:=af.trans (aa.mono (Nat.le_of_lt ab));obtain ⟨k',g,o,A2,c2,ax,rfl,_,hg,an,ao,ap,ai,hh,_⟩:=qal HH.out aw;rw [← ac.cell (p:=⟨g,o+k*4,none⟩) hg] at an;rw [← ac.cell (p:=⟨g,o+k*4+1,none⟩) hg] at ao;rw [← ac.cell (p:=⟨g,o+k*4+2,none⟩) hg] at ap;rw [← ac.cell (p:=⟨g,o+k*4+3,none⟩) hg] at ai;have aj:=hh.below n_ ac;have ak:=qgo ah;obtain ⟨t,ht⟩:=e_ (L.getD k default);rw [← ht] at an ao ap ai aj ak;have ad:=qao t;have HT:=z_ (HS.out k' ax t.op t.name t.sort t.args _ wr lo z aj hz av);rw [← ad] at HT;obtain ⟨q,hq⟩:=e_ (t.args.length);rw [← hq] at ai HT;obtain ⟨z',ae⟩:=e_ (qci z (size t));rw [← ae] at HT;have ay:-1≤z':=by rw [ae];exact qr2 _ _
    have az:z'≤60:=by rw [ae];have:=qyj hz (size t);omega
    have aA:Hid (z'=qci x (1+qa2 (L.take (k+1)))):=z_ (by
     rw [ae,ak];have h1:=HZ.out
     rw [h1,qv9 (by rw [← h1];exact hz),Nat.add_assoc])
    have i1:(0:Int)≤(k:Int):=o_;have i2:(k:Int)<(N:Int):=o_;clear hh aj hq ht ae ad ak;go_wp2_with fail
    refine HT.out.mono ?_;rintro e w2 ⟨rfl,aq⟩;have al:=aa.trans (aq.mono aa.size);clear aq;go_wp2;go_roundw
    case rel=>exact ⟨k+1,z',by omega,by go_num,rfl,aA,ay,az,al⟩
    case measure=>simp [intOf];omega
   ·have d1:decide ((k:Int)<(N:Int))=true:=d_
    have d2:decide ((0:Int)≤z)=false:=decide_eq_false hz
    have HE:Hid (z=qci x (1+qa2 L)):=z_ (by
     have h1:=HZ.out;have:=qlv L k
     rw [h1,qva (b:=1+qa2 L) (by rw [← h1];exact hz) o_])
    exact c52_
  ·have d1:decide ((k:Int)<(N:Int))=false:=f_
   have HE:Hid (z=qci x (1+qa2 L)):=z_ (by
    have h1:=HZ.out;rw [List.take_of_length_le Ac_] at h1
    exact h1)
   exact c52_
theorem qr3:∀ n,qB2 n
 | 0=>qka (fun k h=>by omega)
 | n+1=>qka (fun k h=>Nat.succ.inj h ▸ qr3 n)
theorem qnl (t:TermM)(v:Value)(w:World)(h:HasTs n lo w v t.args)(hs:qa2 t.args≤1048576):
  Calls Tryz.prog 83 #[aggT t v] w fun e w'=>∃ r,e=.returned (.bool r)∧(r=true↔size t≤60∧depth t≤20)∧Below w.heap.size w w':=by
 obtain ⟨A,c,rfl,h⟩:=HasR.shape h rfl;have ae:Below w.heap.size w (w.alloc (.cells #[.int .i64 t.op,.string (bstr t.name),.int .i64 t.sort,.slice A t.args.length c] 38)):=b_.alloc n_ _;have ac:=z_ ae;have HL:=z_ (qr3 n t.op t.name t.sort t.args _ _ lo 60 (h.below n_ ae) o_ o_)
 have HD:Hid (∀ W,Below w.heap.size w W→Calls Tryz.prog 137 #[.agg #[.int .i64 t.op,.string (bstr t.name),.int .i64 t.sort,.slice A t.args.length c]] W fun e w'=>e=.returned (.int .i64 ((depth t:Nat):Int))∧Below W.heap.size W w'):=z_ (fun W hW=>by
  rw [qas]
  exact qj5 n t.op t.name t.sort t.args _ W lo (h.below n_ hW) hs)
 have hp:0≤qci 60 (1+qa2 t.args)↔size t≤60:=by rw [qvb,qao];omega
 have aj:=qr2 60 (1+qa2 t.args);obtain ⟨z,hz⟩:=e_ (qci 60 (1+qa2 t.args));rw [← hz] at HL hp aj;obtain ⟨q,hq⟩:=e_ (t.args.length);obtain ⟨to,ag⟩:=e_ (t.op);obtain ⟨tn,ah⟩:=e_ (t.name);obtain ⟨ts,ai⟩:=e_ (t.sort);obtain ⟨d,hd⟩:=e_ (depth t);unfold aggT;rw [← hq,← ag,← ah,← ai] at HL ac HD ⊢;rw [← hd] at HD ⊢;obtain ⟨sz,hsz⟩:=e_ (size t);rw [← hsz] at hp ⊢;have HP:=z_ hp;clear h hs ae hz hq ag ah ai hd hsz;by_cases h0:0≤z
 ·have d1:decide ((0:Int)≤z)=true:=decide_eq_true h0
  by_cases h1:d≤20
  ·have d2:decide ((d:Int)≤20)=true:=d_
   have HF:Hid (true=true↔sz≤60∧d≤20):=z_ ⟨fun _=>⟨hp.1 h0,h1⟩,fun _=>rfl⟩;clear hp h1;go_enter Tryz.func83,Tryz.ntmps83
   go_wp2_with fail
   refine HL.out.mono ?_;rintro e w1 ⟨rfl,aa⟩;have ab:=z_ (ac.out.trans (aa.mono ac.out.size));have x0:=h_ _ _ 0 _ _ _ ((aa.block w.heap.size (by simp)).trans (qa5 _ _ _ rfl));have x1:=h_ _ _ 1 _ _ _ ((aa.block w.heap.size (by simp)).trans (qa5 _ _ _ rfl));have x2:=h_ _ _ 2 _ _ _ ((aa.block w.heap.size (by simp)).trans (qa5 _ _ _ rfl));have x3:=h_ _ _ 3 _ _ _ ((aa.block w.heap.size (by simp)).trans (qa5 _ _ _ rfl));clear aa;go_wp2_with fail
   refine (HD.out _ ab.out).mono ?_;rintro e w2 ⟨rfl,ad⟩;have af:=z_ (ab.out.trans (ad.mono ab.out.size));clear ad x0 x1 x2 x3;go_wp2;go_ret;exact ⟨true,rfl,⟨fun _=>HF.out.1 Bb_,fun _=>rfl⟩,af.out⟩
  ·have d2:decide ((d:Int)≤20)=false:=f_
   have HF:Hid (false=true↔sz≤60∧d≤20):=z_ ⟨(fun e=>by cases e),fun e=>absurd e.2 h1⟩;clear hp h1;go_enter Tryz.func83,Tryz.ntmps83
   go_wp2_with fail
   refine HL.out.mono ?_;rintro e w1 ⟨rfl,aa⟩;have ab:=z_ (ac.out.trans (aa.mono ac.out.size));have x0:=h_ _ _ 0 _ _ _ ((aa.block w.heap.size (by simp)).trans (qa5 _ _ _ rfl));have x1:=h_ _ _ 1 _ _ _ ((aa.block w.heap.size (by simp)).trans (qa5 _ _ _ rfl));have x2:=h_ _ _ 2 _ _ _ ((aa.block w.heap.size (by simp)).trans (qa5 _ _ _ rfl));have x3:=h_ _ _ 3 _ _ _ ((aa.block w.heap.size (by simp)).trans (qa5 _ _ _ rfl));clear aa;go_wp2_with fail
   refine (HD.out _ ab.out).mono ?_;rintro e w2 ⟨rfl,ad⟩;have af:=z_ (ab.out.trans (ad.mono ab.out.size));clear ad x0 x1 x2 x3;go_wp2;go_ret;exact ⟨false,rfl,HF.out,af.out⟩
 ·have d1:decide ((0:Int)≤z)=false:=decide_eq_false h0
  have HF:Hid (false=true↔sz≤60∧d≤20):=z_ ⟨(fun e=>by cases e),fun e=>absurd (hp.2 e.1) h0⟩;clear hp HD;go_enter Tryz.func83,Tryz.ntmps83
  go_wp2_with fail
  refine HL.out.mono ?_;rintro e w1 ⟨rfl,aa⟩;have ab:=z_ (ac.out.trans (aa.mono ac.out.size));clear aa;go_wp2;go_ret;exact ⟨false,rfl,HF.out,ab.out⟩
end formlf

namespace termvo
open mem dec rowl trm terml termb termt termv
open termx (aggT)
theorem qew (t u:TermM)(va vb:Value)(w:World)(ha:HasTs n lo w va t.args)(hb:HasTs m lo' w vb u.args)(r:Bool)(hr:decide (cmp t u=0)=r):
  Calls Tryz.prog 58 #[aggT t va,aggT u vb] w fun e w'=>e=.returned (.bool r)∧Below w.heap.size w w':=by
 obtain ⟨A,ca,rfl,_⟩:=HasR.shape ha rfl;obtain ⟨B,cb,rfl,_⟩:=HasR.shape hb rfl;have HL:=z_ (fun W (hW:Below w.heap.size w W)=>qgc t u _ _ W (ha.below n_ hW) (hb.below n_ hW));obtain ⟨c,hc⟩:=e_ (cmp t u);rw [← hc] at hr HL;unfold aggT;obtain ⟨k,hk⟩:=e_ (t.args.length);obtain ⟨m,hm⟩:=e_ (u.args.length);rw [← hk] at HL ⊢;rw [← hm] at HL ⊢;have ad:Hid (r=(c==0)):=z_ (by rw [← hr,Bool.eq_iff_iff];simp);clear ha hb hc hk hm hr;go_enter Tryz.func58,Tryz.ntmps58
 go_wp2_with fail
 have aa:Below w.heap.size w ((w.alloc (.cells #[.int .i64 t.op,.string (bstr t.name),.int .i64 t.sort,.slice A k ca] 38)).alloc (.cells #[.int .i64 u.op,.string (bstr u.name),.int .i64 u.sort,.slice B m cb] 38)):=(b_.alloc n_ _).alloc (by simp) _;refine (HL.out _ aa).mono ?_;rintro e w2 ⟨rfl,ac⟩;have ab:=aa.trans (ac.mono aa.size);clear ac aa;go_wp2;go_ret;exact ⟨qa0 ad.out.symm,ab⟩
end termvo

namespace tsj
open mem subs setm sets sortp sorti rowl sigm sigs gramo tsm tsi
theorem DeclN.at {n m:Nat}{D:List (List Int×Int)}(h:DeclN n m D){k:Nat}(hk:k<D.length):(D.getD k ([],0)).1.length=m∧(0≤(D.getD k ([],0)).2∧(D.getD k ([],0)).2<n)∧∀ j,j<m→0≤(D.getD k ([],0)).1.getD j 0∧(D.getD k ([],0)).1.getD j 0<n:=by
 have hm:D.getD k ([],0)∈D:=by rw [List.getD_eq_getElem?_getD,List.getElem?_eq_getElem hk];exact List.getElem_mem _
 obtain ⟨h1,h2,h3⟩:=h _ hm;simp only [inN,decide_eq_true_eq] at h2 h3;exact ⟨h1,h2,h3⟩
theorem c72_{p:Prop}(h:p:=by
 go_roundw
 case rel=>exact ⟨k+1,by omega,by go_num,by rw [HE.out],z_ (HQ.out _)⟩
 case measure=>simp [intOf];omega
):p:=h
set_option maxRecDepth 20000 in
set_option maxHeartbeats 2000000 in
theorem qgk (hn:n≤8)(nm:List UInt8)(Ad:Option Addr)(dn cd:Nat)(a b:Bool)(u:Int)(i s0 s1 s2 s3 s4:Nat)(D:List (List Int×Int))(A:List Nat)(va:Value)(w:World)(hD:HasD 0 w (.slice Ad dn cd) D)(ag:DeclN n m D)(hm:m≤A.length)(hA:∀ i,A.getD i 0<65536)(h1:Has w va (u16s A)):
  Calls Tryz.prog 241 #[aggE nm Ad dn cd a b u i s0 s1 s2 s3 s4,va] w fun e w'=>e=.returned (.int .u16 ((giveR D A:Nat):Int))∧Below w.heap.size w w':=by
 obtain ⟨Aa,ca,rfl,h1⟩:=h1.shape (n:=A.length) (qi7 A);have ap:=h1.len.2;have ah:=hD.len;have HD:=z_ hD;have HA:=z_ h1;have aq:=z_ ag;have ay:=pow8 hn;have au:=z_ (fun k=>qf2 (ag.take k) A);have az:=z_ hA;have ak:=z_ ah.1;have aA:=ah.2.1;have ad:=z_ (fun (d:List Int) (vd:Value) r (hl:d.length≤A.length) (hd:∀ k,k<d.length→0≤d.getD k 0∧d.getD k 0<16) (hr:fitD A d=r) W (hW:Below w.heap.size w W) (h2:Has W vd (ivs d))=>qma A d hA hd hl _ vd r hr W (h1.below n_ hW) h2);obtain ⟨p,hp⟩:=e_ (A.length);rw [← hp] at ad ap hm ⊢;clear hD h1 ag hA ah hp;go_enter Tryz.func241,Tryz.ntmps241
 go_wp2;go_loopw [5,7,12] (fun s _ i wr=>∃ k:Nat,k≤dn∧i=.int .i64 k∧s=.int .u16 ((giveR (D.take k) A:Nat):Int)∧Hid (Below w.heap.size w wr)) (fun _ _ i _=>dn-(intOf i).toNat)
 case atStart=>exact ⟨0,y_,rfl,rfl,z_ (b_.alloc n_ _)⟩
 case round=>
  obtain ⟨k,hk,rfl,rfl,HB⟩:=hrel;have hsz:=HB.out.size;by_cases av:k<dn
  ·obtain ⟨g,o,A2,c2,rfl,_,hg,al,am,hh,_,_⟩:=qbb HD.out av
   have ai:k<D.length:=by have:=ak.out;omega
   obtain ⟨q1,q2,q3⟩:=DeclN.at aq.out ai;have ac:=(HB.out.cell (p:=⟨g,o+k*2,none⟩) hg).trans al;have ae:=(HB.out.cell (p:=⟨g,o+k*2+1,none⟩) hg).trans am;have HH:=z_ hh.has;have aa:=z_ (fun h=>qrs (A:=A) ai h);have ab:=z_ (fun h=>qnx (A:=A) ai h);have an:=au.out k;rw [show (D.getD k default)=D.getD k ([],0) from rfl] at ac ae HH;obtain ⟨d,hd⟩:=e_ ((D.getD k ([],0)).1);obtain ⟨x,hx⟩:=e_ ((D.getD k ([],0)).2);rw [← hd] at ac q1 q3 aa ab HH;rw [← hx] at ae q2 aa;obtain ⟨j,rfl⟩:∃ j:Nat,x=(j:Int):=⟨x.toNat,by omega⟩;rw [Int.toNat_natCast] at aa;have hj:j<16:=o_;obtain ⟨G,hG⟩:=e_ (giveR (D.take k) A);rw [← hG] at aa ab an ⊢;have af:G<65536:=o_;have aw:=z_ (fun W=>qmj G j af hj W);obtain ⟨md,ao⟩:=e_ (d.length);rw [← ao] at ac HH;have HC:=z_ (fun r hr W (hW:Below w.heap.size w W)=>ad.out d _ r o_ (fun k hk=>by have:=q3 k o_;omega) hr W hW (HH.out.below n_ hW));have hq:∀ ob:Obj,Below w.heap.size w (wr.alloc ob):=fun ob=>HB.out.alloc hsz ob
   have HQ:=z_ hq;clear al am hh hd hx hG q1 q2 q3 af an ao hq;cases hf:fitD A d with
   | true=>
    have aj:=z_ (HC.out true hf);have HE:=z_ (aa.out hf);clear hf;go_wp2_with (first|(go_at_call 246;refine (aj.out _ (HQ.out _)).mono ?_;rintro e w2 ⟨rfl,rfl⟩)|(go_at_call 186;refine (aw.out _).mono ?_;rintro e w3 ⟨rfl,rfl⟩))
    exact c72_
   | false=>
    have aj:=z_ (HC.out false hf);have HE:=z_ (ab.out hf);clear hf;go_wp2_with (first|(go_at_call 246;refine (aj.out _ (HQ.out _)).mono ?_;rintro e w2 ⟨rfl,rfl⟩))
    exact c72_
  ·obtain rfl:k=dn:=o_
   have ax:Hid (D.take k=D):=z_ (by rw [ak.out,List.take_length]);rw [ax.out];go_wp2;go_ret;exact ⟨rfl,HB.out⟩
end tsj

namespace tsk
open mem split subs setm sortp sorti rowl sigs gramo tsm tsi tsj
def ArrF (w:World)(b:Nat)(f:Nat→Nat):Prop:=b<w.heap.size∧∀ x,x<128→w.cell? ⟨b,x,none⟩=some (.int .u16 ((f x:Nat):Int))∧w.frozen? ⟨b,x,none⟩=false
theorem ArrF.below{f:Nat→Nat}(h:ArrF w b f){B:Nat}(hB:b<B)(hb:Below B w w'):ArrF w' b f:=
 ⟨w_ h.1 hb.size,fun x hx=>⟨(hb.cell (p:=⟨b,x,none⟩) hB).trans (h.2 x hx).1,(hb.frozen (p:=⟨b,x,none⟩) hB).trans (h.2 x hx).2⟩⟩
abbrev C11 (x:Nat)(nm:List UInt8)(A:Option Addr)(n c:Nat)(a b:Bool)(u:Int)(i s0 s1 s2 s3 s4:Nat)(w:World):Prop:=
 w.cell? ⟨x,0,none⟩=some (.string (bstr nm))∧w.cell? ⟨x,1,none⟩=some (.slice A n c)∧w.cell? ⟨x,2,none⟩=some (.bool a)∧w.cell? ⟨x,3,none⟩=some (.bool b)∧w.cell? ⟨x,4,none⟩=some (.int .i64 u)∧w.cell? ⟨x,5,none⟩=some (.int .i64 (i:Int))∧
 w.cell? ⟨x,6,none⟩=some (.int .i64 (s0:Int))∧w.cell? ⟨x,7,none⟩=some (.int .u16 (s1:Int))∧w.cell? ⟨x,8,none⟩=some (.int .u16 (s2:Int))∧w.cell? ⟨x,9,none⟩=some (.int .u16 (s3:Int))∧w.cell? ⟨x,10,none⟩=some (.int .u16 (s4:Int))
theorem C11.below{a b:Bool}(h:C11 x nm A n c a b u i s0 s1 s2 s3 s4 w)(hb:Below w.heap.size w w'):C11 x nm A n c a b u i s0 s1 s2 s3 s4 w':=by
 have hx:x<w.heap.size:=l_ h.1;have k:∀ y,w'.cell? ⟨x,y,none⟩=w.cell? ⟨x,y,none⟩:=fun y=>hb.cell (p:=⟨x,y,none⟩) hx
 unfold C11;rw [k,k,k,k,k,k,k,k,k,k,k];exact h
abbrev SGrp (x bl l r:Nat)(nm:List UInt8)(A:Option Addr)(n c:Nat)(a b:Bool)(u:Int)(i s0 s1 s2 s3 s4:Nat)(fl fr:Nat)(W w:World):Prop:=
 (C11 x nm A n c a b u i s0 s1 s2 s3 s4 w∧w.cell? ⟨bl,l,none⟩=some (.int .u16 (fl:Int))∧w.cell? ⟨bl,r,none⟩=some (.int .u16 (fr:Int)))∧Below W.heap.size W w
theorem SGrp.of{bl l r:Nat}{a b:Bool}{fl fr:Nat}(h:C11 x nm A n c a b u i s0 s1 s2 s3 s4 W)(h1:W.cell? ⟨bl,l,none⟩=some (.int .u16 (fl:Int)))(h2:W.cell? ⟨bl,r,none⟩=some (.int .u16 (fr:Int)))(hb:Below W.heap.size W w):SGrp x bl l r nm A n c a b u i s0 s1 s2 s3 s4 fl fr W w:=
 ⟨⟨C11.below h hb,(hb.cell (p:=⟨bl,l,none⟩) (l_ h1)).trans h1,(hb.cell (p:=⟨bl,r,none⟩) (l_ h2)).trans h2⟩,hb⟩
def givP (com:Bool)(D:List (List Int×Int))(f:Nat→Nat)(g l:Nat):Nat:=if com || befo l (rest g l) then giveR D [f l,f (rest g l)] else 0
theorem qz6 (com:Bool)(D:List (List Int×Int))(f:Nat→Nat)(g:Nat):orL (givP com D f g) (lefts g)=orL (fun l=>giveR D [f l,f (rest g l)]) (qd9 com g):=by
 apply Nat.eq_of_testBit_eq
 intro j;rw [qc0,qc0,qd9,List.any_filter,Bool.eq_iff_iff,List.any_eq_true,List.any_eq_true];constructor
 ·rintro ⟨l,hl,e⟩
  refine ⟨l,hl,?_⟩;unfold givP at e;split at e
  ·rename_i hc;rw [hc,e];rfl
  ·rw [Nat.zero_testBit] at e;cases e
 ·rintro ⟨l,hl,e⟩
  refine ⟨l,hl,?_⟩;rw [Bool.and_eq_true] at e;rw [givP,if_pos e.1];exact e.2
theorem qrw{α:Type}(f:α→Nat)(x:α)(L:List α):orL f (x::L)=f x ||| orL f L:=by
 apply Nat.eq_of_testBit_eq
 intro j;rw [Nat.testBit_or,qc0,qc0,List.any_cons]
theorem qrx (w:World)(x y:Nat):Has (w.alloc (.cells #[.int .u16 (x:Int),.int .u16 (y:Int)] 176)) (.slice (some ⟨w.heap.size,0,none⟩) 2 2) (u16s [x,y]):=by
 refine ⟨_,2,rfl,by simp [u16s],by unfold maxLen;omega,fun j v hv=>⟨w.heap.size,0,rfl,by simp,?_⟩⟩;match j,hv with
 | 0,hv=>simp [u16s] at hv;subst hv;simp
 | 1,hv=>simp [u16s] at hv;subst hv;simp
theorem c73_{p:Prop}(h:p:=by
 go_wp2;have az:Hid (Below W.heap.size W w1):=z_ (HB.out.trans (Below.mono (by go_split_ands;assumption) hsz));go_roundw
 case rel=>exact ⟨ab ||| gv,l2,by rw [← ax],rfl,ae,by omega,ap,az⟩
 case measure=>simp [intOf];omega
):p:=h
set_option maxRecDepth 20000 in
set_option maxHeartbeats 4000000 in
theorem qjt (hn:n≤8)(nm:List UInt8)(Ad:Option Addr)(dn cd:Nat)(a com:Bool)(u:Int)(i s0 s1 s2 s3 s4:Nat)(D:List (List Int×Int))(g:Nat)(h0:0<g)(hg:g<128)(f:Nat→Nat)(hf:∀ x,f x<65536)(bl:Nat)(w:World)(hA:ArrF w bl f)(hD:HasD 0 w (.slice Ad dn cd) D)(aq:DeclN n 2 D):
  Calls Tryz.prog 244 #[.pointer (some ⟨bl,0,none⟩),aggE nm Ad dn cd a com u i s0 s1 s2 s3 s4,.int .u16 (g:Int)] w fun e w'=>e=.returned (.int .u16 ((orL (fun l=>giveR D [f l,f (rest g l)]) (qd9 com g):Nat):Int))∧Below w.heap.size w w':=by
 rw [← qz6];have aK:=pow8 hn
 have aL:=z_ (fun l=>show givP com D f g l<256 by
  unfold givP;split
  ·exact w_ (qf2 aq _) aK
  ·decide)
 have aM:=z_ (fun l W (hW:Below w.heap.size w W) va (h1:Has W va (u16s [f l,f (rest g l)]))=>qgk hn nm Ad dn cd a com u i s0 s1 s2 s3 s4 D [f l,f (rest g l)] va W (hD.below qa6 n_ hW) aq n_ (fun i=>by
  match i with
  | 0=>exact hf _
  | 1=>exact hf _
  | i+2=>simp) h1)
 have aB:=z_ (fun W (hW:Below w.heap.size w W)=>hA.below hA.1 hW);have aC:=z_ (qkn g);have aV:=hA.1;obtain ⟨W,hW⟩:=e_ (w.alloc (.cells #[.string (bstr nm),.slice Ad dn cd,.bool a,.bool com,.int .i64 u,.int .i64 (i:Int),.int .i64 (s0:Int),.int .u16 (s1:Int),.int .u16 (s2:Int),.int .u16 (s3:Int),.int .u16 (s4:Int)] 181));have aD:=fr1_ hW;have aE:C11 w.heap.size nm Ad dn cd a com u i s0 s1 s2 s3 s4 W:=by
  rw [hW];refine ⟨?_,?_,?_,?_,?_,?_,?_,?_,?_,?_,?_⟩<;>simp
 have al:=z_ aD;have aN:=z_ aE;have aO:bits .and .u16 ((g:Int)-1) (g:Int)=(((g-1) &&& g:Nat):Int):=by
  have:=ql3 (g-1) g o_ o_;rw [show (((g-1:Nat)):Int)=(g:Int)-1 by omega] at this;exact this
 have aW:IntKind.u16.wrap ((g:Int)-1)=(g:Int)-1:=qbl _ o_ o_;have ag:g &&& ((g-1) &&& g)=(g-1) &&& g:=by rw [Nat.and_comm (g-1) g,← Nat.and_assoc,Nat.and_self]
 have am:(g-1) &&& g≤g-1:=Nat.and_le_left;have ad:=z_ (And.intro ag am);obtain ⟨T,hT⟩:=e_ (orL (givP com D f g) (lefts g));have HT:=z_ hT;rw [← hT];obtain ⟨l0,ah⟩:=e_ ((g-1) &&& g);rw [← ah] at aC aO ad;clear hA hD aq hf aD aE ag am hT ah;go_enter Tryz.func244,Tryz.ntmps244
 go_wp2;rw [← hW];clear hW;go_loopw [7,8,9] (fun s v8 _ wr=>∃ ab l:Nat,s=.int .u16 (ab:Int)∧v8=.int .u16 (l:Int)∧ab<256∧l<g∧Hid (g &&& l=l∧ab ||| orL (givP com D f g) (leftsFrom g l)=T)∧Hid (Below W.heap.size W wr)) (fun _ v _ _=>(intOf v).toNat)
 case atStart=>exact ⟨0,l0,rfl,rfl,by decide,by have:=ad.out.2;omega,z_ ⟨ad.out.1,by rw [Nat.zero_or,← aC.out,← HT.out]⟩,z_ b_⟩
 case round=>
  obtain ⟨ab,l,rfl,rfl,aF,aP,HI,HB⟩:=hrel;have hsz:=HB.out.size;by_cases ah:l=0
  ·subst ah
   have HQ:Hid (ab=T):=z_ (by have:=HI.out.2;rw [qf8] at this;simpa [orL] using this);go_wp2;go_ret;exact ⟨qan (by rw [HQ.out]),al.out.trans (HB.out.mono al.out.size)⟩
  ·have aQ:=qm6 HI.out.1 o_
   have aR:=qm7 HI.out.1 aP;have aS:bits .andNot .u16 (g:Int) (l:Int)=((rest g l:Nat):Int):=by rw [qsb g l o_ o_,qz2 HI.out.1];rfl
   have aT:bits .and .u16 ((l:Int)-1) (g:Int)=(((l-1) &&& g:Nat):Int):=by
    have:=ql3 (l-1) g o_ o_;rw [show (((l-1:Nat)):Int)=(l:Int)-1 by omega] at this;exact this
   have aX:IntKind.u16.wrap ((l:Int)-1)=(l:Int)-1:=qbl _ o_ o_;have am:(l-1) &&& g≤l-1:=Nat.and_le_left
   have HN:Hid (g &&& ((l-1) &&& g)=(l-1) &&& g∧(ab ||| givP com D f g l) ||| orL (givP com D f g) (leftsFrom g ((l-1) &&& g))=T):=z_ ⟨by rw [Nat.and_comm (l-1) g,← Nat.and_assoc,Nat.and_self],by
    have:=HI.out.2;rw [qf9 g l ah,qrw] at this
    rw [Nat.or_assoc];exact this⟩
   have af:Hid (givP com D f g l=if com || befo l (rest g l) then giveR D [f l,f (rest g l)] else 0):=z_ rfl;have hp:=aL.out l;obtain ⟨l2,aG⟩:=e_ ((l-1) &&& g);rw [← aG] at aT am HN;have an:=al.out.trans (HB.out.mono al.out.size);have ao:=z_ an;obtain ⟨q1,q2⟩:=(aB.out wr an).2 l o_;obtain ⟨q3,q4⟩:=(aB.out wr an).2 (rest g l) o_;have ai:=z_ (aM.out l);have au:=z_ (fun r hr W=>qpn l (rest g l) o_ o_ r hr W);obtain ⟨rr,aH⟩:=e_ (rest g l);rw [← aH] at aQ aR aS q3 q4 ai au af;obtain ⟨fl,av⟩:=e_ (f l);obtain ⟨fr,aw⟩:=e_ (f rr);rw [← av] at q1;rw [← aw] at q3;rw [← av,← aw] at ai af;obtain ⟨pv,aI⟩:=e_ (givP com D f g l);rw [← aI] at HN hp af;obtain ⟨gv,aJ⟩:=e_ (giveR D [fl,fr]);rw [← aJ] at ai af;have HX:=z_ (C11.below aN.out HB.out);have ae:ab ||| pv<256:=Nat.or_lt_two_pow (n:=8) aF hp
   have ax:=qqa ab pv o_ o_;clear aG aH av aw aI aJ an q2 q4;have aj:∀ ob,Below wr.heap.size wr (wr.alloc ob).drew:=fun ob=>(b_.alloc n_ ob).drew
   have i1:(0:Int)≤(l:Int):=o_;have i2:(l:Int)<128:=o_;have i3:(0:Int)≤(rr:Int):=o_;have i4:(rr:Int)<128:=o_;have aa:=z_ aj;clear aj;by_cases hc:(com || befo l rr)=true
   ·have HG:Hid (pv=gv):=z_ (by rw [af.out,if_pos hc])
    rw [HG.out] at ax ae;have ap:Hid (g &&& l2=l2∧(ab ||| gv) ||| orL (givP com D f g) (leftsFrom g l2)=T):=z_ (by rw [← HG.out];exact HN.out);obtain ⟨y0,y1,y2,y3,y4,y5,y6,y7,y8,y9,aU⟩:=HX.out;cases ac:com with
    | true=>
     subst ac;clear hc;go_wp2_with fail
     go_region_held3 (SGrp w.heap.size bl l rr nm Ad dn cd a true u i s0 s1 s2 s3 s4 fl fr wr)
      (exact SGrp.of HX.out q1 q3 (by first|exact b_.drew|exact aa.out _|assumption))
      ((go_at_call 241;refine (ai.out _ (ao.out.trans ((aa.out _).mono ao.out.size)) _ (qrx _ fl fr)).mono ?_;rintro e w1 ⟨rfl,ak⟩;have ay:=(aa.out (.cells #[.int .u16 (fl:Int),.int .u16 (fr:Int)] 176)).trans (ak.mono (aa.out _).size);clear ak))
     exact c73_
    | false=>
     subst ac;have aA:=z_ (au.out true (by simpa using hc));clear hc;go_wp2_with (go_at_call 248;refine (aA.out _).mono ?_;rintro e w0 ⟨rfl,rfl⟩)
     go_region_held3 (SGrp w.heap.size bl l rr nm Ad dn cd a false u i s0 s1 s2 s3 s4 fl fr wr)
      (exact SGrp.of HX.out q1 q3 (by first|exact b_.drew|exact aa.out _|assumption))
      ((go_at_call 241;refine (ai.out _ (ao.out.trans ((aa.out _).mono ao.out.size)) _ (qrx _ fl fr)).mono ?_;rintro e w1 ⟨rfl,ak⟩;have ay:=(aa.out (.cells #[.int .u16 (fl:Int),.int .u16 (fr:Int)] 176)).trans (ak.mono (aa.out _).size);clear ak))
     exact c73_
   ·have HG:Hid (pv=0):=z_ (by rw [af.out,if_neg hc])
    have ap:Hid (g &&& l2=l2∧ab ||| orL (givP com D f g) (leftsFrom g l2)=T):=z_ (by have:=HN.out;rw [HG.out,Nat.or_zero] at this;exact this);obtain ⟨y0,y1,y2,y3,y4,y5,y6,y7,y8,y9,aU⟩:=HX.out;cases ac:com with
    | true=>rw [ac] at hc;simp at hc
    | false=>
     subst ac;have aA:=z_ (au.out false (by simpa using hc));clear hc;go_wp2_with (go_at_call 248;refine (aA.out _).mono ?_;rintro e w0 ⟨rfl,rfl⟩)
     go_roundw
     case rel=>exact ⟨ab,l2,rfl,rfl,aF,by omega,ap,HB⟩
     case measure=>simp [intOf];omega
end tsk

namespace bnds

end bnds

namespace imb
set_option maxRecDepth 20000
set_option maxHeartbeats 4000000
open mem dec rowl trm terml termb termt termx bndl
theorem qBy (a:BindM)(y:TermM)(va vb:Value)(U:Option Addr)(m c:Nat)(w:World)(ha:HasTs n lo w va a.v.args)(hb:HasTs n lo' w vb y.args)(hsz:qa2 a.v.args≤2097152)(z:Bool)(hz:z=true↔a.v=y):
  Calls Tryz.prog 109 #[aggB a va (.slice U m c),aggT y vb] w fun e w'=>e=.returned (.bool z)∧GB w.heap.size w w':=by
 have aa:decide (cmp a.v y=0)=z:=by rw [Bool.eq_iff_iff,decide_eq_true_iff,qb0,hz]
 obtain ⟨A,ca,rfl,_⟩:=HasR.shape ha rfl;obtain ⟨B,cb,rfl,_⟩:=HasR.shape hb rfl;have HC:=z_ (fun W (hW:GB w.heap.size w W)=>qec a.v y _ _ W (ha.below n_ hW.below) (hb.below n_ hW.below) hsz z aa);unfold aggB aggT;unfold aggT at HC;obtain ⟨ka,ab⟩:=e_ (a.v.args.length);obtain ⟨kb,ac⟩:=e_ (y.args.length);rw [← ab,← ac] at HC ⊢;clear ha hb hsz hz aa ab ac;go_enter Tryz.func109,Tryz.ntmps109
 go_wp2_with fail
 refine (HC.out _ (((GB.refl _ _).alloc n_ _).alloc (by simp) _)).mono ?_;rintro e w1 ⟨rfl,ad⟩;have ae:GB w.heap.size w w1:=((((GB.refl _ _).alloc n_ _).alloc (by simp) _)).trans (ad.mono (by simp;omega));clear ad;go_wp2;go_ret;exact ⟨rfl,ae⟩
theorem qoj{L:List BindM}{V:List TermM}:L.map (fun b=>b.v)=V↔L.length=V.length∧∀ i,i<L.length→(L.getD i default).v=V.getD i default:=by
 constructor
 ·rintro rfl
  refine ⟨by simp,fun i hi=>?_⟩;simp [List.getD,hi]
 ·rintro ⟨h1,h2⟩
  refine List.ext_getElem (by simpa using h1) (fun i h3 h4=>?_);have h5:i<L.length:=by simpa using h3
  have:=h2 i h5;simpa [List.getD,h5,h4] using this
theorem qxb (L:List BindM)(M:List TermM)(va vb:Value)(w:World)(ha:HasBs n lo w va L)(hb:HasTs n lo' w vb M)(hsz:bsz L≤1048576)(z:Bool)(hz:z=true↔L.map (fun b=>b.v)=M):
  Calls Tryz.prog 108 #[va,vb,.func (.func 109) #[] #[]] w fun e w'=>e=.returned (.bool z)∧GB w.heap.size w w':=by
 obtain ⟨N,hN⟩:=e_ (L.length);obtain ⟨m,hm⟩:=e_ (M.length);have HZ:Hid (z=true↔N=m∧∀ i,i<N→(L.getD i default).v=M.getD i default):=z_ (by rw [hz,qoj,hN,hm]);obtain ⟨A,ca,rfl,ha⟩:=HasR.shape ha hN.symm;obtain ⟨B,cb,rfl,hb⟩:=HasR.shape hb hm.symm;have aE:=ha.len.2.1;have aF:=hb.len.2.1;have HA:=z_ ha;have HB:=z_ hb;have HN:=z_ hN;have HS:=z_ hsz;clear ha hb hN hm hsz hz;go_enter Tryz.func108,Tryz.ntmps108
 by_cases au:N=m
 ·subst au
  have n1:((N:Int) != (N:Int))=false:=by simp
  go_wp2;go_loopw [17] (fun aB wr=>∃ k:Nat,aB=.int .i64 k∧k≤N∧Hid (∀ i,i<k→(L.getD i default).v=M.getD i default)∧Hid (GB w.heap.size w wr)) (fun i _=>N-(intOf i).toNat)
  case atStart=>exact ⟨0,rfl,y_,z_ (fun i hi=>by omega),z_ (GB.refl _ _)⟩
  case round=>
   obtain ⟨k,rfl,hk,HQ,HG⟩:=hrel;by_cases ao:k<N
   ·obtain ⟨ga,oa,A1,a1,A2,a2,rfl,aG,av,h1,h2,hv,ht⟩:=qdc HA.out ao
    have aa:=av.below HG.out.below;obtain ⟨kn,gb,ob,B1,b1,aH,rfl,_,aI,e0,e1,e2,e3,h3,_,_,_⟩:=qal HB.out ao;have kw:∀ {g o:Nat} {v:Value},w.cell? ⟨g,o,none⟩=some v→wr.cell? ⟨g,o,none⟩=some v:=fun {g o v} h=>(HG.out.below.cell (p:=⟨g,o,none⟩) (World.block_lt_of_cell? w _ h)).trans h
    have y0:=kw e0;have y1:=kw e1;have y2:=kw e2;have y3:=kw e3;have aC:=qqf (L:=L) (j:=k) Ac_;have ap:qa2 (L.getD k default).v.args≤2097152:=by have:=HS.out;omega
    obtain ⟨x,hx⟩:=e_ (L.getD k default);obtain ⟨y,hy⟩:=e_ (M.getD k default);obtain ⟨q,hq⟩:∃ q:Bool,q=true↔x.v=y:=⟨decide (cmp x.v y=0),by rw [decide_eq_true_iff,qb0]⟩;have aw:Hid (q=true↔(L.getD k default).v=M.getD k default):=z_ (by rw [hq,hx,hy]);rw [← hx] at aa h1 h2 ap;rw [← hy] at y0 y1 y2 y3 h3;unfold Cells8 at aa;obtain ⟨⟨x0,x1,x2,x3⟩,x4,x5,x6,x7⟩:=aa;obtain ⟨V,hV⟩:=e_ ((wr.alloc (.cells #[.int .i64 x.v.op,.string (bstr x.v.name),.int .i64 x.v.sort,.slice A1 x.v.args.length a1,.int .i64 x.t.op,.string (bstr x.t.name),.int .i64 x.t.sort,.slice A2 x.t.args.length a2] 85)).alloc (.cells #[.int .i64 y.op,.string (bstr y.name),.int .i64 y.sort,.slice B1 y.args.length b1] 38));have ax:GB wr.heap.size wr V:=by rw [hV];exact ((GB.refl _ _).alloc n_ _).alloc (by simp) _
    have an:=HG.out.trans (ax.mono HG.out.below.size);have HC:=z_ (qBy x y _ _ A2 x.t.args.length a2 V (h1.below n_ an.below) ((h3.up o_).below n_ an.below) ap q hq);have ay:=z_ an;unfold aggB aggT at HC;obtain ⟨aJ,ab⟩:=e_ (x.v.op);rw [← ab] at HC hV x0;obtain ⟨aK,ac⟩:=e_ (x.v.name);rw [← ac] at HC hV x1;obtain ⟨aL,ad⟩:=e_ (x.v.sort);rw [← ad] at HC hV x2;obtain ⟨aM,ae⟩:=e_ (x.v.args.length);rw [← ae] at HC hV x3;obtain ⟨aN,af⟩:=e_ (x.t.op);rw [← af] at HC hV x4;obtain ⟨aO,ag⟩:=e_ (x.t.name);rw [← ag] at HC hV x5;obtain ⟨aP,ah⟩:=e_ (x.t.sort);rw [← ah] at HC hV x6;obtain ⟨aQ,ai⟩:=e_ (x.t.args.length);rw [← ai] at HC hV x7;clear ab ac ad ae af ag ah ai;obtain ⟨aR,aj⟩:=e_ (y.op);rw [← aj] at HC hV y0;obtain ⟨aS,ak⟩:=e_ (y.name);rw [← ak] at HC hV y1;obtain ⟨aT,al⟩:=e_ (y.sort);rw [← al] at HC hV y2;obtain ⟨aU,am⟩:=e_ (y.args.length);rw [← am] at HC hV y3;clear aj ak al am;have kY:∀ {g o:Nat} {v:Value},wr.cell? ⟨g,o,none⟩=some v→∀ O,(wr.alloc O).cell? ⟨g,o,none⟩=some v:=fun {g o v} h O=>((b_.alloc n_ O).cell (p:=⟨g,o,none⟩) (World.block_lt_of_cell? wr _ h)).trans h
    have j0:=kY y0;have j1:=kY y1;have j2:=kY y2;have j3:=kY y3;clear av h1 h2 h3 ap aC hx hy hq ax an hv ht kY kw y0 y1 y2 y3 e0 e1 e2 e3;go_wp2_with fail
    rw [← hV];clear hV x0 x1 x2 x3 x4 x5 x6 x7 j0 j1 j2 j3;refine HC.out.mono ?_;rintro e w2 ⟨rfl,az⟩;have aA:=z_ (ay.out.trans (az.mono ay.out.below.size));clear az HC;cases q with
    | true=>
     have aD:Hid (∀ i,i<k+1→(L.getD i default).v=M.getD i default):=z_ (fun i hi=>by
      by_cases e:i=k
      ·subst e;exact aw.out.1 rfl
      ·exact HQ.out i o_)
     go_wp2;go_roundw
     case rel=>exact ⟨k+1,by go_num,by omega,aD,aA⟩
     case measure=>simp [intOf];omega
    | false=>
     have HE:Hid (z=false):=z_ (by
      cases aq:z with
      | false=>rfl
      | true=>exact absurd (aw.out.2 ((HZ.out.1 aq).2 k ao)) (by simp))
     go_wp2;go_ret;exact ⟨qa0 HE.out.symm,aA.out⟩
   ·obtain rfl:k=N:=o_
    have HE:Hid (z=true):=z_ (HZ.out.2 ⟨by trivial,HQ.out⟩);go_wp2;go_ret;exact ⟨qa0 HE.out.symm,HG.out⟩
 ·have n1:((N:Int) != (m:Int))=true:=by simp;omega
  have HE:Hid (z=false):=z_ (by
   cases aq:z with
   | false=>rfl
   | true=>exact absurd (HZ.out.1 aq).1 au)
  go_wp2;go_ret;exact ⟨qa0 HE.out.symm,GB.refl _ _⟩
theorem qtp (L:List BindM)(M:List TermM)(va vb:Value)(w:World)(ha:HasBs n lo w va L)(hb:HasTs n lo' w vb M)(hsz:bsz L≤1048576)(z:Bool)(hz:z=true↔L.map (fun b=>b.v)=M):
  Calls Tryz.prog 59 #[va,vb] w fun e w'=>e=.returned (.bool z)∧GB w.heap.size w w':=by
 have HC:=z_ (qxb L M va vb w ha hb hsz z hz);obtain ⟨A,ca,rfl,_⟩:=HasR.shape ha rfl;obtain ⟨B,cb,rfl,_⟩:=HasR.shape hb rfl;obtain ⟨k,hk⟩:=e_ (L.length);obtain ⟨m,hm⟩:=e_ (M.length);rw [← hk,← hm] at HC ⊢;clear ha hb hsz hz hk hm;go_enter Tryz.func59,Tryz.ntmps59
 go_wp2_with fail
 refine HC.out.mono ?_;rintro e w1 ⟨rfl,aa⟩;clear HC;go_wp2;go_ret;exact ⟨rfl,aa⟩
end imb
end Go.Proofs.YtiilamngcoegiaaGreat
