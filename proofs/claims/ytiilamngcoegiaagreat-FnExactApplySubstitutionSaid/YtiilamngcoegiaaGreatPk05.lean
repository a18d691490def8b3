/- parts -/
import Derived.Test.YtiilamngcoegiaaGreatTermw
import Derived.Deep.RegionLaw
import Derived.Deep.LoopGhost
import Derived.Test.YtiilamngcoegiaaGreatPk08
import Derived.BigQuiet
namespace Go.Proofs.YtiilamngcoegiaaGreat
open Go.ChangeShapes Go.WideShapes Go.ChangeAt Go.RowKit
namespace termx
set_option maxRecDepth 100000
set_option maxRecDepth 50000
set_option maxHeartbeats 8000000
open mem rowl trm terml termb termt termw
abbrev Stk:=List (Value×Value×List TermM×List TermM)
noncomputable def cmpS:Stk→Int
 | []=>0
 | p::R=>if cmpL p.2.2.1 p.2.2.2≠0 then cmpL p.2.2.1 p.2.2.2 else cmpS R
noncomputable def wtS:Stk→Nat
 | []=>0
 | p::R=>2*sizes p.2.2.1+1+wtS R
def flat:Stk→List Value
 | []=>[]
 | p::R=>flat R++[p.1,p.2.1]
theorem qkt:∀ R:Stk,(flat R).length=R.length*2
 | []=>rfl
 | p::R=>by simp [flat,qkt R];omega
theorem qtz:∀ R:Stk,R.length≤wtS R
 | []=>Nat.le_refl _
 | p::R=>by have:=qtz R;simp only [wtS,List.length_cons];omega
theorem qmd (a b:TermM)(l m:List TermM):cmpL (a::l) (b::m)=if cmp a b≠0 then cmp a b else cmpL l m:=rfl
theorem qi3 (a b:TermM)(l m:List TermM)(va vb:Value)(R:Stk)(h:cmpN a b=0)(u v u' v':Value):
  cmpS ((va,vb,a::l,b::m)::R)=cmpS ((u,v,a.args,b.args)::(u',v',l,m)::R):=by
 have hx:cmpL (a::l) (b::m)=if cmpL a.args b.args≠0 then cmpL a.args b.args else cmpL l m:=by
  rw [qmd,qkr a b,if_neg (by simp [h]:¬ cmpN a b≠0)]
 have e1:cmpS ((va,vb,a::l,b::m)::R)=if cmpL (a::l) (b::m)≠0 then cmpL (a::l) (b::m) else cmpS R:=rfl
 have e2:cmpS ((u,v,a.args,b.args)::(u',v',l,m)::R)=if cmpL a.args b.args≠0 then cmpL a.args b.args else if cmpL l m≠0 then cmpL l m else cmpS R:=rfl
 rw [e1,e2,hx];by_cases h1:cmpL a.args b.args=0
 ·simp [h1]
 ·simp [h1]
theorem qu0:(Tryz.prog.info? 259).map (fun i=>(i.zero,i.size,i.bytes))=some (some (.agg #[.slice none 0 0,.slice none 0 0]),2,48):=by kernel_rfl
theorem qe2 (w:World)(u v:Value)(t:TypeId):∀ (j:Nat) (x:Value),[u,v][j]? =some x→(w.alloc (.cells #[u,v] t)).cell? ((⟨w.heap.size,0,none⟩:Addr).add j)=some x:=by
 intro j x hj;match j,hj with
 | 0,hj=>simp at hj;subst hj;simp [Addr.add]
 | 1,hj=>simp at hj;subst hj;simp [Addr.add]
theorem qgg {u v:Value}(h:u.oneCell'=true)(h':v.oneCell'=true):∀ x∈[u,v],x.oneCell'=true:=by
 intro x hx;simp at hx;rcases hx with rfl|rfl
 ·exact h
 ·exact h'
theorem qqd {n lo m c:Nat}{w:World}{A:Option Addr}{x:TermM}{L:List TermM}(h:HasTs n lo w (.slice A m c) (x::L)):
  ∃ A4 c4,(∀ W,(Instr.sliceAt 36 (.slice A m c) (some (.int .i64 1)) none none).run Tryz.prog W=.ok (.slice A4 (m-1) c4) W)∧HasTs n lo w (.slice A4 (m-1) c4) L:=by
 have hel:Tryz.prog.elem 36=38:=by kernel_rfl
 have ab:Tryz.prog.underlying 36=some (.slice (Tryz.prog.elem 36)):=by rw [hel];exact Tryz.underlying36
 obtain ⟨i0,hi,ad,ae,af⟩:=info_parts qb1;have hcs:Tryz.prog.cellsOf 38=4:=by kernel_rfl
 obtain ⟨hm,ag,hmc⟩:=h.len;rw [List.length_cons] at hm;obtain ⟨g,o,cs,rfl,_⟩:=h.get (j:=0) o_
 have aa:∀ W,(Instr.sliceAt 36 (.slice (some ⟨g,o,none⟩) m c) (some (.int .i64 1)) none none).run Tryz.prog W=.ok (sliced (some ⟨g,o,none⟩) 1 m c 4) W:=fun W=>by
  rw [run_sliceAt_slice W _ _ _ _ _ ab,run_slice_l W _ _ _ _ ab .i64 1 o_ o_,hel,run_sizeOf W hi,hcs];rfl
 by_cases h1:c=1
 ·have ac:m=1:=o_
  refine ⟨some ⟨g,o,none⟩,c-1,fun W=>?_,?_⟩
  ·rw [aa W,sliced,if_pos h1]
  ·have:L=[]:=List.eq_nil_of_length_eq_zero o_
   rw [this,ac,h1];exact HasR.nil _ _ _ (by unfold maxLen;omega) _
 ·refine ⟨some ⟨g,o+4,none⟩,c-1,fun W=>?_,HasR.tail h (by omega:1≤m)⟩
  rw [aa W,sliced,if_neg h1];simp [Addr.add]
theorem qxk {R:Stk}{p:Value×Value×List TermM×List TermM}{k:Nat}(hk:k=R.length):(flat (p::R))[k*2]? =some p.1∧(flat (p::R))[k*2+1]? =some p.2.1:=by
 have h:=qkt R;rw [flat,hk];refine ⟨?_,?_⟩
 ·rw [List.getElem?_append_right o_,h,Nat.sub_self];rfl
 ·rw [List.getElem?_append_right o_,h,Nat.add_sub_cancel_left];rfl
theorem qxl {R:Stk}{p:Value×Value×List TermM×List TermM}{k:Nat}(hk:k=R.length):(flat (p::R)).take (k*2)=flat R:=by
 have h:=qkt R;rw [flat,hk,List.take_append_of_le_length o_,List.take_of_length_le o_]
theorem c7_ {p:Prop}(h:p:=by
 have p3:=(aa.below.cell (p:=⟨ga,oa+3,none⟩) ag).trans c3;have q3:=(aa.below.cell (p:=⟨gb,ob+3,none⟩) ab).trans e3;clear c3 e3;go_wp2_with fail
 go_region_law (refine qbc (by rfl) _ _ _ (by rfl) w.heap.size 259 j0 _ 2 48 Tryz.underlying257 aK aL aM aN rfl o_ g k cap (flat R) (by rfl) (qa2 au.out (b_.drew.alloc (by simp) _)) ⟨_,0,none⟩ 1 1 [.slice A4 (na-1) c4,.slice B4 (nb-1) d4] (by rfl) (by rfl) (qe2 _ _ _ _) (qgg rfl rfl) (by unfold maxLen;omega) o_ (by have:=aa.below.size;simp;omega) ?_;intro g' cap' w4 ad ah hg4 aX ai)
 all_goals
  have ac:GB w.heap.size w w4:=GB.grown ((aa.drew).alloc (by have:=aa.below.size;simp;omega) _) ah ai (by have:=aa.below.size;simp;omega) aE;have hg2:w.heap.size≤g':=by
   have:=aa.below.size;rcases hg4 with h|h
   ·omega
   ·rw [h];simp;omega
  have aY:=z_ ad;have p4:w4.cell? ⟨ga,oa+3,none⟩=some (.slice A2 ax ap):=(ac.below.cell (p:=⟨ga,oa+3,none⟩) ag).trans ((aa.below.cell (p:=⟨ga,oa+3,none⟩) ag).symm.trans p3);have q4:w4.cell? ⟨gb,ob+3,none⟩=some (.slice B2 ay aq):=(ac.below.cell (p:=⟨gb,ob+3,none⟩) ab).trans ((aa.below.cell (p:=⟨gb,ob+3,none⟩) ab).symm.trans q3);clear ah ai ad hg4 p3 q3;go_wp2;go_quiet (fail)
  go_wp2;go_roundg (2*sizes x.args+wtS ((.slice A4 (na-1) c4,.slice B4 (nb-1) d4,ta,tb)::R))
  case measure=>have h5:=an.out;have h6:=az.out;simp only [wtS];omega
  case rel=>
   refine ⟨A2,ax,ap,B2,ay,aq,x.args,y.args,(.slice A4 (na-1) c4,.slice B4 (nb-1) d4,ta,tb)::R,g',k+1,cap',rfl,rfl,rfl,z_ ⟨ao.out.1,ao.out.2,?_⟩,z_ ?_,?_,hg2,⟨Nat.le_refl _,?_⟩,qa2 aY.out (qa3 b_ _),by first|exact ac.drewN _|exact ac.drew|exact ac⟩
   ·intro p hp
    rcases List.mem_cons.1 hp with rfl|hp
    ·exact ⟨be.out,bf.out⟩
    ·exact HI.out.2.2 p hp
   ·rw [← HE.out]
    exact (qi3 x y ta tb _ _ R aW.out _ _ _ _).symm
   ·rw [List.length_cons,← aU.out]
   ·have h5:=an.out;have h6:=az.out;simp only [wtS];omega
):p:=h
theorem c8_ {p:Prop}(h:p:=by
 rintro e w' ⟨rfl,rfl⟩;rw [af];go_wp2;go_ret;exact ⟨qaa HR.out.symm,ae⟩
):p:=h
theorem qu1 {n:Nat}(L M:List TermM)(va vb:Value)(w:World){lo lo':Nat}(ha:HasTs n lo w va L)(hb:HasTs n lo' w vb M)(hsz:sizes L≤2097152):
  Calls Tryz.prog 168 #[va,vb] w fun e w'=>e=.returned (.int .i64 (cmpL L M))∧GB w.heap.size w w':=by
 obtain ⟨A,ca,rfl,ha⟩:=HasR.shape ha rfl;obtain ⟨B,cb,rfl,hb⟩:=HasR.shape hb rfl;have HA:=z_ ha;have HB:=z_ hb;obtain ⟨j0,aK,aL,aM,aN⟩:=info_parts qu0;obtain ⟨O,bz,am⟩:∃ O,(∀ W,(Instr.makeSlice 257 (.int .i64 0) (.int .i64 20)).run Tryz.prog W=.ok (.slice (some ⟨W.heap.size,0,none⟩) 0 20) (W.alloc O))∧∀ W:World,(W.alloc O).ownsRow W.heap.size 259 2 (.slice (some ⟨W.heap.size,0,none⟩) 0 20) 0 []:=by
  refine ⟨.cells (madeCells (Value.agg #[.slice none 0 0,.slice none 0 0]).cells ((20:Int).toNat*j0.size)) 259,fun W=>?_,fun W=>?_⟩
  ·exact run_make W _ _ _ _ Tryz.underlying257 aK aL .i64 .i64 0 20 o_ o_ (by rw [aN];omega) o_
  ·exact World.ownsRow_made W _ 20 n_ (by unfold maxLen;omega) (by rw [size_madeCells,aM];rfl)
 have aZ:=z_ (am w);obtain ⟨NL,a2⟩:=e_ (L.length);obtain ⟨NM,a6⟩:=e_ (M.length);rw [← a2] at HA ⊢;rw [← a6] at HB ⊢;clear ha hb am a2 a6;go_enter Tryz.func168,Tryz.ntmps168
 go_wp2_with fail
 have aA:GB w.heap.size w (w.alloc O):=(GB.refl _ _).alloc n_ _;have bh:Hid (w.heap.size<(w.alloc O).heap.size):=z_ (by simp);generalize w.alloc O=W0 at aA aZ bh ⊢
 go_loopg [0,1,5] (2*sizes L) (fun gk v0 v1 v5 wr=>∃ (A:Option Addr) (na ca:Nat) (B:Option Addr) (nb cb:Nat) (la lb:List TermM) (R:Stk) (g k cap:Nat),v0=.slice A na ca∧v1=.slice B nb cb∧v5=.slice (some ⟨g,0,none⟩) k cap∧
   Hid (HasTs n lo w (.slice A na ca) la∧HasTs n lo' w (.slice B nb cb) lb∧∀ p∈R,HasTs n lo w p.1 p.2.2.1∧HasTs n lo' w p.2.1 p.2.2.2)∧Hid (cmpS ((v0,v1,la,lb)::R)=cmpL L M)∧k=R.length∧w.heap.size≤g∧(2*sizes la+wtS R≤gk∧gk≤4194304)∧
   wr.ownsRow w.heap.size 259 2 (.slice (some ⟨g,0,none⟩) k cap) k (flat R)∧GB w.heap.size w wr)
 case atStart=>
  refine ⟨A,NL,ca,B,NM,cb,L,M,[],w.heap.size,0,20,rfl,rfl,rfl,z_ ⟨HA.out,HB.out,fun p hp=>by simp at hp⟩,z_ ?_,rfl,Nat.le_refl _,⟨by simp [wtS],by omega⟩,aZ.out,aA⟩;simp only [cmpS];by_cases h:cmpL L M=0<;>simp [h]
 case round=>
  obtain ⟨A,na,ca,B,nb,cb,la,lb,R,g,k,cap,rfl,rfl,rfl,HI,HE,av,aE,⟨aO,bA⟩,hown,ae⟩:=hrel;have an:=z_ aO;have aj:=z_ hown;have bi:g<wr.heap.size:=by
   rcases hown.2 with ⟨hv,_⟩|⟨g',cap',cur,hv,hb,hg,_⟩
   ·cases hv
   ·simp only [Value.slice.injEq,Option.some.injEq,Addr.mk.injEq,and_true,true_and] at hv
    obtain ⟨rfl,rfl⟩:=hv;exact (q_ hg)
  have bB:k≤4194304:=by have h1:=qtz R;omega
  have bj:k≤cap:=by obtain ⟨_,_,e,h⟩:=qae hown;cases e;exact h
  clear hown;cases la with
  | nil=>
   obtain rfl:na=0:=HI.out.1.len.1;cases lb with
   | nil=>
    obtain rfl:nb=0:=HI.out.2.1.len.1;have af:cmpI 0 0=0:=by decide
    cases R with
    | nil=>
     obtain rfl:k=0:=av;have HR:Hid (cmpL L M=0):=z_ (by rw [← HE.out];rfl);go_wp2_with fail
     refine (qfk 0 0 _).mono ?_;exact c8_
    | cons p R=>
     obtain ⟨k',rfl⟩:∃ k',k=k'+1:=⟨R.length,by rw [av];rfl⟩;have aF:k'=R.length:=by simpa using av
     obtain ⟨v1,v2,l1,m1⟩:=p;have aG:HasTs n lo w v1 l1:=(HI.out.2.2 _ (List.mem_cons_self)).1;have aH:HasTs n lo' w v2 m1:=(HI.out.2.2 _ (List.mem_cons_self)).2;obtain ⟨A3,c3,rfl,aG⟩:=HasR.shape aG rfl;obtain ⟨B3,d3,rfl,aH⟩:=HasR.shape aH rfl;obtain ⟨a7,a8⟩:=qxk (p:=(.slice A3 l1.length c3,.slice B3 m1.length d3,l1,m1)) aF;have s1:=(aj.out.cellAt (k'*2) o_).trans a7;have s2:=(aj.out.cellAt (k'*2+1) o_).trans a8
     have bk:Hid (wr.ownsRow w.heap.size 259 2 (.slice (some ⟨g,0,none⟩) k' cap) k' (flat R)):=z_ (by
      have h:=qek aj.out (m:=k') o_
      rwa [qxl aF] at h)
     have HP:=z_ (And.intro aG aH);have HT:Hid (∀ p∈R,HasTs n lo w p.1 p.2.2.1∧HasTs n lo' w p.2.1 p.2.2.2):=z_ (fun p hp=>HI.out.2.2 p (List.mem_cons_of_mem _ hp));have aP:Hid (cmpS ((.slice A3 l1.length c3,.slice B3 m1.length d3,l1,m1)::R)=cmpL L M):=z_ (by rw [← HE.out];rfl);obtain ⟨n1,ba⟩:=e_ (l1.length);obtain ⟨m2,bb⟩:=e_ (m1.length);rw [← ba] at s1 HP aP;rw [← bb] at s2 HP aP;have bl:k'+1≤cap:=bj;have bm:=z_ aF;clear aG aH a7 a8 ba bb aO aF av;go_wp2_with fail
     refine (qfk 0 0 _).mono ?_;rintro e w' ⟨rfl,rfl⟩;rw [af];go_wp2;go_quiet (fail)
     go_wp2;go_roundg (2*sizes l1+wtS R)
     case measure=>have:=an.out;simp only [wtS] at this;omega
     case rel=>
      refine ⟨A3,n1,c3,B3,m2,d3,l1,m1,R,g,k',cap,rfl,rfl,?_,z_ ⟨HP.out.1,HP.out.2,HT.out⟩,aP,bm.out,aE,⟨Nat.le_refl _,?_⟩,?_,?_⟩
      ·first|rfl|go_num
      ·have:=an.out;simp only [wtS] at this;omega
      ·exact qa2 bk.out (qa3 b_ _)
      ·exact ae.drewN _
   | cons y tb=>
    have aw:=HI.out.2.1.len.1;rw [List.length_cons] at aw;have af:cmpI 0 (nb:Int)=-1:=by unfold cmpI;rw [if_neg o_,if_pos o_]
    have HR:Hid (cmpL L M=-1):=z_ (by rw [← HE.out];simp only [cmpS];rw [if_pos (by simp [cmpL])];rfl);have aB:¬ nb=0:=o_;have aQ:=HI.out.2.1.len.2.1;clear aw;go_wp2_with fail
    refine (qfk 0 nb _).mono ?_;exact c8_
  | cons x ta=>
   have aI:=HI.out.1.len.1;rw [List.length_cons] at aI;have aR:¬ na=0:=o_;have bn:=HI.out.1.len.2.1;cases lb with
   | nil=>
    obtain rfl:nb=0:=HI.out.2.1.len.1;have af:cmpI (na:Int) 0=1:=by unfold cmpI;rw [if_neg o_,if_neg o_]
    have HR:Hid (cmpL L M=1):=z_ (by rw [← HE.out];simp only [cmpS];rw [if_pos (by simp [cmpL])];rfl);clear aI;go_wp2_with fail
    refine (qfk na 0 _).mono ?_;exact c8_
   | cons y tb=>
    have aw:=HI.out.2.1.len.1;rw [List.length_cons] at aw;have aB:¬ nb=0:=o_;have aQ:=HI.out.2.1.len.2.1;obtain ⟨ka,ga,oa,A2,ap,bo,rfl,_,ag,c0,c1,c2,c3,aS,_⟩:=qaj HI.out.1 (j:=0) o_;obtain ⟨kb,gb,ob,B2,aq,bp,rfl,_,ab,e0,e1,e2,e3,aT,_⟩:=qaj HI.out.2.1 (j:=0) o_;obtain ⟨A4,c4,bC,bc⟩:=qqd HI.out.1;obtain ⟨B4,d4,bq,bd⟩:=qqd HI.out.2.1;have eA:(x::ta).getD 0 default=x:=rfl;have eB:(y::tb).getD 0 default=y:=rfl;rw [eA] at c0 c1 c2 c3 aS;rw [eB] at e0 e1 e2 e3 aT;simp only [Nat.zero_mul,Nat.add_zero] at c0 c1 c2 c3 e0 e1 e2 e3;have HN:=z_ (And.intro aI aw);have bD:decide (na=0)=false:=decide_eq_false aR;have bE:decide (nb=0)=false:=decide_eq_false aB;have bF:decide ((na:Int)=0)=false:=f_;have bG:decide ((nb:Int)=0)=false:=f_;have bH:((na:Int)==0)=false:=beq_eq_false_iff_ne.2 o_;have bI:((nb:Int)==0)=false:=beq_eq_false_iff_ne.2 o_;have be:=z_ bc;have bf:=z_ bd;have aU:=z_ av;have ao:Hid (HasTs n lo w (.slice A2 x.args.length ap) x.args∧HasTs n lo' w (.slice B2 y.args.length aq) y.args):=z_ ⟨aS.up o_,aT.up o_⟩;obtain ⟨ax,aC⟩:=e_ (x.args.length);obtain ⟨ay,aD⟩:=e_ (y.args.length);rw [← aC] at c3 ao;rw [← aD] at e3 ao
    have az:Hid (sizes (x::ta)=1+sizes x.args+sizes ta):=z_ (by
     have:size x=1+sizes x.args:=by cases x;exact qb7 _ _ _ _
     simp only [sizes,List.map_cons,List.sum_cons] at this ⊢
     omega)
    have ak:ga<wr.heap.size:=w_ ag ae.below.size;have al:gb<wr.heap.size:=w_ ab ae.below.size;have p0:=(ae.below.cell (p:=⟨ga,oa,none⟩) ag).trans c0;have p1:=(ae.below.cell (p:=⟨ga,oa+1,none⟩) ag).trans c1;have p2:=(ae.below.cell (p:=⟨ga,oa+2,none⟩) ag).trans c2;have q0:=(ae.below.cell (p:=⟨gb,ob,none⟩) ab).trans e0;have q1:=(ae.below.cell (p:=⟨gb,ob+1,none⟩) ab).trans e1;have q2:=(ae.below.cell (p:=⟨gb,ob+2,none⟩) ab).trans e2
    have aV:=z_ (fun W (hW:GB wr.heap.size wr W)=>qi2 x y ga oa gb ob W (w_ ak hW.below.size) (w_ al hW.below.size)
     ((hW.below.cell (p:=⟨ga,oa,none⟩) ak).trans p0) ((hW.below.cell (p:=⟨ga,oa+1,none⟩) ak).trans p1) ((hW.below.cell (p:=⟨ga,oa+2,none⟩) ak).trans p2)
     ((hW.below.cell (p:=⟨gb,ob,none⟩) al).trans q0) ((hW.below.cell (p:=⟨gb,ob+1,none⟩) al).trans q1) ((hW.below.cell (p:=⟨gb,ob+2,none⟩) al).trans q2))
    obtain ⟨r,hr⟩:=e_ (cmpN x y);rw [← hr] at aV;have bg:=z_ hr;clear c0 c1 c2 e0 e1 e2 p0 p1 p2 q0 q1 q2 aI aw bc bd av aS aT aC aD hr bo bp aO;go_wp2;go_quiet (fail)
    go_wp2_with fail
    refine (aV.out _ (by first|exact (GB.refl _ _).drewN _|exact (GB.refl _ _).drew)).mono ?_;rintro e w2 ⟨rfl,hb2⟩;have aa:GB w.heap.size w w2:=(by first|exact ae.drewN _|exact ae.drew:GB w.heap.size w _).trans (hb2.mono ae.below.size);have au:=z_ (qa2 aj.out ((qa3 b_ _).trans hb2.below));have br:g<w2.heap.size:=w_ bi hb2.below.size;clear hb2 aV;by_cases aJ:r=0
    ·subst aJ
     have aW:Hid (cmpN x y=0):=z_ bg.out.symm;by_cases h1:1<na
     ·have bs:decide (1<na)=true:=decide_eq_true h1
      have bt:decide ((1:Int)<(na:Int))=true:=d_;exact c7_
     ·have bs:decide (1<na)=false:=decide_eq_false h1
      have bt:decide ((1:Int)<(na:Int))=false:=f_;by_cases h2:1<nb
      ·have bu:decide (1<nb)=true:=decide_eq_true h2
       have bv:decide ((1:Int)<(nb:Int))=true:=d_;exact c7_
      ·have bu:decide (1<nb)=false:=decide_eq_false h2
       have bv:decide ((1:Int)<(nb:Int))=false:=f_;have bw:ta=[]:=List.eq_nil_of_length_eq_zero (by have:=HN.out.1;omega);have bx:tb=[]:=List.eq_nil_of_length_eq_zero (by have:=HN.out.2;omega);have p3:=(aa.below.cell (p:=⟨ga,oa+3,none⟩) ag).trans c3;have q3:=(aa.below.cell (p:=⟨gb,ob+3,none⟩) ab).trans e3;clear c3 e3;go_wp2;go_quiet (fail)
       go_wp2;go_roundg (2*sizes x.args+wtS R)
       case measure=>have h5:=an.out;have h6:=az.out;omega
       case rel=>
        refine ⟨A2,ax,ap,B2,ay,aq,x.args,y.args,R,g,k,cap,rfl,rfl,rfl,z_ ⟨ao.out.1,ao.out.2,HI.out.2.2⟩,z_ ?_,aU.out,aE,⟨Nat.le_refl _,?_⟩,qa2 au.out (qa3 b_ _),by first|exact aa.drewN _|exact aa.drew|exact aa⟩
        ·rw [← HE.out,qi3 x y ta tb _ _ R aW.out (.slice A2 ax ap) (.slice B2 ay aq) undef undef,bw,bx]
         rfl
        ·have h5:=an.out;have h6:=az.out;omega
    ·have HR:Hid (cmpL L M=r):=z_ (by
      have h:=bg.out;rw [← HE.out];simp only [cmpS]
      rw [qmd,qkr x y,← h,if_pos aJ,if_pos aJ,if_pos aJ])
     go_wp2;go_ret;exact ⟨qaa HR.out.symm,aa⟩
abbrev aggT (t:TermM)(v:Value):Value:=.agg #[.int .i64 t.op,.string (bstr t.name),.int .i64 t.sort,v]
theorem qf6 {n:Nat}(t u:TermM)(va vb:Value)(w:World){lo lo':Nat}(ha:HasTs n lo w va t.args)(hb:HasTs n lo' w vb u.args)(hsz:sizes t.args≤2097152):
  Calls Tryz.prog 115 #[aggT t va,aggT u vb] w fun e w'=>e=.returned (.int .i64 (cmp t u))∧GB w.heap.size w w':=by
 obtain ⟨A,ca,rfl,_⟩:=HasR.shape ha rfl;obtain ⟨B,cb,rfl,_⟩:=HasR.shape hb rfl;have HL:=z_ (fun W (hW:GB w.heap.size w W)=>qu1 t.args u.args _ _ W (ha.below n_ hW.below) (hb.below n_ hW.below) hsz);have HN:=z_ (fun W=>qi2 t u w.heap.size 0 (w.heap.size+1) 0 W);obtain ⟨r,hr⟩:=e_ (cmpN t u);obtain ⟨z,hz⟩:=e_ (cmpL t.args u.args);have HC:Hid (cmp t u=if r≠0 then r else z):=z_ (by rw [hr,hz];exact qkr t u);obtain ⟨c,hc⟩:=e_ (cmp t u);rw [← hc] at HC ⊢;rw [← hr] at HN;rw [← hz] at HL;unfold aggT;obtain ⟨k,hk⟩:=e_ (t.args.length);obtain ⟨m,hm⟩:=e_ (u.args.length);rw [← hk] at HL ⊢;rw [← hm] at HL ⊢;obtain ⟨to,ad⟩:=e_ (t.op);obtain ⟨tn,ae⟩:=e_ (t.name);obtain ⟨ts,af⟩:=e_ (t.sort);obtain ⟨uo,ag⟩:=e_ (u.op);obtain ⟨un,ah⟩:=e_ (u.name);obtain ⟨us,ai⟩:=e_ (u.sort);rw [← ad,← ae,← af,← ag,← ah,← ai] at HN ⊢;clear ha hb hsz hr hz hc hk hm ad ae af ag ah ai;go_enter Tryz.func115,Tryz.ntmps115
 go_wp2_with fail
 refine (HN.out _ (by simp;omega) (by simp) (by simp) (by simp) (by simp) (by simp) (by simp) (by simp)).mono ?_;rintro e w1 ⟨rfl,aa⟩;have ab:GB w.heap.size w w1:=((((GB.refl _ _).alloc n_ _).alloc (by simp) _)).trans (aa.mono (by simp;omega));have d1:w1.cell? ⟨w.heap.size,3,none⟩=some (.slice A k ca):=by rw [aa.below.cell (p:=⟨w.heap.size,3,none⟩) (by simp;omega)];simp
 have d2:w1.cell? ⟨w.heap.size+1,3,none⟩=some (.slice B m cb):=by rw [aa.below.cell (p:=⟨w.heap.size+1,3,none⟩) (by simp)];simp
 clear aa;by_cases h0:r=0
 ·subst h0
  have HE:Hid (c=z):=z_ (by rw [HC.out];simp);go_wp2_with fail
  refine (HL.out _ ab).mono ?_;rintro e w2 ⟨rfl,hb2⟩;have ac:=ab.trans (hb2.mono ab.below.size);clear hb2;go_wp2;go_ret;exact ⟨qaa HE.out.symm,ac⟩
 ·have HE:Hid (c=r):=z_ (by rw [HC.out,if_pos h0])
  go_wp2;go_ret;exact ⟨qaa HE.out.symm,ab⟩
end termx

namespace bndl
open mem rowl trm terml termb termt
structure BindM where
 v:TermM
 t:TermM
instance:Inhabited BindM:=⟨⟨default,default⟩⟩
abbrev aggB (b:BindM)(va vb:Value):Value:=.agg #[.int .i64 b.v.op,.string (bstr b.v.name),.int .i64 b.v.sort,va,.int .i64 b.t.op,.string (bstr b.t.name),.int .i64 b.t.sort,vb]
def RB (n:Nat):qhd BindM:=fun lo w cs b=>∃ va vb,cs=[.int .i64 b.v.op,.string (bstr b.v.name),.int .i64 b.v.sort,va,.int .i64 b.t.op,.string (bstr b.t.name),.int .i64 b.t.sort,vb]∧HasTs n lo w va b.v.args∧HasTs n lo w vb b.t.args∧Bnd b.v∧Bnd b.t
theorem qav (n:Nat):Steady (RB n):=
 ⟨fun ⟨va,vb,e,h1,h2,r⟩ hk=>⟨va,vb,e,h1.kept (qa8 n) hk,h2.kept (qa8 n) hk,r⟩,fun ⟨va,vb,e,h1,h2,r⟩ hl=>⟨va,vb,e,h1.mono (qa8 n) hl,h2.mono (qa8 n) hl,r⟩⟩
abbrev HasBs (n lo:Nat)(w:World)(v:Value)(L:List BindM):Prop:=HasR (RB n) 8 lo w v L
theorem HasBs.up {n m:Nat}(h:n≤m){lo:Nat}{w:World}{v:Value}{L:List BindM}(hr:HasBs n lo w v L):HasBs m lo w v L:=
 hr.map (fun ⟨va,vb,e,h1,h2,r⟩=>⟨va,vb,e,h1.up h,h2.up h,r⟩)
theorem HasBs.below {n lo:Nat}{w w':World}{v:Value}{L:List BindM}(h:HasBs n lo w v L){B:Nat}(hB:w.heap.size≤B)(hb:Below B w w'):HasBs n lo w' v L:=HasR.below (qav n) h hB hb
def Cells8 (w:World)(g p:Nat)(b:BindM)(A1:Option Addr)(c1:Nat)(A2:Option Addr)(c2:Nat):Prop:=
 (w.cell? ⟨g,p,none⟩=some (.int .i64 b.v.op)∧w.cell? ⟨g,p+1,none⟩=some (.string (bstr b.v.name))∧w.cell? ⟨g,p+2,none⟩=some (.int .i64 b.v.sort)∧w.cell? ⟨g,p+3,none⟩=some (.slice A1 b.v.args.length c1))∧
 (w.cell? ⟨g,p+4,none⟩=some (.int .i64 b.t.op)∧w.cell? ⟨g,p+5,none⟩=some (.string (bstr b.t.name))∧w.cell? ⟨g,p+6,none⟩=some (.int .i64 b.t.sort)∧w.cell? ⟨g,p+7,none⟩=some (.slice A2 b.t.args.length c2))
theorem Cells8.below {w w':World}{g p:Nat}{b:BindM}{A1:Option Addr}{c1:Nat}{A2:Option Addr}{c2:Nat}(h:Cells8 w g p b A1 c1 A2 c2)(hb:Below w.heap.size w w'):Cells8 w' g p b A1 c1 A2 c2:=by
 obtain ⟨⟨h0,h1,h2,h3⟩,h4,h5,h6,h7⟩:=h;have k:∀ {o:Nat} {v:Value},w.cell? ⟨g,o,none⟩=some v→w'.cell? ⟨g,o,none⟩=some v:=fun {o v} h=>(hb.cell (p:=⟨g,o,none⟩) (World.block_lt_of_cell? w _ h)).trans h
 exact ⟨⟨k h0,k h1,k h2,k h3⟩,k h4,k h5,k h6,k h7⟩
theorem qe3 {n lo:Nat}{w:World}{A:Option Addr}{m c:Nat}{L:List BindM}(h:HasBs n lo w (.slice A m c) L){j:Nat}(hj:j<m):
  ∃ (g o:Nat) (A1:Option Addr) (c1:Nat) (A2:Option Addr) (c2:Nat),A=some ⟨g,o,none⟩∧g<w.heap.size∧Cells8 w g (o+j*8) (L.getD j default) A1 c1 A2 c2∧
   HasTs n lo w (.slice A1 (L.getD j default).v.args.length c1) (L.getD j default).v.args∧HasTs n lo w (.slice A2 (L.getD j default).t.args.length c2) (L.getD j default).t.args∧Bnd (L.getD j default).v∧Bnd (L.getD j default).t:=by
 obtain ⟨g,o,cs,e,hl,hg,hc,va,vb,aa,h1,h2,h3,h4⟩:=h.get hj;subst aa;obtain ⟨A1,c1,rfl,ab⟩:=HasR.shape h1 rfl;obtain ⟨A2,c2,rfl,ac⟩:=HasR.shape h2 rfl;exact ⟨g,o,A1,c1,A2,c2,e,hg,⟨⟨hc 0 o_,hc 1 o_,hc 2 o_,hc 3 o_⟩,hc 4 o_,hc 5 o_,hc 6 o_,hc 7 o_⟩,ab,ac,h3,h4⟩
noncomputable def bsz (L:List BindM):Nat:=(L.map fun b=>1+sizes b.v.args+sizes b.t.args).sum
theorem qqe {L:List BindM}{k:Nat}(h:k<L.length):bsz (L.take (k+1))=bsz (L.take k)+(1+sizes (L.getD k default).v.args+sizes (L.getD k default).t.args):=by
 rw [List.take_succ_eq_append_getElem h];have:L.getD k default=L[k]:=by simp [List.getD,h]
 rw [this];simp only [bsz,List.map_append,List.map_cons,List.map_nil,List.sum_append,List.sum_cons,List.sum_nil];omega
theorem qku (L:List BindM):L.length≤bsz L:=by
 induction L with
 | nil=>simp
 | cons a l ih=>simp only [bsz,List.map_cons,List.sum_cons,List.length_cons] at ih ⊢;omega
theorem qu2 {L:List BindM}:∀ {j:Nat},j<L.length→1+sizes (L.getD j default).v.args+sizes (L.getD j default).t.args≤bsz L:=by
 induction L with
 | nil=>intro j h;simp at h
 | cons a l ih=>
  intro j h;simp only [bsz,List.map_cons,List.sum_cons] at ih ⊢;cases j with
  | zero=>simp
  | succ j=>
   have:=ih (j:=j) (by simpa using h);rw [List.getD_cons_succ];omega
end bndl

namespace bndc
open mem rowl trm terml termb termt termx bndl
theorem qj8 {w:World}{x:Nat}{v0 v1 v2 v3 v4 v5 v6 v7:Value}{t:TypeId}(h:w.heap[x]? =some (.cells #[v0,v1,v2,v3,v4,v5,v6,v7] t (0,0))):(w.cell? ⟨x,0,none⟩=some v0∧w.cell? ⟨x,1,none⟩=some v1∧w.cell? ⟨x,2,none⟩=some v2∧w.cell? ⟨x,3,none⟩=some v3)∧w.cell? ⟨x,4,none⟩=some v4∧w.cell? ⟨x,5,none⟩=some v5∧w.cell? ⟨x,6,none⟩=some v6∧w.cell? ⟨x,7,none⟩=some v7:=
 ⟨⟨h_ w x 0 _ _ _ h,h_ w x 1 _ _ _ h,h_ w x 2 _ _ _ h,h_ w x 3 _ _ _ h⟩,h_ w x 4 _ _ _ h,h_ w x 5 _ _ _ h,h_ w x 6 _ _ _ h,h_ w x 7 _ _ _ h⟩
set_option maxRecDepth 20000 in
set_option maxHeartbeats 2000000 in
theorem qxm {n:Nat}(a b:BindM)(va vb:Value)(U:Option Addr)(m c:Nat)(U':Option Addr)(m' c':Nat)(w:World){lo lo':Nat}(ha:HasTs n lo w va a.v.args)(hb:HasTs n lo' w vb b.v.args)(hsz:sizes a.v.args≤2097152):
  Calls Tryz.prog 92 #[aggB a va (.slice U m c),aggB b vb (.slice U' m' c')] w fun e w'=>e=.returned (.int .i64 (cmp a.v b.v))∧GB w.heap.size w w':=by
 obtain ⟨A,ca,rfl,_⟩:=HasR.shape ha rfl;obtain ⟨B,cb,rfl,_⟩:=HasR.shape hb rfl;have HC:=z_ (fun W (hW:GB w.heap.size w W)=>qf6 a.v b.v _ _ W (ha.below n_ hW.below) (hb.below n_ hW.below) hsz);unfold aggB;unfold aggT at HC;obtain ⟨z,hz⟩:=e_ (cmp a.v b.v);obtain ⟨ka,aa⟩:=e_ (a.v.args.length);obtain ⟨kb,ab⟩:=e_ (b.v.args.length);rw [← hz] at HC ⊢;rw [← aa,← ab] at HC ⊢;clear ha hb hsz hz aa ab;go_enter Tryz.func92,Tryz.ntmps92
 go_wp2_with fail
 refine (HC.out _ (((GB.refl _ _).alloc n_ _).alloc (by simp) _)).mono ?_;rintro e w1 ⟨rfl,ac⟩;have ad:GB w.heap.size w w1:=((((GB.refl _ _).alloc n_ _).alloc (by simp) _)).trans (ac.mono (by simp;omega));clear ac;go_wp2;go_ret;exact ⟨rfl,ad⟩
end bndc

namespace gramo
set_option maxRecDepth 20000
open mem rowl trm trmv terml termb termt sigi
abbrev aggE (nm:List UInt8)(A:Option Addr)(n c:Nat)(a b:Bool)(u:Int)(i s0 s1 s2 s3 s4:Nat):Value:=.agg #[.string (bstr nm),.slice A n c,.bool a,.bool b,.int .i64 u,.int .i64 (i:Int),.int .i64 (s0:Int),.int .u16 (s1:Int),.int .u16 (s2:Int),.int .u16 (s3:Int),.int .u16 (s4:Int)]
theorem c40_ {p:Prop}(h:p:=by
 go_enter Tryz.func190,Tryz.ntmps190
 go_wp2;go_ret;exact ⟨qa0 (by rw [← HB.out];try simp),b_.alloc n_ _⟩
):p:=h
theorem quw (nm:List UInt8)(A:Option Addr)(n c:Nat)(a b:Bool)(u:Int)(i s0 s1 s2 s3 s4 m:Nat)(hm:m≤9223372036854775807)(r:Bool)(hr:(if a then decide (2≤m) else decide (m=s0))=r)(w:World):
  Calls Tryz.prog 190 #[aggE nm A n c a b u i s0 s1 s2 s3 s4,.int .i64 m] w fun e w'=>e=.returned (.bool r)∧Below w.heap.size w w':=by
 have HR:=z_ hr;clear hr;cases a with
 | true=>
  have HB:Hid (decide ((2:Int)≤(m:Int))=r):=z_ (by rw [← HR.out,if_pos rfl,Bool.eq_iff_iff];simp;omega);exact c40_
 | false=>
  have HB:Hid (((m:Int)==(s0:Int))=r):=z_ (by rw [← HR.out,if_neg (by simp),Bool.eq_iff_iff];simp;omega);exact c40_
def kAtS (a:Bool)(s:Shp)(k:Nat):Nat:=if a then s.2.1 else match k with|0=>s.2.1|1=>s.2.2.1|_=>s.2.2.2.1
theorem qsk (nm:List UInt8)(A:Option Addr)(n c:Nat)(a b:Bool)(u:Int)(i s0 s1 s2 s3 s4 k:Nat)(hk:a=false→k<3)(w:World):
  Calls Tryz.prog 192 #[aggE nm A n c a b u i s0 s1 s2 s3 s4,.int .i64 k] w fun e w'=>e=.returned (.int .u16 ((kAtS a (s0,s1,s2,s3,s4) k:Nat):Int))∧Below w.heap.size w w':=by
 cases a with
 | true=>
  go_enter Tryz.func192,Tryz.ntmps192
  go_wp2;go_ret;exact ⟨rfl,b_.alloc n_ _⟩
 | false=>
  have hk:=hk rfl;have hcs:k=0∨k=1∨k=2:=o_;rcases hcs with rfl|rfl|rfl
  all_goals
   go_enter Tryz.func192,Tryz.ntmps192
   go_wp2;go_ret;exact ⟨rfl,b_.alloc n_ _⟩
theorem qih (nm:List UInt8)(A:Option Addr)(n c:Nat)(a b:Bool)(u:Int)(i s0 s1 s2 s3 s4:Nat)(r:Bool)(hr:decide (u≠0)=r)(w:World):
  Calls Tryz.prog 201 #[aggE nm A n c a b u i s0 s1 s2 s3 s4] w fun e w'=>e=.returned (.bool r)∧Below w.heap.size w w':=by
 have HB:Hid ((!(u==0))=r):=z_ (by rw [← hr,Bool.eq_iff_iff];simp);clear hr;go_enter Tryz.func201,Tryz.ntmps201
 go_wp2;go_ret;exact ⟨qa0 (by rw [← HB.out];rfl),b_.alloc n_ _⟩
theorem qy5 (nm:List UInt8)(A:Option Addr)(n c:Nat)(a b:Bool)(u:Int)(hu:I64 u)(aa:0≤u)(i s0 s1 s2 s3 s4:Nat)(w:World):
  Calls Tryz.prog 202 #[aggE nm A n c a b u i s0 s1 s2 s3 s4] w fun e w'=>e=.returned (.agg #[.int .i64 (u-1),.string { data:=#[] },.int .i64 0,.slice none 0 0])∧Below w.heap.size w w':=by
 obtain ⟨ab,ac⟩:=hu;have hw:IntKind.i64.wrap (u-1)=u-1:=IntWalk.i64_in _ o_;have ad:wrap64 (u-1)=u-1:=IntWalk.wrap64_in (u-1) o_;clear ab ac aa;go_enter Tryz.func202,Tryz.ntmps202
 go_wp2;refine bodyPost_ret (v:=.agg #[.int .i64 (u-1),.string { data:=#[] },.int .i64 0,.slice none 0 0]) (by simp [results,Tryz.results202,go_sem]) rfl ⟨rfl,?_⟩;repeat (first|(refine Below.setCell ?_ (by first|(simp;done)|(simp;omega)) _)|(refine Below.alloc ?_ (by first|(simp;done)|(simp;omega)) _))
 exact Below.refl _ _
theorem qjq (nm:List UInt8)(A:Option Addr)(n c:Nat)(a b:Bool)(u:Int)(hu:I64 u)(ac:0≤u)(i s0 s1 s2 s3 s4:Nat)(t:TermM)(B:Option Addr)(m cb:Nat)(r:Bool)(hr:decide (u≠0∧t.op=u-1)=r)(w:World):
  Calls Tryz.prog 194 #[aggE nm A n c a b u i s0 s1 s2 s3 s4,.agg #[.int .i64 t.op,.string (bstr t.name),.int .i64 t.sort,.slice B m cb]] w fun e w'=>e=.returned (.bool r)∧Below w.heap.size w w':=by
 have HU:=z_ (fun r hr W=>qih nm A n c a b u i s0 s1 s2 s3 s4 r hr W);obtain ⟨ad,ae⟩:=hu;have af:∀ w:World,∀ o1 o2:Obj,Below w.heap.size w ((w.alloc o1).alloc o2):=fun w o1 o2=>(b_.alloc n_ _).alloc (by simp) _
 have hw:IntKind.i64.wrap (u-1)=u-1:=IntWalk.i64_in _ o_;by_cases h0:u=0
 ·have HR:Hid (r=false):=z_ (by rw [← hr];exact decide_eq_false (fun e=>e.1 h0))
  have ab:=z_ (HU.out false (decide_eq_false (fun e=>e h0)));clear hr HU h0 hw af ac ad ae;go_enter Tryz.func194,Tryz.ntmps194
  go_wp2_with fail
  refine (ab.out _).mono ?_;rintro e w1 ⟨rfl,aa⟩;go_wp2;go_ret;exact ⟨qa0 HR.out.symm,(((b_.alloc n_ _).alloc (by simp) _).trans (aa.mono (by simp;omega)))⟩
 ·have ab:=z_ (HU.out true (decide_eq_true h0))
  have HR:Hid ((t.op==u-1)=r):=z_ (by rw [← hr,Bool.eq_iff_iff];simp [h0]);clear hr HU h0 af ac ad ae;go_enter Tryz.func194,Tryz.ntmps194
  go_wp2_with fail
  refine (ab.out _).mono ?_;rintro e w1 ⟨rfl,aa⟩;have e1:w1.cell? ⟨w.heap.size,4,none⟩=some (.int .i64 u):=(aa.cell (p:=⟨w.heap.size,4,none⟩) (by simp;omega)).trans (by simp);have e2:w1.cell? ⟨w.heap.size+1,0,none⟩=some (.int .i64 t.op):=(aa.cell (p:=⟨w.heap.size+1,0,none⟩) (by simp)).trans (by simp);have ag:Below w.heap.size w w1:=(((b_.alloc n_ _).alloc (by simp) _).trans (aa.mono (by simp;omega)));clear aa;go_wp2;go_ret;exact ⟨qa0 (by rw [← HR.out];try rfl),ag⟩
theorem qii (nm:List UInt8)(A:Option Addr)(n c:Nat)(a b:Bool)(u:Int)(i s0 s1 s2 s3 s4:Nat)(t:TermM)(B:Option Addr)(m cb:Nat)(r:Bool)(hr:(a&&decide (t.op=i))=r)(w:World):
  Calls Tryz.prog 195 #[aggE nm A n c a b u i s0 s1 s2 s3 s4,.agg #[.int .i64 t.op,.string (bstr t.name),.int .i64 t.sort,.slice B m cb]] w fun e w'=>e=.returned (.bool r)∧Below w.heap.size w w':=by
 have aa:∀ o1 o2:Obj,Below w.heap.size w ((w.alloc o1).alloc o2):=fun o1 o2=>(b_.alloc n_ _).alloc (by simp) _
 have ab:=z_ aa;cases a with
 | false=>
  have HR:Hid (r=false):=z_ (by rw [← hr];rfl);clear hr aa;go_enter Tryz.func195,Tryz.ntmps195
  go_wp2;go_ret;exact ⟨qa0 HR.out.symm,ab.out _ _⟩
 | true=>
  have HR:Hid ((t.op==(i:Int))=r):=z_ (by rw [← hr,Bool.eq_iff_iff];simp);clear hr aa;go_enter Tryz.func195,Tryz.ntmps195
  go_wp2;go_ret;exact ⟨qa0 (by rw [← HR.out];try rfl),ab.out _ _⟩
theorem qsl (f:Nat)(ad cap:Array Value)(eg:∀ args w,(callFunc f args).run Tryz.prog w=.ok (.enter f args) w)(p:TermM→Bool){N lo:Nat}(L:List TermM)(v:Value)(w:World)(h:HasTs N lo w v L)
  (hp:∀ t∈L,∀ (B:Option Addr) (m cb:Nat) W,Below w.heap.size w W→Calls Tryz.prog f (ad.push (.agg #[.int .i64 t.op,.string (bstr t.name),.int .i64 t.sort,.slice B m cb])++cap) W fun e w'=>e=.returned (.bool (p t))∧Below W.heap.size W w'):
  Calls Tryz.prog 226 #[v,.func (.func f) ad cap] w fun e w'=>∃ i:Int,e=.returned (.int .i64 i)∧(0≤i↔L.any p=true)∧Below w.heap.size w w':=by
 obtain ⟨n,hn⟩:=e_ (L.length);obtain ⟨A,c,rfl,h⟩:=HasR.shape h hn.symm;have hl:=h.len.2.1;have HH:=z_ h;have HN:=z_ hn;have HP:=z_ hp;clear h hn hp;go_enter Tryz.func226,Tryz.ntmps226
 go_wp2;go_loopw [5,8] (fun _ i wr=>∃ k:Nat,k≤n∧i=.int .i64 k∧Hid (∀ j,j<k→p (L.getD j default)=false)∧Hid (Below w.heap.size w wr)) (fun _ i _=>n-(intOf i).toNat)
 case atStart=>exact ⟨0,y_,rfl,z_ (fun j hj=>by omega),z_ b_⟩
 case round=>
  obtain ⟨k,hk,rfl,ac,HB⟩:=hrel;by_cases hlt:k<n
  ·obtain ⟨_,g,o,A2,c2,_,rfl,_,hg,e0,e1,e2,e3,_,_⟩:=qaj HH.out hlt
   have aa:=HB.out;have s0:=(aa.cell (p:=⟨g,o+k*4,none⟩) hg).trans e0;have s1:=(aa.cell (p:=⟨g,o+k*4+1,none⟩) hg).trans e1;have s2:=(aa.cell (p:=⟨g,o+k*4+2,none⟩) hg).trans e2;have s3:=(aa.cell (p:=⟨g,o+k*4+3,none⟩) hg).trans e3;have ab:L.getD k default∈L:=by rw [qar (by have:=HN.out;omega)];exact List.getElem_mem _
   have HC:=z_ (HP.out (L.getD k default) ab A2 (L.getD k default).args.length c2 wr aa);have HX:Hid (p (L.getD k default)=true→L.any p=true):=z_ (fun hq=>List.any_eq_true.2 ⟨_,ab,hq⟩)
   have HG:Hid (p (L.getD k default)=false→∀ j,j<k+1→p (L.getD j default)=false):=z_ (fun hq j hj=>by
    by_cases e:j=k
    ·subst e;exact hq
    ·exact ac.out j o_)
   have i1:(0:Int)≤(k:Int):=o_;have i2:(k:Int)<(n:Int):=o_;obtain ⟨t,ht⟩:=e_ (L.getD k default);rw [← ht] at s0 s1 s2 s3 HC HX HG;obtain ⟨q,hq⟩:=e_ (p t);rw [← hq] at HC HX HG;clear e0 e1 e2 e3 aa ab ht hq;go_wp2_with fail
   refine HC.out.mono ?_;rintro e w1 ⟨rfl,ae⟩;have af:=z_ (HB.out.trans (ae.mono HB.out.size));clear ae s0 s1 s2 s3 HC;cases q with
   | true=>
    go_wp2;go_ret;exact ⟨(k:Int),rfl,⟨fun _=>HX.out trivial,fun _=>by omega⟩,af.out⟩
   | false=>
    have ag:=z_ (HG.out rfl);go_wp2;go_roundw
    case rel=>exact ⟨k+1,by omega,by go_num,ag,af⟩
    case measure=>simp [intOf];omega
  ·obtain rfl:k=n:=o_
   have HF:Hid (L.any p=false):=z_ (by
    rw [List.any_eq_false];intro t ht;obtain ⟨j,hj,rfl⟩:=List.getElem_of_mem ht;have:=ac.out j (by have:=HN.out;omega);rw [qar hj] at this
    simp [this])
   go_wp2;go_ret;exact ⟨-1,rfl,⟨fun h=>by omega,fun h=>(by rw [HF.out] at h;cases h)⟩,HB.out⟩
theorem qg1 (f:Nat)(aa cap:Array Value)(eg:∀ args w,(callFunc f args).run Tryz.prog w=.ok (.enter f args) w)(p:TermM→Bool){N lo:Nat}(L:List TermM)(v:Value)(w:World)(h:HasTs N lo w v L)
  (hp:∀ t∈L,∀ (B:Option Addr) (m cb:Nat) W,Below w.heap.size w W→Calls Tryz.prog f (aa.push (.agg #[.int .i64 t.op,.string (bstr t.name),.int .i64 t.sort,.slice B m cb])++cap) W fun e w'=>e=.returned (.bool (p t))∧Below W.heap.size W w') (r:Bool) (hr:L.any p=r):
  Calls Tryz.prog 193 #[v,.func (.func f) aa cap] w fun e w'=>e=.returned (.bool r)∧Below w.heap.size w w':=by
 have HC:=z_ (qsl f aa cap eg p L v w h hp);rw [hr] at HC;obtain ⟨A,c,rfl,_⟩:=HasR.shape h rfl;clear hr h hp;go_enter Tryz.func193,Tryz.ntmps193
 go_wp2_with fail
 refine HC.out.mono ?_;rintro e w1 ⟨i,rfl,hi,ab⟩;cases r with
 | true=>
  have hd:decide (0≤i)=true:=decide_eq_true (hi.2 rfl);have h0:0≤i:=hi.2 rfl;clear hi;go_wp2;go_ret;exact ⟨rfl,ab⟩
 | false=>
  have h0:¬ 0≤i:=fun h=>by have:=hi.1 h;cases this
  have hd:decide (0≤i)=false:=decide_eq_false h0;clear hi;go_wp2;go_ret;exact ⟨rfl,ab⟩
end gramo

namespace termz
open mem rowl trm terml termb termt
abbrev Ent:=Nat×Nat×Nat
def ptr (e:Ent):Value:=.pointer (some ⟨e.1,e.2.1,none⟩)
def qbd:List Ent→List Value
 | []=>[]
 | e::L=>qbd L++[ptr e,.int .i64 e.2.2]
theorem qbr:∀ L:List Ent,(qbd L).length=L.length*2
 | []=>rfl
 | p::R=>by simp [qbd,qbr R];omega
def kids (g o d:Nat):Nat→List Ent
 | 0=>[]
 | m+1=>(g,o+m*4,d)::kids g o d m
theorem qlf (g o d:Nat):∀ m,(kids g o d m).length=m
 | 0=>rfl
 | m+1=>by rw [kids,List.length_cons,qlf g o d m]
def qez (e:Ent):Value:=.agg #[ptr e,.int .i64 e.2.2]
structure Visits (vf:Nat) (cb:Array Value) (R:Nat→List Nat→List Ent→World→Prop):Prop where
 keep:∀ {n:Nat} {S S':List Nat} {L:List Ent} {w w':World},R n S L w→Chg S w w'→(∀ k∈S',(k∈S∨w.heap.size≤k)∧k<w'.heap.size)→R n S' L w'
 ent:∀ {n:Nat} {S:List Nat} {e:Ent} {L:List Ent} {w:World},R n S (e::L) w→e.1<w.heap.size∧e.1 ∉ S∧e.2.2≤1073741824∧n≤1073741824∧L.length≤1073741824
 visit:∀ {n:Nat} {S:List Nat} {e:Ent} {L:List Ent} {w:World},R n S (e::L) w→∃ n',n=n'+1∧
  Calls Tryz.prog vf (#[qez e]++cb) w fun ex w'=>∃ b,ex=.returned (.bool b)∧w.heap.size≤w'.heap.size∧(∀ k∈S,k<w.heap.size→w'.heap[k]? =w.heap[k]?)∧
   ((b=false∧R n' S L w')∨(b=true∧∃ A m c,w'.cell? ⟨e.1,e.2.1+3,none⟩=some (.slice A m c)∧m≤1073741824∧m≤c∧
    ∃ g o,(m≠0→A=some ⟨g,o,none⟩)∧R n' S (kids g o (e.2.2+1) m++L) w'))
theorem qsm:(Tryz.prog.info? 164).map (fun i=>(i.zero,i.size,i.bytes))=some (some (.agg #[.pointer none,.int .i64 0]),2,16):=by kernel_rfl
theorem qd5 {R:List Ent}{p:Ent}{k:Nat}(hk:k=R.length):(qbd (p::R))[k*2]? =some (ptr p)∧(qbd (p::R))[k*2+1]? =some (.int .i64 p.2.2):=by
 have h:=qbr R;rw [qbd,hk];refine ⟨?_,?_⟩
 ·rw [List.getElem?_append_right o_,h,Nat.sub_self];rfl
 ·rw [List.getElem?_append_right o_,h,Nat.add_sub_cancel_left];rfl
theorem qg2 {R:List Ent}{p:Ent}{k:Nat}(hk:k=R.length):(qbd (p::R)).take (k*2)=qbd R:=by
 have h:=qbr R;rw [qbd,hk,List.take_append_of_le_length o_,List.take_of_length_le o_]
theorem qqy (w:World)(u v:Value)(t:TypeId)(b:Nat)(h:b=w.heap.size):∀ (j:Nat) (x:Value),[u,v][j]? =some x→(w.alloc (.cells #[u,v] t)).cell? ((⟨b,0,none⟩:Addr).add j)=some x:=by
 subst h;exact termx.qe2 w u v t
theorem qy6 {w w':World}{base n g cap:Nat}{e:TypeId}{size:Nat}{xs:List Value}(h:w.ownsRow base e size (.slice (some ⟨g,0,none⟩) n cap) n xs)(hb:w'.heap[g]? =w.heap[g]?):w'.ownsRow base e size (.slice (some ⟨g,0,none⟩) n cap) n xs:=by
 refine ⟨h.1,?_⟩;rcases h.2 with h2|⟨g',cap',cur,hv,hg,hh,r⟩
 ·exact .inl h2
 ·have e:=hv
  simp only [Value.slice.injEq,Option.some.injEq,Addr.mk.injEq,and_true,true_and] at e;obtain ⟨rfl,rfl⟩:=e;exact .inr ⟨g,cap,cur,rfl,hg,by rw [hb];exact hh,r⟩
theorem qe9 {w:World}{base n g cap:Nat}{e:TypeId}{size:Nat}{xs:List Value}(h:w.ownsRow base e size (.slice (some ⟨g,0,none⟩) n cap) n xs):base≤g∧g<w.heap.size∧n≤cap:=by
 rcases h.2 with ⟨hv,_⟩|⟨g',cap',cur,hv,hb,hg,hc,_⟩
 ·cases hv
 ·simp only [Value.slice.injEq,Option.some.injEq,Addr.mk.injEq,and_true,true_and] at hv
  obtain ⟨rfl,rfl⟩:=hv;exact ⟨hb,(q_ hg),hc⟩
theorem qy7 {wr w0 w1:World}{x gx ox g5:Nat}{v0 v1 v2:Value}(h:(w0.cell? ⟨x,0,none⟩=some v0∧w0.cell? ⟨x,1,none⟩=some v1∧w0.cell? ⟨gx,ox,none⟩=some v2)∧Chg [g5] wr w0)(hx:x<wr.heap.size)(hg:gx<wr.heap.size)(hb:Below w0.heap.size w0 w1):
  (w1.cell? ⟨x,0,none⟩=some v0∧w1.cell? ⟨x,1,none⟩=some v1∧w1.cell? ⟨gx,ox,none⟩=some v2)∧Chg [g5] wr w1:=by
 have hs:=h.2.size;have k:∀ y,w1.cell? ⟨x,y,none⟩=w0.cell? ⟨x,y,none⟩:=fun y=>hb.cell (p:=⟨x,y,none⟩) (by show x<_;omega)
 rw [k,k,hb.cell (p:=⟨gx,ox,none⟩) (by show gx<_;omega)];exact ⟨h.1,h.2.trans (Chg.of_below hb)⟩
theorem qAr {wr W w4:World}{x gx ox g5:Nat}{v0 v1 v2:Value}(aa:W.grownBy w4 (some g5))(h0:W.cell? ⟨x,0,none⟩=some v0∧W.cell? ⟨x,1,none⟩=some v1∧W.cell? ⟨gx,ox,none⟩=some v2)(hc:Chg [g5] wr W)
  (ab:g5≠x∧g5≠gx) (hx:x<wr.heap.size) (hg:gx<wr.heap.size):
  (w4.cell? ⟨x,0,none⟩=some v0∧w4.cell? ⟨x,1,none⟩=some v1∧w4.cell? ⟨gx,ox,none⟩=some v2)∧Chg [g5] wr w4:=by
 have hs:=hc.size;have k:∀ y,w4.cell? ⟨x,y,none⟩=W.cell? ⟨x,y,none⟩:=fun y=>aa.cell_far ⟨x,y,none⟩ (by show x<_;omega) (by show some x≠some g5;intro e;injection e;omega)
 rw [k,k,aa.cell_far ⟨gx,ox,none⟩ (by show gx<_;omega) (by show some gx≠some g5;intro e;injection e;omega)];exact ⟨h0,hc.trans ⟨aa.os,aa.tape,aa.output,aa.size,fun k hk hn=>aa.block k hk (by intro e;injection e;simp at hn;omega)⟩⟩
set_option maxRecDepth 50000 in
set_option maxHeartbeats 8000000 in
theorem qqz (vf:Nat)(cb:Array Value)(eg:∀ args w,(callFunc vf args).run Tryz.prog w=.ok (.enter vf args) w)(R:Nat→List Nat→List Ent→World→Prop)(hV:Visits vf cb R)(n g0 o0:Nat)(w:World)(h:R n [] [(g0,o0,1)] w):
  Calls Tryz.prog 111 #[.pointer (some ⟨g0,o0,none⟩),.func (.func vf) #[] cb] w fun e w'=>e=.returned (.tuple #[])∧∃ n S,R n S [] w':=by
 have HV:=z_ hV;have HR:=z_ h;obtain ⟨j0,av,aw,ax,ay⟩:=info_parts qsm;obtain ⟨O,a7,af⟩:∃ O,(∀ W,(Instr.makeSlice 223 (.int .i64 0) (.int .i64 60)).run Tryz.prog W=.ok (.slice (some ⟨W.heap.size,0,none⟩) 0 60) (W.alloc O))∧∀ W:World,(W.alloc O).ownsRow W.heap.size 164 2 (.slice (some ⟨W.heap.size,0,none⟩) 0 60) 0 []:=by
  refine ⟨.cells (madeCells (Value.agg #[.pointer none,.int .i64 0]).cells ((60:Int).toNat*j0.size)) 164,fun W=>?_,fun W=>?_⟩
  ·exact run_make W _ _ _ _ Tryz.underlying223 av aw .i64 .i64 0 60 o_ o_ (by rw [ay];omega) o_
  ·exact World.ownsRow_made W _ 60 n_ (by unfold maxLen;omega) (by rw [size_madeCells,ax];rfl)
 have a8:=z_ (af w);clear hV h af;go_enter Tryz.func111,Tryz.ntmps111
 have aP:Hid (Below w.heap.size w (w.alloc O)):=z_ (b_.alloc n_ _);have az:(w.alloc O).heap.size=w.heap.size+1:=by simp
 go_wp2_with (at_builtin;refine qaw rfl _ _ _ rfl w.heap.size 164 j0 _ 2 16 Tryz.underlying223 av aw ax ay rfl o_ w.heap.size 0 60 [] rfl (qa2 a8.out (b_.alloc n_ _)) ⟨w.heap.size+1,0,none⟩ 1 1 [.pointer (some ⟨g0,o0,none⟩),.int .i64 1] rfl rfl (qqy _ _ _ _ _ (by simp)) (termx.qgg rfl rfl) (by unfold maxLen;omega) o_ (by simp;omega) ?_;intro g' cap' w1 ag ai hg1 aA aB)
 have hg2:w.heap.size≤g':=by
  rcases hg1 with h|h
  ·omega
  ·rw [h];simp;omega
 have ba:Hid (R n [g'] [(g0,o0,1)] w1):=z_ ((HV.out.keep HR.out (Chg.of_below ((aP.out.alloc (by simp) _).grown ai (by simp;omega) (by intro k hk;cases hk;exact Nat.le_refl _))) (fun k hk=>by
  simp at hk;subst hk;exact ⟨.inr hg2,aA⟩)))
 have bb:=z_ ag;clear ag ai hg1 aB aP az a7;go_wp2;go_loopg [4] n (fun gk v4 wr=>∃ (L:List Ent) (g k cap:Nat),v4=.slice (some ⟨g,0,none⟩) k cap∧Hid (k=L.length)∧Hid (R gk [g] L wr)∧Hid (wr.ownsRow w.heap.size 164 2 (.slice (some ⟨g,0,none⟩) k cap) k (qbd L)))
 case atStart=>exact ⟨[(g0,o0,1)],g',1,cap',rfl,z_ rfl,ba,bb⟩
 case round=>
  obtain ⟨L,g,k,cap,rfl,aC,aq,ad⟩:=hrel;cases L with
  | nil=>
   obtain rfl:k=0:=aC.out;have HF:Hid (∃ n S,R n S [] wr):=z_ ⟨_,_,aq.out⟩;go_wp2;go_end0
   exact ⟨rfl,HF.out⟩
  | cons e L=>
   obtain ⟨k',rfl⟩:∃ k',k=k'+1:=⟨L.length,by have:=aC.out;simpa using this⟩;have aj:Hid (k'=L.length):=z_ (by have:=aC.out;simpa using this);obtain ⟨bc,aQ,bd,bu,bv⟩:=HV.out.ent aq.out;obtain ⟨n',ak,ae⟩:=HV.out.visit aq.out;obtain ⟨bw,bx,bz⟩:=qe9 ad.out;obtain ⟨aR,aS⟩:=qd5 (p:=e) aj.out;have s1:=(ad.out.cellAt (k'*2) o_).trans aR;have s2:=(ad.out.cellAt (k'*2+1) o_).trans aS;have bA:k'≤1073741824:=by have:=aj.out;omega
   have aT:Hid (wr.ownsRow w.heap.size 164 2 (.slice (some ⟨g,0,none⟩) k' cap) k' (qbd L)):=z_ (by
    have h:=qek ad.out (m:=k') o_
    rwa [qg2 aj.out] at h)
   obtain ⟨ge,oe,de⟩:=e;unfold ptr at s1;simp only [] at s1 s2;have aU:=z_ (And.intro aQ ak);simp only [] at bc bd;clear aR aS aQ ak ae;obtain ⟨wo,be⟩:∃ wo,wo=wr:=⟨wr,rfl⟩;subst be;go_wp2_with fail
   have aD:(wo.alloc (.cells #[.pointer (some ⟨ge,oe,none⟩),.int .i64 de] 164)).heap[wo.heap.size]? =some (.cells #[.pointer (some ⟨ge,oe,none⟩),.int .i64 de] 164 (0,0)):=qa5 _ _ _ rfl;have au:Below wo.heap.size wo (wo.alloc (.cells #[.pointer (some ⟨ge,oe,none⟩),.int .i64 de] 164)):=b_.alloc n_ _;have aV:(wo.alloc (.cells #[.pointer (some ⟨ge,oe,none⟩),.int .i64 de] 164)).heap.size=wo.heap.size+1:=by simp
   have aE:Hid (R gk [g,wo.heap.size] ((ge,oe,de)::L) (wo.alloc (.cells #[.pointer (some ⟨ge,oe,none⟩),.int .i64 de] 164))):=z_ (HV.out.keep aq.out (Chg.of_below au) (fun k hk=>by
    simp at hk;rcases hk with rfl|rfl
    ·exact ⟨.inl (by simp),by omega⟩
    ·exact ⟨.inr n_,by omega⟩))
   have ah:=z_ (qa2 aT.out au);generalize wo.alloc (.cells #[.pointer (some ⟨ge,oe,none⟩),.int .i64 de] 164)=W1 at aD au aV aE ah ⊢
   obtain ⟨n',ak,ae⟩:=HV.out.visit aE.out;refine ae.mono ?_;rintro ex w2 ⟨b,rfl,aF,aa,al⟩;have hg2:w2.heap[g]? =W1.heap[g]? := aa g (by simp) o_;have aG:w2.heap[wo.heap.size]? =some (.cells #[.pointer (some ⟨ge,oe,none⟩),.int .i64 de] 164 (0,0)):=by rw [aa wo.heap.size (by simp) o_];exact aD
   have b0:=h_ w2 _ 0 _ _ _ aG;have b1:=h_ w2 _ 1 _ _ _ aG;have am:=z_ (qy6 ah.out hg2);have bf:wo.heap.size<w2.heap.size:=o_;have aH:g<w2.heap.size:=o_;have bg:ge<w2.heap.size:=o_;have aI:Hid (ge≠g∧ge≠wo.heap.size∧gk=n'+1):=z_ ⟨fun h=>aU.out.1 (by rw [h];simp),by omega,ak⟩;have aW:w.heap.size≤w2.heap.size:=o_;clear aD au aV aE ah aF aa hg2 aG aT aU ae ak s1 s2;rcases al with ⟨rfl,aX⟩|⟨rfl,A,m,c,aJ,hm30,hmc,g1,o1,hA,hRt⟩
   ·have bh:Hid (R n' [g] L w2):=z_ (HV.out.keep aX (Chg.refl _ _) (fun k hk=>by simp at hk;subst hk;exact ⟨.inl (by simp),aH⟩))
    clear aX;go_wp2;go_roundg n'
    case measure=>have:=aI.out;omega
    case rel=>exact ⟨L,g,k',cap,rfl,aj,bh,am⟩
   ·have bi:=z_ hRt
    have HA:=z_ hA;clear hRt hA;go_wp2
    go_loopw [4,36] (fun v4 bj wr=>∃ (j g5 k5 ab:Nat),v4=.slice (some ⟨g5,0,none⟩) k5 ab∧bj=.int .i64 j∧j≤m∧k5=j+k'∧Hid (R n' [g5,wo.heap.size] (kids g1 o1 (de+1) m++L) wr)∧Hid (wr.ownsRow w.heap.size 164 2 (.slice (some ⟨g5,0,none⟩) k5 ab) k5 (qbd (kids g1 o1 (de+1) j++L)))∧
      wr.cell? ⟨wo.heap.size,0,none⟩=some (.pointer (some ⟨ge,oe,none⟩))∧wr.cell? ⟨wo.heap.size,1,none⟩=some (.int .i64 de)∧wr.cell? ⟨ge,oe+3,none⟩=some (.slice A m c)∧w2.heap.size≤wr.heap.size∧Hid (g5≠wo.heap.size∧g5≠ge)) (fun _ i _=>m-(intOf i).toNat)
    case atStart=>exact ⟨0,g,k',cap,rfl,rfl,y_,by omega,bi,am,b0,b1,aJ,Nat.le_refl _,z_ ⟨by omega,fun h=>aI.out.1 h.symm⟩⟩
    case round=>
     clear b0 b1 aJ;obtain ⟨j,g5,k5,ab,rfl,rfl,hj,rfl,aY,aK,b0,b1,aJ,bk,aZ⟩:=hrel;obtain ⟨bl,aL,bm⟩:=qe9 aK.out;by_cases hlt:j<m
     ·have bn:=HA.out o_
      subst bn;have a2:wo.heap.size<wr.heap.size:=o_;have an:ge<wr.heap.size:=o_;have bB:w.heap.size≤wr.heap.size:=o_;have bC:(0:Int)≤(j:Int):=o_;have bD:(j:Int)<(m:Int):=o_;go_wp2_with fail
      go_region_held3 (fun w'=>(w'.cell? ⟨wo.heap.size,0,none⟩=some (.pointer (some ⟨ge,oe,none⟩))∧w'.cell? ⟨wo.heap.size,1,none⟩=some (.int .i64 de)∧w'.cell? ⟨ge,oe+3,none⟩=some (.slice (some ⟨g1,o1,none⟩) m c))∧Chg [g5] wr w')
       (first|assumption|(refine ⟨⟨?_,?_,?_⟩,Chg.of_below b_.drew⟩<;>assumption)|(go_split_ands;exact qy7 ⟨⟨by assumption,by assumption,by assumption⟩,by assumption⟩ a2 an (b_.alloc n_ _)))
       ((refine qbc (by rfl) _ _ _ (by rfl) w.heap.size 164 j0 _ 2 16 Tryz.underlying223 av aw ax ay rfl o_ g5 (j+k') ab (qbd (kids g1 o1 (de+1) j++L)) (by rfl) (qa2 aK.out (b_.alloc n_ _).drew) ⟨_,0,none⟩ 1 1 [.pointer (some ⟨g1,o1+j*4,none⟩),.int .i64 (IntKind.i64.wrap ((de:Int)+1))] (by rfl) (by rfl) (fun q x hq=>termx.qe2 wr _ _ _ q x hq) (termx.qgg rfl rfl) (by unfold maxLen;omega) o_ (by simp;omega) ?_;intro g4 ao w4 ac ap hg4 aM aN;have a6:=qAr ap (by go_split_ands;exact ⟨by assumption,by assumption,by assumption⟩) (by go_split_ands;assumption) aZ.out a2 an))
      all_goals
       have aO:=a6.2;have bE:=aO.size
       have bo:Hid (w4.ownsRow w.heap.size 164 2 (.slice (some ⟨g4,0,none⟩) (j+k'+1) ao) (j+k'+1) (qbd (kids g1 o1 (de+1) (j+1)++L))):=z_ (by
        have bp:IntKind.i64.wrap ((de:Int)+1)=((de+1:Nat):Int):=by simp only [IntKind.wrap,IntKind.bits,IntKind.signed];simp;omega
        rw [bp] at ac
        exact ac)
       have bq:Hid (R n' [g4,wo.heap.size] (kids g1 o1 (de+1) m++L) w4):=z_ (HV.out.keep aY.out (aO.mono (fun q hq=>by simp at hq;subst hq;simp)) (fun q hq=>by
        simp at hq;rcases hq with rfl|rfl
        ·refine ⟨?_,aM⟩
         rcases hg4 with h|h
         ·exact .inl (by rw [h];simp)
         ·exact .inr (by rw [h];simp)
        ·exact ⟨.inl (by simp),by omega⟩))
       have br:Hid (g4≠wo.heap.size∧g4≠ge):=z_ (by
        rcases hg4 with h|h
        ·rw [h];exact aZ.out
        ·rw [h];simp;omega)
       obtain ⟨⟨c0,c1,c2⟩,_⟩:=a6;clear ac ap hg4 aO aN;go_wp2;go_roundw
       case rel=>exact ⟨j+1,g4,j+k'+1,ao,rfl,by go_num,by omega,by omega,bq,bo,c0,c1,c2,by omega,br⟩
       case measure=>simp [intOf];omega
     ·obtain rfl:j=m:=o_
      have bs:Hid (R n' [g5] (kids g1 o1 (de+1) j++L) wr):=z_ (HV.out.keep aY.out (Chg.refl _ _) (fun q hq=>by simp at hq;subst hq;exact ⟨.inl (by simp),aL⟩));have bt:Hid (j+k'=(kids g1 o1 (de+1) j++L).length):=z_ (by rw [List.length_append,qlf,← aj.out]);go_wp2;go_roundg n'
      case measure=>have:=aI.out;omega
      case rel=>exact ⟨kids g1 o1 (de+1) j++L,g5,j+k',ab,rfl,bt,bs,aK⟩
end termz

namespace termro
open mem rowl trm trmv terml termt termz
abbrev Pend:=List (TermM×Nat)
noncomputable def qd0:Pend→Nat
 | []=>0
 | p::T=>size p.1+qd0 T
def qAs (N lo:Nat)(W:World)(e:Ent)(p:TermM×Nat):Prop:=e.2.2=p.2∧p.2+depth p.1≤1073741824∧e.1<W.heap.size∧W.cell? ⟨e.1,e.2.1,none⟩=some (.int .i64 p.1.op)∧W.cell? ⟨e.1,e.2.1+1,none⟩=some (.string (bstr p.1.name))∧
 W.cell? ⟨e.1,e.2.1+2,none⟩=some (.int .i64 p.1.sort)∧∃ v,W.cell? ⟨e.1,e.2.1+3,none⟩=some v∧HasTs N lo W v p.1.args∧Bnd p.1
def AllE (Q:Ent→TermM×Nat→Prop):List Ent→Pend→Prop
 | [],[]=>True
 | e::L,p::T=>Q e p∧AllE Q L T
 | _,_=>False
theorem AllE.append {Q:Ent→TermM×Nat→Prop}:∀ {L M:List Ent} {T U:Pend},AllE Q L T→AllE Q M U→AllE Q (L++M) (T++U)
 | [],_,[],_,_,h=>h
 | _::_,_,_::_,_,⟨a,b⟩,h=>⟨a,AllE.append b h⟩
 | [],_,_::_,_,h,_=>h.elim
 | _::_,_,[],_,h,_=>h.elim
theorem AllE.len {Q:Ent→TermM×Nat→Prop}:∀ {L:List Ent} {T:Pend},AllE Q L T→L.length=T.length
 | [],[],_=>rfl
 | _::_,_::_,⟨_,b⟩=>by rw [List.length_cons,List.length_cons,AllE.len b]
 | [],_::_,h=>h.elim
 | _::_,[],h=>h.elim
def kidsP (t:TermM)(d:Nat):Pend:=(t.args.map fun a=>(a,d+1)).reverse
theorem qcw:∀ T U:Pend,qd0 (T++U)=qd0 T+qd0 U
 | [],U=>by simp [qd0]
 | p::T,U=>by simp only [List.cons_append,qd0,qcw T U];omega
theorem qjr (t:TermM)(d:Nat):qd0 (kidsP t d)=sizes t.args:=by
 unfold kidsP;induction t.args with
 | nil=>rfl
 | cons a l ih=>rw [List.map_cons,List.reverse_cons,qcw,ih];simp only [qd0,sizes,List.map_cons,List.sum_cons];omega
theorem qao (t:TermM):size t=1+sizes t.args:=by cases t;exact qb7 _ _ _ _
theorem qan (t:TermM):depth t=depths t.args+1:=by cases t;exact qeh _ _ _ _
theorem qg3 {l:List TermM}{a:TermM}(h:a∈l):depth a≤depths l:=by
 induction l with
 | nil=>simp at h
 | cons b l ih=>
  have e:depths (b::l)=max (depth b) (depths l):=rfl;rcases List.mem_cons.1 h with rfl|h
  ·omega
  ·have:=ih h;omega
theorem qea:∀ T:Pend,T.length≤qd0 T
 | []=>Nat.le_refl _
 | p::T=>by have:=qea T;have:=qko p.1;simp only [List.length_cons,qd0];omega
theorem qux {N lo:Nat}{W:World}{A:Option Addr}{m c:Nat}{l:List TermM}{d:Nat}(h:HasTs N lo W (.slice A m c) l)(hd:d+1+depths l≤1073741824):
  ∃ g o,(m≠0→A=some ⟨g,o,none⟩)∧AllE (qAs N lo W) (kids g o (d+1) m) ((l.map fun a=>(a,d+1)).reverse):=by
 have hm:=h.len.1;by_cases h0:m=0
 ·subst h0
  have:l=[]:=List.eq_nil_of_length_eq_zero hm.symm;subst this;exact ⟨0,0,fun h=>absurd rfl h,trivial⟩
 ·obtain ⟨k,g,o,A2,c2,hk,rfl,_⟩:=qaj h (j:=0) o_
  refine ⟨g,o,fun _=>rfl,?_⟩;have ac:∀ q,q≤m→AllE (qAs N lo W) (kids g o (d+1) q) (((l.take q).map fun a=>(a,d+1)).reverse):=by
   intro q;induction q with
   | zero=>intro _;simp [kids,AllE]
   | succ q ih=>
    intro hq;obtain ⟨k',g',o',A3,c3,ag,eA,_,ad,c0,c1,ae,af,hh,hb⟩:=qaj h (j:=q) o_;simp only [Option.some.injEq,Addr.mk.injEq,and_true] at eA;obtain ⟨rfl,rfl⟩:=eA;have aa:q<l.length:=o_;rw [List.take_succ_eq_append_getElem aa,List.map_append,List.reverse_append];simp only [List.map_cons,List.map_nil,List.reverse_cons,List.reverse_nil,List.nil_append,List.singleton_append];rw [← qar aa];have ab:l.getD q default∈l:=by rw [qar aa];exact List.getElem_mem aa
    have ah:=qg3 ab;exact ⟨⟨rfl,by simp only [];omega,ad,c0,c1,ae,_,af,hh.up o_,hb⟩,ih o_⟩
  have:=ac m n_;rwa [List.take_of_length_le o_] at this
structure ROState (J:Pend→List Nat→World→Prop):Prop where
 same:∀ {T:Pend} {F:List Nat} {w w':World},J T F w→(∀ k∈F,w'.heap[k]? =w.heap[k]?)→J T F w'
 lt:∀ {T:Pend} {F:List Nat} {w:World},J T F w→∀ k∈F,k<w.heap.size
end termro

namespace frm
open trm terml termro
def allN (R:TermM→Prop)(t:TermM):Prop:=
 TermM.rec (motive_1:=fun _=>Prop) (motive_2:=fun _=>Prop) (fun o n s l h=>R (.mk o n s l)∧h) True (fun _ _ p q=>p∧q) t
theorem qgq (R:TermM→Prop)(o:Int)(n:List UInt8)(s:Int)(l:List TermM):allN R (.mk o n s l)↔R (.mk o n s l)∧∀ a∈l,allN R a:=by
 have:∀ l:List TermM,(TermM.rec_1 (motive_1:=fun _=>Prop) (motive_2:=fun _=>Prop) (fun o n s l h=>R (.mk o n s l)∧h) True (fun _ _ p q=>p∧q) l:Prop)↔∀ a∈l,allN R a:=by
  intro l;induction l with
  | nil=>simp
  | cons a l ih=>
   rw [List.forall_mem_cons,← ih];rfl
 rw [← this];rfl
theorem qbn (R:TermM→Prop)(t:TermM):allN R t↔R t∧∀ a∈t.args,allN R a:=by cases t;exact qgq _ _ _ _ _
abbrev wide:TermM→Prop:=allN fun t=>t.args.length≤7
def LimT (t:TermM):Prop:=size t≤60∧depth t≤20∧wide t
def LimP (T:Pend):Prop:=∀ p∈T,p.2-1+depth p.1≤20∧wide p.1
theorem qil {l:List TermM}{k:Nat}:depths l≤k↔∀ a∈l,depth a≤k:=by
 induction l with
 | nil=>simp [depths]
 | cons a l ih=>
  have e:depths (a::l)=max (depth a) (depths l):=rfl;rw [e,List.forall_mem_cons,← ih];omega
theorem quy {t:TermM}{d:Nat}{T:Pend}(h1:1≤d)(h2:d≤20)(h3:t.args.length≤7):LimP ((t,d)::T)↔LimP (kidsP t d++T):=by
 unfold LimP;rw [List.forall_mem_cons,List.forall_mem_append];refine and_congr ?_ Iff.rfl;have e:(∀ p∈kidsP t d,p.2-1+depth p.1≤20∧wide p.1)↔∀ a∈t.args,d+depth a≤20∧wide a:=by
  unfold kidsP;simp only [List.mem_reverse,List.mem_map];constructor
  ·intro h a ha;exact h _ ⟨a,ha,rfl⟩
  ·rintro h _ ⟨a,ha,rfl⟩;exact h a ha
 rw [e];have hd:=qan t;show d-1+depth t≤20∧wide t↔_;unfold wide;rw [qbn,hd];constructor
 ·rintro ⟨q1,_,q2⟩ a ha
  have:=qg3 ha;exact ⟨by omega,q2 a ha⟩
 ·intro h
  refine ⟨?_,h3,fun a ha=>(h a ha).2⟩;have:depths t.args≤20-d:=qil.2 (fun a ha=>by have:=(h a ha).1;omega);omega
theorem qAt {t:TermM}{d:Nat}{T:Pend}(h:¬ (d≤20∧t.args.length≤7)):¬ LimP ((t,d)::T):=by
 intro hp;obtain ⟨q1,q2⟩:=hp (t,d) (by simp);have hd:=qan t;have aa:d-1+depth t≤20:=q1;have q3:=((qbn _ t).1 q2).1;exact h ⟨by omega,q3⟩
end frm

namespace termvo
open mem rowl trm terml termb termt termv
open termx (aggT)
theorem qli {n m:Nat}(t u:TermM)(va vb:Value)(w:World){lo lo':Nat}(ha:HasTs n lo w va t.args)(hb:HasTs m lo' w vb u.args)(r:Bool)(hr:decide (cmp t u=0)=r):
  Calls Tryz.prog 58 #[aggT t va,aggT u vb] w fun e w'=>e=.returned (.bool r)∧Below w.heap.size w w':=by
 obtain ⟨A,ca,rfl,_⟩:=HasR.shape ha rfl;obtain ⟨B,cb,rfl,_⟩:=HasR.shape hb rfl;have HL:=z_ (fun W (hW:Below w.heap.size w W)=>qhj t u _ _ W (ha.below n_ hW) (hb.below n_ hW));obtain ⟨c,hc⟩:=e_ (cmp t u);rw [← hc] at hr HL;unfold aggT;obtain ⟨k,hk⟩:=e_ (t.args.length);obtain ⟨m,hm⟩:=e_ (u.args.length);rw [← hk] at HL ⊢;rw [← hm] at HL ⊢;have ac:Hid (r=(c==0)):=z_ (by rw [← hr,Bool.eq_iff_iff];simp);clear ha hb hc hk hm hr;go_enter Tryz.func58,Tryz.ntmps58
 go_wp2_with fail
 have aa:Below w.heap.size w ((w.alloc (.cells #[.int .i64 t.op,.string (bstr t.name),.int .i64 t.sort,.slice A k ca] 38)).alloc (.cells #[.int .i64 u.op,.string (bstr u.name),.int .i64 u.sort,.slice B m cb] 38)):=(b_.alloc n_ _).alloc (by simp) _;refine (HL.out _ aa).mono ?_;rintro e w2 ⟨rfl,hb2⟩;have ab:=aa.trans (hb2.mono aa.size);clear hb2 aa;go_wp2;go_ret;exact ⟨qa0 ac.out.symm,ab⟩
end termvo

namespace bnds

end bnds
end Go.Proofs.YtiilamngcoegiaaGreat
