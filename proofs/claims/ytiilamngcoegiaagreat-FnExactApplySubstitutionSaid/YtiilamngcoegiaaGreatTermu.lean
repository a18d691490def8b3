
import Derived.Test.YtiilamngcoegiaaGreatPk04
namespace Go.Proofs.YtiilamngcoegiaaGreat.termu
set_option maxRecDepth 20000
set_option maxHeartbeats 2000000
open Go.ChangeShapes Go.WideShapes Go.ChangeAt Go.RowKit
open mem dec rowl trm trmv terml termt
theorem qCr (o:Int)(n:List UInt8)(s:Int)(l:List TermM):(TermM.mk o n s l).op=o:=rfl
theorem qAm (o:Int)(n:List UInt8)(s:Int)(l:List TermM):(TermM.mk o n s l).name=n:=rfl
theorem qAn (o:Int)(n:List UInt8)(s:Int)(l:List TermM):(TermM.mk o n s l).sort=s:=rfl
theorem qAo (o:Int)(n:List UInt8)(s:Int)(l:List TermM):(TermM.mk o n s l).args=l:=rfl
def EqS (n:Nat):Prop:=∀ (L:List TermM) (va vb:Value) (w:World) (lo lo':Nat),HasTs n lo w va L→HasTs n lo' w vb L→
 Calls Tryz.prog 48 #[va,vb] w fun e w'=>e=.returned (.bool true)∧Below w.heap.size w w'
theorem qn1 {n:Nat}(hS:EqS n)(op:Int)(l:List UInt8)(s:Int)(L:List TermM)(va vb:Value)(w:World){lo lo':Nat}(ha:HasTs n lo w va L)(hb:HasTs n lo' w vb L):
  Calls Tryz.prog 15 #[.agg #[.int .i64 op,.string (bstr l),.int .i64 s,va],.agg #[.int .i64 op,.string (bstr l),.int .i64 s,vb]] w fun e w'=>e=.returned (.bool true)∧Below w.heap.size w w':=by
 have HE:=z_ (fun W (hW:Below w.heap.size w W)=>hS L va vb W lo lo' (ha.below n_ hW) (hb.below n_ hW));obtain ⟨A,ca,rfl,_⟩:=HasR.shape ha rfl;obtain ⟨B,cb,rfl,_⟩:=HasR.shape hb rfl;obtain ⟨k,hk⟩:=e_ (L.length);rw [← hk] at HE ⊢;clear ha hb hk;go_enter Tryz.func15,Tryz.ntmps15
 go_wp2_with fail
 refine (HE.out _ ((b_.alloc n_ _).alloc (by simp) _)).mono ?_;rintro e w1 ⟨rfl,aa⟩;have ab:Below w.heap.size w w1:=((b_.alloc n_ _).alloc (by simp) _).trans (aa.mono (by simp;omega));clear aa;go_wp2;go_ret;exact ⟨rfl,ab⟩
theorem qsi {wr w0 w1:World}{g g' o o':Nat}{a0 a1 a2 a3 b0 b1 b2 b3:Value}
  (h:(w0.cell? ⟨g,o,none⟩=some a0∧w0.cell? ⟨g,o+1,none⟩=some a1∧w0.cell? ⟨g,o+2,none⟩=some a2∧w0.cell? ⟨g,o+3,none⟩=some a3∧
   w0.cell? ⟨g',o',none⟩=some b0∧w0.cell? ⟨g',o'+1,none⟩=some b1∧w0.cell? ⟨g',o'+2,none⟩=some b2∧w0.cell? ⟨g',o'+3,none⟩=some b3)∧Below wr.heap.size wr w0)
  (hp:g<wr.heap.size∧g'<wr.heap.size) (hb:Below w0.heap.size w0 w1):
  (w1.cell? ⟨g,o,none⟩=some a0∧w1.cell? ⟨g,o+1,none⟩=some a1∧w1.cell? ⟨g,o+2,none⟩=some a2∧w1.cell? ⟨g,o+3,none⟩=some a3∧
   w1.cell? ⟨g',o',none⟩=some b0∧w1.cell? ⟨g',o'+1,none⟩=some b1∧w1.cell? ⟨g',o'+2,none⟩=some b2∧w1.cell? ⟨g',o'+3,none⟩=some b3)∧Below wr.heap.size wr w1:=by
 have hs:=h.2.size;have k:∀ x,w1.cell? ⟨g,x,none⟩=w0.cell? ⟨g,x,none⟩:=fun x=>hb.cell (p:=⟨g,x,none⟩) (by show g<_;omega)
 have k':∀ x,w1.cell? ⟨g',x,none⟩=w0.cell? ⟨g',x,none⟩:=fun x=>hb.cell (p:=⟨g',x,none⟩) (by show g'<_;omega)
 rw [k,k,k,k,k',k',k',k'];exact ⟨h.1,h.2.trans (hb.mono hs)⟩
theorem qow {wr w0 w1:World}{g o1 o2 o3:Nat}{a1 a2 a3:Value}(h:(w0.cell? ⟨g,o1,none⟩=some a1∧w0.cell? ⟨g,o2,none⟩=some a2∧w0.cell? ⟨g,o3,none⟩=some a3)∧Below wr.heap.size wr w0)
  (hp:g<wr.heap.size) (hb:Below w0.heap.size w0 w1):(w1.cell? ⟨g,o1,none⟩=some a1∧w1.cell? ⟨g,o2,none⟩=some a2∧w1.cell? ⟨g,o3,none⟩=some a3)∧Below wr.heap.size wr w1:=by
 have hs:=h.2.size;have k:∀ x,w1.cell? ⟨g,x,none⟩=w0.cell? ⟨g,x,none⟩:=fun x=>hb.cell (p:=⟨g,x,none⟩) (by show g<_;omega)
 rw [k,k,k];exact ⟨h.1,h.2.trans (hb.mono hs)⟩
theorem qqu {n:Nat}(hS:∀ k,n=k+1→EqS k):EqS n:=by
 intro L va vb w lo lo' ha hb;obtain ⟨N,hN⟩:=e_ (L.length);obtain ⟨A,ca,rfl,ha⟩:=HasR.shape ha hN.symm;obtain ⟨B,cb,rfl,hb⟩:=HasR.shape hb hN.symm;have av:=ha.len.2.1;have HA:=z_ ha;have HB:=z_ hb;have HS:=z_ hS;clear ha hb hN hS;go_enter Tryz.func48,Tryz.ntmps48
 go_wp2;go_loopw [5] (fun i wr=>∃ k:Nat,k≤N∧i=.int .i64 k∧Below w.heap.size w wr) (fun i _=>N-(intOf i).toNat)
 case atStart=>exact ⟨0,y_,rfl,Below.refl _ _⟩
 case round=>
  obtain ⟨k,hk,rfl,aa⟩:=hrel;by_cases hlt:k<N
  ·obtain ⟨ka,ga,oa,A2,a2,am,rfl,_,an,ae,af,ag,ah,ao,_⟩:=qaj HA.out hlt
   obtain ⟨kb,gb,ob,B2,b2,au,rfl,_,ap,ai,ab,hb2,aj,aq,_⟩:=qaj HB.out hlt;obtain rfl:ka=kb:=o_;have qa:∀ x,w.cell? ⟨ga,x,none⟩=wr.cell? ⟨ga,x,none⟩:=fun x=>(aa.cell (p:=⟨ga,x,none⟩) an).symm
   have qb:∀ x,w.cell? ⟨gb,x,none⟩=wr.cell? ⟨gb,x,none⟩:=fun x=>(aa.cell (p:=⟨gb,x,none⟩) ap).symm
   rw [qa] at ae af ag ah;rw [qb] at ai ab hb2 aj;have ak:ga<wr.heap.size:=w_ an aa.size;have al:gb<wr.heap.size:=w_ ap aa.size;have ac:=ao.below n_ aa;have ad:=aq.below n_ aa;obtain ⟨⟨op,nm,so,D⟩,hd⟩:∃ d,d=L.getD k default:=⟨_,rfl⟩;rw [← hd] at ae af ag ah ai ab hb2 aj ac ad;obtain ⟨m,hm⟩:=e_ (D.length);simp only [TermM.op,TermM.name,TermM.sort,TermM.args,← hm] at ae af ag ah ai ab hb2 aj ac ad;have HE:=z_ (fun W (hW:Below wr.heap.size wr W)=>qn1 (HS.out ka am) op nm so D _ _ W (ac.below n_ hW) (ad.below n_ hW));clear ac ad ao aq hd hm qa qb am au;go_wp2_with fail
   go_region_held3 (fun w'=>(w'.cell? ⟨ga,oa+k*4,none⟩=some (.int .i64 op)∧w'.cell? ⟨ga,oa+k*4+1,none⟩=some (.string (bstr nm))∧w'.cell? ⟨ga,oa+k*4+2,none⟩=some (.int .i64 so)∧w'.cell? ⟨ga,oa+k*4+3,none⟩=some (.slice A2 m a2)∧
     w'.cell? ⟨gb,ob+k*4,none⟩=some (.int .i64 op)∧w'.cell? ⟨gb,ob+k*4+1,none⟩=some (.string (bstr nm))∧w'.cell? ⟨gb,ob+k*4+2,none⟩=some (.int .i64 so)∧w'.cell? ⟨gb,ob+k*4+3,none⟩=some (.slice B2 m b2))∧Below wr.heap.size wr w')
    (first|(refine ⟨⟨?_,?_,?_,?_,?_,?_,?_,?_⟩,b_.drew⟩<;>assumption)|(go_split_ands;exact qsi (g:=ga) (g':=gb) ⟨⟨by assumption,by assumption,by assumption,by assumption,by assumption,by assumption,by assumption,by assumption⟩,by assumption⟩ ⟨ak,al⟩ (by assumption)))
    ((go_at_call 15;go_split_ands;refine (HE.out _ (by assumption)).mono ?_;rintro e w1 ⟨rfl,ab⟩))
   go_wp2;go_roundw
   case rel=>
    have hh:Below wr.heap.size wr w1:=by go_split_ands;assumption
    exact ⟨k+1,by omega,by go_num,aa.trans (hh.mono aa.size)⟩
   case measure=>simp [intOf];omega
  ·obtain rfl:k=N:=o_
   go_wp2;go_ret;exact ⟨rfl,aa⟩
theorem qh6:∀ n,EqS n
 | 0=>qqu (fun k h=>by omega)
 | n+1=>qqu (fun k h=>Nat.succ.inj h ▸ qh6 n)
theorem qem {n m:Nat}(op:Int)(l:List UInt8)(s:Int)(L:List TermM)(va vb:Value)(w:World){lo lo':Nat}(ha:HasTs n lo w va L)(hb:HasTs m lo' w vb L):
  Calls Tryz.prog 15 #[.agg #[.int .i64 op,.string (bstr l),.int .i64 s,va],.agg #[.int .i64 op,.string (bstr l),.int .i64 s,vb]] w fun e w'=>e=.returned (.bool true)∧Below w.heap.size w w':=
 qn1 (qh6 (max n m)) op l s L va vb w (ha.up (Nat.le_max_left _ _)) (hb.up (Nat.le_max_right _ _))
theorem qlb {w:World}{g i j:Nat}{v:Value}(h:i≠j):(w.setCell ⟨g,i,none⟩ v).cell? ⟨g,j,none⟩=w.cell? ⟨g,j,none⟩:=
 World.cell?_setCell_other w ⟨g,i,none⟩ ⟨g,j,none⟩ v (fun e=>h (congrArg Addr.off e))
def tx (k:Nat):List UInt8:=109::dig k
noncomputable def mixT (L:List TermM)(k j:Nat):List TermM:=(mkL tx L k).take j++L.drop j
theorem qy1 (L:List TermM)(k j:Nat)(hj:j≤L.length):(mixT L k j).length=L.length:=by
 simp [mixT,qgd];omega
theorem qAp (L:List TermM)(k j:Nat)(hj:j<L.length):(mixT L k j).getD j default=L.getD j default:=by
 simp [mixT,List.getD,qgd,List.getElem?_append,Nat.min_eq_left (Nat.le_of_lt hj)]
theorem qut (L:List TermM)(k j:Nat)(hj:j<L.length):mixT L k (j+1)=(mixT L k j).set j (mkT tx (L.getD j default) (offs L k j)):=by
 have h1:j<(mkL tx L k).length:=by rw [qgd];exact hj
 have h2:=qog tx L k j hj;rw [qar h1] at h2;have h3:((mkL tx L k).take j).length=j:=by rw [List.length_take];omega
 rw [mixT,List.take_succ_eq_append_getElem h1,h2,mixT,List.set_append_right _ _ o_,h3,Nat.sub_self];conv=>rhs;rw [List.drop_eq_getElem_cons hj]
 rw [List.set_cons_zero,List.append_assoc];rfl
theorem quu (L:List TermM)(k:Nat):mixT L k 0=L:=by simp [mixT]
theorem qy2 (L:List TermM)(k:Nat):mixT L k L.length=mkL tx L k:=by simp [mixT,← qgd tx L k]
theorem qC0 {T:TypeId}{n lo:Nat}{w w':World}{v:Value}{M:List TermM}{S:List Nat}{xs ab:List Value}{vs:Nat→Value}{Ss:Nat→List Nat}(hS:S=v.ownBlock.toList++(List.range M.length).flatMap Ss)(ac:S.Nodup)
  (hj:∀ j,j<M.length→qcl xs j (M.getD j default) (vs j)∧Bnd (M.getD j default)∧OT T n lo w (vs j) (M.getD j default).args (Ss j))
  {j:Nat} {t:TermM} (hlt:j<M.length) (ho:w'.ownsRow lo T 4 v M.length ab) (aa:∀ i,i<j*4∨j*4+4≤i→ab[i]? =xs[i]?) (ad:qcl ab j t (vs j)) (hb:Bnd t)
  (hc:Chg (v.ownBlock.toList++Ss j) w w') (ae:OT T n lo w' (vs j) t.args (Ss j)):OT T (n+1) lo w' v (M.set j t) S:=by
 refine ⟨ab,vs,Ss,by rw [List.length_set];exact ho,by rw [List.length_set];exact hS,ac,fun i hi=>?_⟩;rw [List.length_set] at hi;by_cases e:i=j
 ·subst e
  have:(M.set i t).getD i default=t:=by simp [List.getD,hi]
  rw [this];exact ⟨ad,hb,ae⟩
 ·have:(M.set j t).getD i default=M.getD i default:=by simp [List.getD,List.getElem?_set_ne (Ne.symm e)]
  rw [this];obtain ⟨⟨a,b,c,d⟩,h2,h3⟩:=hj i hi;refine ⟨⟨?_,?_,?_,?_⟩,h2,h3.chg hc (fun q hq hm=>?_)⟩
  ·rw [aa _ o_];exact a
  ·rw [aa _ o_];exact b
  ·rw [aa _ o_];exact c
  ·rw [aa _ o_];exact d
  ·rw [hS] at ac
   obtain ⟨_,n2,n3⟩:=List.nodup_append.1 ac;rcases List.mem_append.1 hm with hm|hm
   ·exact n3 q hm q (List.mem_flatMap.2 ⟨i,by simpa using hi,hq⟩) rfl
   ·have h4:=(List.pairwise_flatMap.1 n2).2
    have h5:∀ a b,a<b→b<M.length→∀ x,x∈Ss a→x ∉ Ss b:=by
     intro a b af ag x hx ah;have:=(List.pairwise_iff_getElem.1 h4) a b (by simp;omega) (by simpa using ag) af;simp only [List.getElem_range] at this;exact this x hx x ah rfl
    rcases Nat.lt_or_gt_of_ne e with h6|h6
    ·exact h5 i j h6 hlt q hq hm
    ·exact h5 j i h6 hi q hm hq
def MkS (n:Nat):Prop:=∀ (L:List TermM) (v:Value) (S:List Nat) (w:World) (lo k:Nat),OT 38 n lo w v L S→k+3*sizes L≤1073741824→
 Calls Tryz.prog 55 #[v,.int .i64 k] w fun e w'=>e=.returned (.int .i64 ((k+3*sizes L:Nat):Int))∧OT 38 n lo w' v (mkL tx L k) S∧Chg S w w'
theorem qqv {n:Nat}(hS:∀ k,n=k+1→MkS k):MkS n:=by
 intro L v S w lo k h hk;cases n with
 | zero=>exact h.elim
 | succ n=>
 have HS:=z_ (hS n rfl);obtain ⟨N,hN⟩:=e_ (L.length);have HN:=z_ hN;obtain ⟨A,c,rfl⟩:=OT.shape h;have aZ:N≤1073741824:=by have:=qaq L;omega
 rw [← hN] at h ⊢;have HH:=z_ h;clear h hS hN;go_enter Tryz.func55,Tryz.ntmps55
 go_wp2;go_loopw [1,5] (fun v i wr=>∃ j:Nat,j≤N∧i=.int .i64 j∧v=.int .i64 ((offs L k j:Nat):Int)∧Hid (OT 38 (n+1) lo wr (.slice A N c) (mixT L k j) S)∧Chg S w wr) (fun _ i _=>N-(intOf i).toNat)
 case atStart=>exact ⟨0,y_,rfl,by simp [offs,sizes],z_ (by rw [quu];exact HH.out),Chg.refl _ _⟩
 case round=>
  obtain ⟨j,hj,rfl,rfl,HO,ah⟩:=hrel;by_cases hlt:j<N
  ·have ab:j<L.length:=by have:=HN.out;omega
   obtain ⟨xs,vs,Ss,ho,hS,ae,ai⟩:=HO.out;have aj:=qy1 L k j o_;rw [aj,← HN.out] at ho;have ak:=ho.1;obtain ⟨g,cap,hv,aK,aL⟩:=qb5 ho (by intro e;rw [e] at ak;simp at ak;omega);simp only [Value.slice.injEq] at hv;obtain ⟨rfl,-,rfl⟩:=hv;obtain ⟨av,aq,af⟩:=ai j o_;rw [qAp L k j ab] at av aq af;have ac:=qhy L k j ab;have aa:offs L k j+3*size (L.getD j default)≤1073741824:=by
    have h1:=qtx ab (k:=k);omega
   obtain ⟨t,ht⟩:=e_ (L.getD j default);rw [← ht] at av aq af ac aa;have aC:3*size t=3+3*sizes t.args:=by rw [← t.eta,qb7];simp only [TermM.args];omega
   obtain ⟨p,hp⟩:=e_ (offs L k j);rw [← hp] at ac aa ⊢;have aM:p≤1073741821:=o_;have aN:∃ n',n=n'+1:=by
    cases n with
    | zero=>exact af.elim
    | succ n=>exact ⟨n,rfl⟩
   obtain ⟨A3,c3,aw⟩:∃ A c,vs j=.slice A t.args.length c:=by
    obtain ⟨n',rfl⟩:=aN;exact OT.shape af
   obtain ⟨c0,c1,c2,al⟩:=av;have aD:∀ q∈Ss j,q≠g:=by
    intro q hq e;rw [hS] at ae;exact (List.nodup_append.1 ae).2.2 g (by simp [Value.ownBlock]) q (List.mem_flatMap.2 ⟨j,by simp;omega,hq⟩) e.symm
   have am:∀ q∈[g]++Ss j,q∈S:=by
    intro q hq;rw [hS];rcases List.mem_append.1 hq with hq|hq
    ·exact List.mem_append.2 (.inl (by simpa [Value.ownBlock] using hq))
    ·exact List.mem_append.2 (.inr (List.mem_flatMap.2 ⟨j,by simp;omega,hq⟩))
   obtain ⟨⟨v0,a2⟩,a6⟩:=qai ho (i:=j*4) o_;obtain ⟨⟨v1,aO⟩,aP⟩:=qai ho (i:=j*4+1) o_;obtain ⟨⟨v2,aQ⟩,aR⟩:=qai ho (i:=j*4+2) o_;have aE:wr.cell? ⟨g,j*4+3,none⟩=some (.slice A3 t.args.length c3):=by rw [ho.cellAt (j*4+3) o_,al,aw]
   have ax:=z_ ho;have ay:=z_ (And.intro hS (And.intro ae ai));have aS:=z_ af;have HB:=z_ aq;have HT:=z_ ht;have aF:=z_ aw;have HP:=z_ hp;have HC:=z_ (And.intro c0 (And.intro c1 (And.intro c2 al)));have HM:=z_ aj;have aT:=z_ ac;have aU:=z_ am;have aG:=z_ aD;have aH:=z_ aC;obtain ⟨q,hq⟩:=e_ (t.args.length);rw [← hq] at aE;have HQ:=z_ hq;have aV:=z_ ak;clear ho hS ae ai af aq ht aw hp c0 c1 c2 al aj ac am aD aC hq ak HO;go_wp2_with fail
   refine (strl.qel (p+1) o_ _).mono ?_;rintro e w1 ⟨rfl,ag⟩;have az:=ag;obtain ⟨au,aA⟩:=qkp ag;have hg1:g<(wr.setCell ⟨g,j*4,none⟩ (.int .i64 p)).heap.size:=by simpa [World.setCell] using aL
   have a7:=z_ ag;have k1:w1.cell? ⟨g,j*4+1,none⟩=some v1:=by rw [au _ _ hg1,qlb o_];exact aO
   have k2:w1.cell? ⟨g,j*4+2,none⟩=some v2:=by rw [au _ _ hg1,qlb o_];exact aQ
   have k3:w1.cell? ⟨g,j*4+3,none⟩=some (.slice A3 q c3):=by rw [au _ _ hg1,qlb o_];exact aE
   have f1:w1.frozen? ⟨g,j*4+1,none⟩=false:=by rw [aA _ _ hg1,World.frozen?_setCell];exact aP
   have f2:w1.frozen? ⟨g,j*4+2,none⟩=false:=by rw [aA _ _ hg1,World.frozen?_setCell];exact aR
   have aW:Hid (Chg [g] wr w1):=z_ ((Chg.set (by simp) _).trans (Chg.of_below ag));have aX:=z_ (qa2 (qa4 ax.out (j*4) (.int .i64 p)) ag);clear ag az au aA;go_wp2_with fail
   have an:(((p+3:Nat):Int))=(p:Int)+1+1+1:=o_;have aY:=z_ (qa4 (qa4 aX.out (j*4+1) (.string (bstr (109::dig (p+1))))) (j*4+2) (.int .i64 ((p:Int)+1+1)));have ao:Hid (Chg [g] wr ((w1.setCell ⟨g,j*4+1,none⟩ (.string (bstr (109::dig (p+1))))).setCell ⟨g,j*4+2,none⟩ (.int .i64 ((p:Int)+1+1)))):=z_ (qb3 (qb3 aW.out _ _) _ _);have hC:=HS.out t.args (vs j) (Ss j) _ lo (p+3) (aS.out.chg ao.out (fun q hq=>by simpa using aG.out q hq)) (by have:=aH.out;omega);rw [aF.out,← HQ.out,an] at hC;refine hC.mono ?_;rintro e w4 ⟨rfl,h4,aI⟩;have H4:=z_ h4;have aJ:=z_ aI;have ap:((p+3+3*sizes t.args:Nat):Int)=((offs L k (j+1):Nat):Int):=by have h1:=aT.out;have h2:=aH.out;omega
   clear h4 aI hC;go_wp2;go_roundw
   case rel=>
    obtain ⟨hS,ae,ai⟩:=ay.out;obtain ⟨c0,c1,c2,al⟩:=HC.out;have ak:=aV.out;have ad:Chg ([g]++Ss j) wr w4:=(ao.out.mono (fun q hq=>List.mem_append.2 (.inl hq))).trans (aJ.out.mono (fun q hq=>List.mem_append.2 (.inr hq)));have aB:mkT tx t p=.mk (p:Int) (109::dig (p+1)) ((p+2:Nat):Int) (mkL tx t.args (p+3)):=by have h:=qzv tx t.op t.name t.sort t.args p;rw [t.eta] at h;exact h
    have hd:(dig (p+1)).length≤20:=qqa o_;refine ⟨j+1,by omega,by go_num,ap ▸ rfl,z_ ?_,ah.trans (ad.mono aU.out)⟩;rw [qut L k j ab,← HT.out,← HP.out];have hown:=aJ.out.own aY.out (by intro q hq;simp [Value.ownBlock] at hq;subst hq;intro hm;exact aG.out _ hm rfl);have aj:=HM.out;have hN:=HN.out;refine qC0 hS ae ai o_ (by rw [aj,← hN];exact hown) (fun i hi=>?_) ?_ ?_ ad ?_
    ·rw [List.getElem?_set_ne o_,List.getElem?_set_ne o_,List.getElem?_set_ne o_]
    ·rw [aB]
     refine ⟨?_,?_,?_,?_⟩
     ·rw [List.getElem?_set_ne o_,List.getElem?_set_ne o_,List.getElem?_set_self o_];rfl
     ·rw [List.getElem?_set_ne o_,List.getElem?_set_self (by simp;omega)];rfl
     ·rw [List.getElem?_set_self (by simp;omega)];simp only [TermM.sort];congr 2
     ·rw [List.getElem?_set_ne o_,List.getElem?_set_ne o_,List.getElem?_set_ne o_];exact al
    ·rw [aB]
     refine ⟨?_,?_,?_⟩
     ·simp only [TermM.name,List.length_cons];unfold maxLen;omega
     ·simp only [TermM.op,I64];omega
     ·simp only [TermM.sort,I64];omega
    ·rw [aB,aF.out,← HQ.out];exact H4.out
   case measure=>simp [intOf];omega
  ·obtain rfl:j=N:=o_
   have HE:Hid (OT 38 (n+1) lo wr (.slice A j c) (mkL tx L k) S∧offs L k j=k+3*sizes L):=z_ (by
    have h1:=HO.out;have h2:=HN.out;refine ⟨by rw [← qy2,← h2];exact h1,?_⟩
    rw [offs,h2,List.take_length])
   go_wp2;go_ret;exact ⟨qaa (by rw [HE.out.2]),HE.out.1,ah⟩
theorem qdj:∀ n,MkS n
 | 0=>qqv (fun k h=>by omega)
 | n+1=>qqv (fun k h=>Nat.succ.inj h ▸ qdj n)
theorem qh7 {n:Nat}(op:Int)(l:List UInt8)(s:Int)(L:List TermM)(v:Value)(S:List Nat)(w:World){lo k:Nat}(h:OT 38 n lo w v L S)(hk:k+3*sizes L≤1073741824):
  Calls Tryz.prog 20 #[.agg #[.int .i64 op,.string (bstr l),.int .i64 s,v],.int .i64 k] w fun e w'=>e=.returned (.int .i64 ((k+3*sizes L:Nat):Int))∧OT 38 n lo w' v (mkL tx L k) S∧Chg S w w':=by
 have HM:=z_ (fun W (hW:Below w.heap.size w W)=>qdj n L v S W lo k (h.below hW) hk);obtain ⟨A,c,rfl⟩:∃ A c,v=.slice A L.length c:=by
  cases n with
  | zero=>exact h.elim
  | succ n=>exact OT.shape h
 obtain ⟨q,hq⟩:=e_ (L.length);rw [← hq] at HM ⊢;clear h hq;go_enter Tryz.func20,Tryz.ntmps20
 go_wp2_with fail
 refine (HM.out _ (b_.alloc n_ _)).mono ?_;rintro e w1 ⟨rfl,h1,aa⟩;have H1:=z_ (And.intro h1 aa);clear h1 aa;go_wp2;go_ret;exact ⟨rfl,H1.out.1,(Chg.of_below (b_.alloc n_ _)).trans H1.out.2⟩
def HtS (n:Nat):Prop:=∀ (L:List TermM) (v:Value) (w:World) (lo k:Nat),HasTs n lo w v (mkL tx L k)→k+3*sizes L≤1073741824→
 Calls Tryz.prog 56 #[v,.int .i64 k] w fun e w'=>e=.returned (.int .i64 ((k+3*sizes L:Nat):Int))∧Below w.heap.size w w'
theorem qqw {n:Nat}(hS:∀ k,n=k+1→HtS k):HtS n:=by
 intro L v w lo k h hk;obtain ⟨N,hN⟩:=e_ (L.length);obtain ⟨A,c,rfl,h⟩:=HasR.shape (n:=N) h (by rw [qgd];exact hN.symm);have ax:N≤1073741824:=by have:=qaq L;omega
 have HN:=z_ hN;have HH:=z_ h;have HS:=z_ hS;clear h hN hS;go_enter Tryz.func56,Tryz.ntmps56
 go_wp2;go_loopw [1,5] (fun v i wr=>∃ j:Nat,j≤N∧i=.int .i64 j∧v=.int .i64 ((offs L k j:Nat):Int)∧Below w.heap.size w wr) (fun _ i _=>N-(intOf i).toNat)
 case atStart=>exact ⟨0,y_,rfl,by simp [offs,sizes],Below.refl _ _⟩
 case round=>
  obtain ⟨j,hj,rfl,rfl,aa⟩:=hrel;by_cases hlt:j<N
  ·have af:j<L.length:=by have:=HN.out;omega
   obtain ⟨k',g,o,A2,c2,au,rfl,_,hg,ak,al,ag,ah,hh,_⟩:=qaj HH.out hlt;rw [qog tx L k j af] at ak al ag ah hh;have ai:=qhy L k j af;have ab:offs L k j+3*size (L.getD j default)≤1073741824:=by
    have h1:=qtx af (k:=k);omega
   obtain ⟨t,ht⟩:=e_ (L.getD j default);rw [← ht] at ak al ag ah hh ai ab;have av:3*size t=3+3*sizes t.args:=by rw [← t.eta,qb7];simp only [TermM.args];omega
   obtain ⟨p,hp⟩:=e_ (offs L k j);rw [← hp] at ak al ag ah hh ai ab ⊢;have an:mkT tx t p=.mk (p:Int) (109::dig (p+1)) ((p+2:Nat):Int) (mkL tx t.args (p+3)):=by have h:=qzv tx t.op t.name t.sort t.args p;rw [t.eta] at h;exact h
   rw [an] at ak al ag ah hh;simp only [qCr,qAm,qAn,qAo] at ak al ag ah hh;have ad:(((p+3:Nat):Int))=(p:Int)+1+1+1:=o_;have ac:(((p+2:Nat):Int))=(p:Int)+1+1:=o_;rw [ac] at ag;have aw:p≤1073741821:=o_;have kk:∀ x,w.cell? ⟨g,x,none⟩=wr.cell? ⟨g,x,none⟩:=fun x=>(aa.cell (p:=⟨g,x,none⟩) hg).symm
   rw [kk] at ak al ag ah;have hg2:g<wr.heap.size:=w_ hg aa.size;have ao:=hh.below n_ aa
   have HC:=z_ (fun W (hW:Below wr.heap.size wr W)=>(ad ▸ HS.out k' au t.args _ W lo (p+3) (ao.below n_ hW) o_:
    Calls Tryz.prog 56 #[.slice A2 (mkL tx t.args (p+3)).length c2,.int .i64 ((p:Int)+1+1+1)] W fun e w'=>e=.returned (.int .i64 ((p+3+3*sizes t.args:Nat):Int))∧Below W.heap.size W w'))
   obtain ⟨q,hq⟩:=e_ ((mkL tx t.args (p+3)).length);rw [← hq] at HC ah;have ae:((p+3+3*sizes t.args:Nat):Int)=((offs L k (j+1):Nat):Int):=o_;rw [ae] at HC;have ap:Hid (0≤((offs L k (j+1):Nat):Int)∧((offs L k (j+1):Nat):Int)≤1073741824):=z_ o_;obtain ⟨z,hz⟩:=e_ (((offs L k (j+1):Nat):Int));rw [← hz] at HC ap;have HZ:=z_ hz;have aq:=ap.out;obtain ⟨aq,ay⟩:=aq;clear hh ao hq ht hp an av ai hz kk ae ad ac;go_wp2_with fail
   go_region_held3 (fun w'=>(w'.cell? ⟨g,o+j*4+1,none⟩=some (.string (bstr (109::dig (p+1))))∧w'.cell? ⟨g,o+j*4+2,none⟩=some (.int .i64 ((p:Int)+1+1))∧w'.cell? ⟨g,o+j*4+3,none⟩=some (.slice A2 q c2))∧Below wr.heap.size wr w')
    (first|(refine ⟨⟨?_,?_,?_⟩,b_.drew⟩<;>assumption)|(go_split_ands;exact qow (g:=g) ⟨⟨by assumption,by assumption,by assumption⟩,by assumption⟩ hg2 (by assumption)))
    ((go_at_call 54;refine (strl.qel (p+1) o_ _).mono ?_;rintro e w1 ⟨rfl,az⟩))
   go_split_ands
   have aj:Below wr.heap.size wr w1:=by assumption
   go_wp2_with fail
   refine (HC.out _ aj).mono ?_;rintro e w2 ⟨rfl,hb2⟩;have am:=aj.trans (hb2.mono aj.size);clear hb2;go_wp2;go_roundw
   case rel=>exact ⟨j+1,by omega,by go_num,by rw [← HZ.out],aa.trans (am.mono aa.size)⟩
   case measure=>simp [intOf];omega
  ·obtain rfl:j=N:=o_
   have HE:Hid (offs L k j=k+3*sizes L):=z_ (by
    have h2:=HN.out
    rw [offs,h2,List.take_length])
   go_wp2;go_ret;exact ⟨qaa (by rw [HE.out]),aa⟩
theorem qfy:∀ n,HtS n
 | 0=>qqw (fun k h=>by omega)
 | n+1=>qqw (fun k h=>Nat.succ.inj h ▸ qfy n)
end Go.Proofs.YtiilamngcoegiaaGreat.termu
