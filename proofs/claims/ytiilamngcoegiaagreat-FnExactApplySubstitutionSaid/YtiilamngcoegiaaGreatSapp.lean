
import Derived.Test.YtiilamngcoegiaaGreatPk19
import Derived.Deep.DeepCutAuto
import Derived.Deep.LoopGhost
namespace Go.Proofs.YtiilamngcoegiaaGreat.sapp
open Go.ChangeShapes Go.WideShapes Go.ChangeAt Go.RowKit
open mem dec setm sets sortm sortn sortp sorti sortf sortu sortg sigm sigs sigt sigl sigb rowl trm trmv terml termb termt termx termz termro termsd termv termvr termvo termev termin frm termlm sigi sigj sigk gram gramo graml gramk gramc gramn gramt grami formlf formnd formk formr formf formt formm termcl termpr termw tma tmm tmr tsk tmb tmf tmg tmc tmi tml tmn rebp rebc bndl inst insn insg scan
noncomputable def appF (P:List (List UInt8))(Q:List (Int×Int))(O:List OpM)(σ:List BindM)(t:TermM)(zs:List TermM):Option TermM:=by
 classical
 exact if t.op=-1 then some (valM σ t) else if CanS P Q O t.op.toNat zs∧LimT (qbp O t.op.toNat zs) then some (qbp O t.op.toNat zs) else none
def qBc (P:List (List UInt8))(Q:List (Int×Int))(O:List OpM)(σ:List BindM):Prop:=∀ b∈σ,qau P Q O b.t∧LimT b.t∧b.v.args=[]
def AppR (P:List (List UInt8))(Q:List (Int×Int))(O:List OpM)(σ:List BindM)(t:TermM)(w0 w:World)(e:Ending)(w':World):Prop:=
 ∃ u vu r,e=.returned (.tuple #[aggT u vu,.bool r])∧(r=true→rebM (appF P Q O σ) t=some u∧qau P Q O u∧LimT u∧Bnd u)∧(r=false→rebM (appF P Q O σ) t=none)∧(∀ X:List Nat,(∀ k∈X,w0.heap.size≤k∧k<w.heap.size)→HasTs 22 0 (tmr.qb0 X w') vu u.args)∧Below w.heap.size w w'
theorem qz5 {a b:TermM}(ha:a.args=[])(hb:b.args=[]):cmp a b=cmpN a b:=by
 have e:=TermM.eta a;rw [ha] at e;rw [← e,qtn,hb];show _=cmpN (.mk a.op a.name a.sort []) b;unfold cmpN;simp only [cmpL];show (if cmpI a.op b.op≠0 then cmpI a.op b.op else if cmpB a.name b.name≠0 then cmpB a.name b.name else if cmpI a.sort b.sort≠0 then cmpI a.sort b.sort else 0)=(if cmpI a.op b.op≠0 then cmpI a.op b.op else if cmpB a.name b.name≠0 then cmpB a.name b.name else cmpI a.sort b.sort);by_cases h1:cmpI a.op b.op≠0
 ·rw [if_pos h1,if_pos h1]
 ·rw [if_neg h1,if_neg h1]
  by_cases h2:cmpB a.name b.name≠0
  ·rw [if_pos h2,if_pos h2]
  ·rw [if_neg h2,if_neg h2]
   by_cases h3:cmpI a.sort b.sort≠0
   ·rw [if_pos h3]
   ·rw [if_neg h3];exact (Decidable.not_not.1 h3).symm
theorem qwp {F:TermM→List TermM→Option TermM}:∀ {L zs:List TermM},rebL F L=some zs→zs.length=L.length
 | [],zs,h=>by simp [rebL] at h;subst h;rfl
 | a::L,zs,h=>by
  simp only [rebL] at h;cases ha:rebM F a with
  | none=>rw [ha] at h;simp at h
  | some v=>
   rw [ha] at h;cases hk:rebL F L with
   | none=>rw [hk] at h;simp at h
   | some ks=>
    rw [hk] at h;simp at h;subst h;simp [qwp hk]
theorem qrz:∀ {L:List TermM},(∀ a∈L,size a≤60)→sizes L≤60*L.length
 | [],_=>by simp [sizes]
 | a::L,h=>by
  have h1:=h a (by simp);have h2:=qrz (L:=L) (fun x hx=>h x (by simp [hx]));have e:sizes (a::L)=size a+sizes L:=by simp [sizes]
  rw [e,List.length_cons];omega
def qwq (P:List (List UInt8))(Q:List (Int×Int))(O:List OpM)(σ:List BindM)(n:Nat):Prop:=
 ∀ (va vb vc lv:Value) (t:TermM) (ve:Value) (w0 w:World) (lo n':Nat),n'≤22→HasBs n' 0 w0 lv σ→Below w0.heap.size w0 w→HasG w va vb vc P Q O→HasTs n lo w ve t.args→Bnd t→qau P Q O t→LimT t→Calls Tryz.prog 38 #[.agg #[va,vb,vc],lv,aggT t ve] w (AppR P Q O σ t w0 w)
theorem c86_ {p:Prop}(h:p:=by
 (try dsimp only);first|(with_reducible exact ag.out)|(with_reducible exact am.out _ _ _ _)|(exact ad.out _ (by repeat (first|exact Below.refl _ _|exact ab.out|refine Below.drew ?_|refine Below.alloc ?_ (by first|omega|(simp;done)|(simp;omega)) _)))
):p:=h
set_option maxRecDepth 100000 in
set_option maxHeartbeats 16000000 in
theorem qs0 (P:List (List UInt8))(Q:List (Int×Int))(O:List OpM)(a2:qad P Q O=true)(σ:List BindM)(hσ:qBc P Q O σ)(bX:σ.length≤1048576)(N:Nat)(IH:∀ m,N=m+1→qwq P Q O σ m):qwq P Q O σ N:=by
 intro va vb vc lv t ve w0 w lo n' bj hl aA h ht hB aG aH;have hsz:sizes t.args≤60:=by have h1:=aH.1;have h2:=termro.qao t;omega
 have bY:t.args.length≤60:=Nat.le_trans (qaq _) hsz;have aI:t.args.length≤1048576:=o_;have av:Hid (∀ W,Below w.heap.size w W→Calls Tryz.prog 85 #[lv,aggT t ve] W fun e w'=>∃ u vu r,e=.returned (.tuple #[aggT u vu,.bool r])∧(r=true→∃ j,j<σ.length∧(∀ i,i<j→cmp (σ.getD i default).v t≠0)∧cmp (σ.getD j default).v t=0∧u=(σ.getD j default).t∧Bnd u)∧(r=false→∀ i,i<σ.length→cmp (σ.getD i default).v t≠0)∧HasTs n' 0 w0 vu u.args∧Below W.heap.size W w'):=z_ (fun W hW=>qBb (n:=n') (m:=N) (lo:=0) (lo':=lo) σ lv t ve hB w0 W hl (aA.trans (hW.mono aA.size)) (ht.below n_ hW) bX);have cB:=z_ hσ
 have ae:∀ a∈t.args,qau P Q O a∧LimT a:=fun a ha=>by
  have h1:=((qam P Q O t).1 aG).2.1 a ha;obtain ⟨i,hi,e⟩:=List.getElem_of_mem ha;have h2:=qah (l:=t.args) (j:=i) hi;have h3:=qck hi;rw [qar hi,e] at h2 h3;have h4:=aH.2.1;rw [termro.qan] at h4;exact ⟨h1,by have:=aH.1;have:=termro.qao t;omega,by omega,((qva a2 a).2 h1).1⟩
 have bk:Hid (∀ m,N=m+1→∀ (x:TermM) (vx:Value) (W:World),Below w.heap.size w W→HasTs m lo W vx x.args→Bnd x→qau P Q O x→LimT x→Calls Tryz.prog 38 #[.agg #[va,vb,vc],lv,aggT x vx] W (AppR P Q O σ x w0 W)):=z_ (fun m hm x vx W hW hx cC cD cE=>IH m hm va vb vc lv x vx w0 W lo n' bj hl (aA.trans (hW.mono aA.size)) (h.below n_ hW) hx cC cD cE)
 have a6:Hid ((0≤t.op∧t.op<O.length)→∀ (zs:List TermM) (vz:Value) (r:Bool) (W:World),Below w.heap.size w W→HasTs 22 0 W vz zs→(∀ a∈zs,qau P Q O a∧LimT a)→sizes zs≤1048576→(r=true↔CanS P Q O t.op.toNat zs∧LimT (qbp O t.op.toNat zs))→Calls Tryz.prog 86 #[.agg #[va,vb,vc],.int .i64 t.op,vz] W fun e w'=>∃ t' v',e=.returned (.tuple #[aggT t' v',.bool r])∧(r=true→t'=qbp O t.op.toNat zs)∧HasTs 22 W.heap.size w' v' t'.args∧Below W.heap.size W w'):=z_ (fun ak zs vz r W hW hz hf hs hr=>by
  obtain ⟨k,hk⟩:∃ k:Nat,t.op=(k:Int):=⟨t.op.toNat,by omega⟩;rw [hk,Int.toNat_natCast] at hr ⊢
  exact qpn (N:=21) (lo:=0) P Q O a2 va vb vc k o_ zs vz W (h.below n_ hW) hz hf hs r hr)
 obtain ⟨A1,c1,A2,c2,A3,c3,rfl,rfl,rfl,_⟩:=h.shape;obtain ⟨B,cb,rfl,_⟩:=HasR.shape ht rfl;obtain ⟨sl,bZ⟩:=e_ (σ.length);obtain ⟨Al,cl,rfl,_⟩:=HasR.shape hl bZ.symm;obtain ⟨m1,b4⟩:=e_ (P.length);obtain ⟨m2,b5⟩:=e_ (Q.length);obtain ⟨m3,aJ⟩:=e_ (O.length);have hm30:m3≤9223372036854775807:=by rw [aJ];exact h.o.len.2.1
 rw [← b4,← b5,← aJ] at bk a6 ⊢;unfold aggT at av;unfold aggT;have aB:Hid (rebM (appF P Q O σ) t=(rebL (appF P Q O σ) t.args).bind (appF P Q O σ t)):=z_ (qrc _ t)
 have aC:Hid ((t.op=-1→∀ zs,appF P Q O σ t zs=some (valM σ t))∧(t.op≠-1→∀ zs,CanS P Q O t.op.toNat zs∧LimT (qbp O t.op.toNat zs)→appF P Q O σ t zs=some (qbp O t.op.toNat zs))∧(t.op≠-1→∀ zs,¬ (CanS P Q O t.op.toNat zs∧LimT (qbp O t.op.toNat zs))→appF P Q O σ t zs=none)):=z_ (by
  refine ⟨fun h1 zs=>?_,fun h1 zs h2=>?_,fun h1 zs h2=>?_⟩
  ·unfold appF;rw [if_pos h1]
  ·unfold appF;rw [if_neg h1,if_pos h2]
  ·unfold appF;rw [if_neg h1,if_neg h2])
 have aK:Hid (t.op≠-1→0≤t.op∧t.op<m3):=z_ (fun hv=>by
  have h1:=((qam P Q O t).1 aG).1;unfold qbu at h1;rw [if_neg hv] at h1;rw [aJ]
  exact h1.1)
 have aL:Hid (t.op≠-1→∀ zs,(∀ a∈zs,qau P Q O a)→CanS P Q O t.op.toNat zs∧LimT (qbp O t.op.toNat zs)→qau P Q O (qbp O t.op.toNat zs)∧LimT (qbp O t.op.toNat zs)):=z_ (fun hv zs hA hc=>by
  have hr:=aK.out hv;refine qk3 a2 (t:=.mk t.op [] 0 []) (zs:=zs) hA ?_;unfold qsw;rw [if_neg (show (TermM.mk t.op [] 0 []).op≠-1 from hv),if_pos ⟨⟨by show 0≤t.op∧t.op<_;rw [← aJ];exact hr,rfl,rfl⟩,hc.1,hc.2⟩]
  rfl)
 have aM:Hid (t.op≠-1→∀ (R:List (TermM×Value)),(∀ x∈R,Bnd x.1)→(∀ x∈R,∀ a∈x.1.args,Bnd a)→Bnd (qbp O t.op.toNat (R.map Prod.fst))):=z_ (fun hv R h1 h2=>by
  have hr:=aK.out hv;have hk:t.op.toNat<O.length:=o_;obtain ⟨_,c8,_,_,cF⟩:=qa9 a2;have aN:=cF _ (qhb hk);simp only [axOk,qd2,qds,Bool.and_eq_true,Bool.or_eq_true,decide_eq_true_eq,Bool.not_eq_true'] at aN;have bl:0≤(O.getD t.op.toNat default).unt∧(O.getD t.op.toNat default).unt≤14:=by
   rcases aN.2 with h4|h4
   ·omega
   ·have:=h4.1.1;omega
  exact qm0 (by unfold I64;omega) bl.1 o_ h1 h2)
 have aD:Hid (t.op=-1→t.args=[]∧TermM.mk t.op t.name t.sort []=t):=z_ (fun hv=>by
  have h1:=((qam P Q O t).1 aG).1;unfold qbu at h1;rw [if_pos hv] at h1;have h2:=List.eq_nil_of_length_eq_zero h1.2.2;have h3:=TermM.eta t;rw [h2] at h3
  exact ⟨h2,h3⟩)
 have a7:Hid (t.op=-1→(∀ j,j<σ.length→(∀ i,i<j→cmp (σ.getD i default).v t≠0)→cmp (σ.getD j default).v t=0→valM σ t=(σ.getD j default).t)∧((∀ i,i<σ.length→cmp (σ.getD i default).v t≠0)→valM σ t=t)):=z_ (fun hv=>by
  obtain ⟨h1,h2⟩:=aD.out hv;have hc:∀ i,i<σ.length→cmp (σ.getD i default).v t=cmpN (σ.getD i default).v t:=fun i hi=>qz5 (hσ _ (by rw [List.getD_eq_getElem?_getD,List.getElem?_eq_getElem hi];exact List.getElem_mem _)).2.2 h1
  refine ⟨fun j hj h3 h4=>qA0 hj (fun i hi=>by rw [← hc i o_];exact h3 i hi) (by rw [← hc j hj];exact h4),fun h3=>?_⟩;rw [qrt (fun i hi=>by rw [← hc i hi];exact h3 i hi)]
  exact h2)
 have bm:=z_ (And.intro aG (And.intro aH hB));obtain ⟨L,hL⟩:=e_ (t.args);have HH:Hid (HasTs N lo w (.slice B t.args.length cb) L):=z_ (by rw [hL];exact ht);rw [← hL] at aB aD av bY aI ae HH ⊢;obtain ⟨tl,a8⟩:=e_ (L.length);have bn:=z_ a8;rw [← a8] at av bY aI HH ⊢;obtain ⟨tO,ba⟩:=e_ (t.op);obtain ⟨tn,bo⟩:=e_ (t.name);obtain ⟨ts,bp⟩:=e_ (t.sort);have bq:=z_ (And.intro ba (And.intro bo (And.intro bp (And.intro a8 hL))));rw [← ba,← bo,← bp] at av ⊢;rw [← ba] at aC aK aL a6 aM aD a7;have br:=z_ ae;have cG:=z_ bj;have bb:=z_ aA;clear h ht hB hsz hL b4 b5 aJ a8 ba bo bp IH hl aA hσ bX bZ aG aH ae bj;obtain ⟨W1,ao⟩:=e_ ((w.alloc (.cells #[.slice A1 m1 c1,.slice A2 m2 c2,.slice A3 m3 c3] 46)).alloc (.cells #[.int .i64 tO,.string (bstr tn),.int .i64 ts,.slice B tl cb] 38));obtain ⟨W,hW⟩:=e_ (W1.alloc (.cells #[.int .i64 0,.string { data:=#[] },.int .i64 0,.slice none 0 0] 38));have b6:W1.heap.size=w.heap.size+2:=by rw [ao];simp
 have cH:W.heap.size=w.heap.size+3:=by rw [hW];simp [b6]
 have bs:=fr1_ hW;have bc:Below w.heap.size w W:=by
  rw [hW,ao];exact v_
 have bt:W.heap[w.heap.size]? =some (.cells #[.slice A1 m1 c1,.slice A2 m2 c2,.slice A3 m3 c3] 46 (0,0)):=(bs.block _ o_).trans (by rw [ao];exact tsl.qbh _ _ _);have bu:W.heap[w.heap.size+1]? =some (.cells #[.int .i64 tO,.string (bstr tn),.int .i64 ts,.slice B tl cb] 38 (0,0)):=(bs.block _ o_).trans (by rw [ao];exact termt.qa5 _ _ _ (by simp));have b7:W.heap[w.heap.size+2]? =some (.cells #[.int .i64 0,.string { data:=#[] },.int .i64 0,.slice none 0 0] 38 (0,0)):=by rw [hW];exact termt.qa5 _ _ _ o_
 have b8:=z_ bc
 have aO:Hid (∀ w3,Below W.heap.size W w3→w.heap.size+3≤w3.heap.size∧Below w.heap.size w w3∧(w3.cell? ⟨w.heap.size,0,none⟩=some (.slice A1 m1 c1)∧w3.cell? ⟨w.heap.size,1,none⟩=some (.slice A2 m2 c2)∧w3.cell? ⟨w.heap.size,2,none⟩=some (.slice A3 m3 c3))∧(w3.cell? ⟨w.heap.size+1,0,none⟩=some (.int .i64 tO)∧w3.cell? ⟨w.heap.size+1,1,none⟩=some (.string (bstr tn))∧w3.cell? ⟨w.heap.size+1,2,none⟩=some (.int .i64 ts)∧w3.cell? ⟨w.heap.size+1,3,none⟩=some (.slice B tl cb))∧
   (w3.cell? ⟨w.heap.size+2,0,none⟩=some (.int .i64 0)∧w3.cell? ⟨w.heap.size+2,1,none⟩=some (.string { data:=#[] })∧w3.cell? ⟨w.heap.size+2,2,none⟩=some (.int .i64 0)∧w3.cell? ⟨w.heap.size+2,3,none⟩=some (.slice none 0 0))∧(w3.frozen? ⟨w.heap.size+2,0,none⟩=false∧w3.frozen? ⟨w.heap.size+2,1,none⟩=false∧w3.frozen? ⟨w.heap.size+2,2,none⟩=false∧w3.frozen? ⟨w.heap.size+2,3,none⟩=false)):=z_ (fun w3 h3=>by
  have h4:=(h3.block _ o_).trans bt;have h5:=(h3.block _ o_).trans bu;have h6:=(h3.block _ o_).trans b7
  exact ⟨by have:=h3.size;omega,bc.trans (h3.mono bc.size),tsl.box3 h4,grami.box4 h5,grami.box4 h6,⟨g_ w3 _ 0 _ _ h6,g_ w3 _ 1 _ _ h6,g_ w3 _ 2 _ _ h6,g_ w3 _ 3 _ _ h6⟩⟩)
 have b9:Hid (rebM (appF P Q O σ) t=none→∀ w3,Below w.heap.size w w3→∀ u0 u1 u2 u3,AppR P Q O σ t w0 w (.returned (.tuple #[.agg #[.int .i64 0,.string { data:=#[] },.int .i64 0,.slice none 0 0],.bool false])) (set4 w3 (w.heap.size+2) u0 u1 u2 u3)):=z_ (fun hr w3 h3 u0 u1 u2 u3=>
  ⟨zT,.slice none 0 0,false,rfl,fun h=>(by cases h),fun _=>hr,fun _ _=>HasR.nil _ _ _ (by unfold maxLen;omega) _,qa6 h3 o_ _ _ _ _⟩)
 obtain ⟨x0,x1,x2⟩:=tsl.box3 bt;obtain ⟨y0,y1,y2,y3⟩:=grami.box4 bu;obtain ⟨vr,bd⟩:∃ b,decide (tO=-1)=b:=⟨_,rfl⟩;have cI:(tO==-1)=vr:=by rw [← bd,Bool.eq_iff_iff];simp
 clear bc bs bt bu b7 cH b6;cases vr with
 | true=>
  have ah:=of_decide_eq_true bd;obtain ⟨al,bv⟩:=aD.out ah;obtain ⟨ca,cc⟩:=a7.out ah
  have bw:Hid (rebM (appF P Q O σ) t=some (valM σ t)):=z_ (by
   rw [aB.out];obtain ⟨e1,e2,e3,e4,e5⟩:=bq.out;rw [al]
   exact aC.out.1 ah [])
  have cd:Hid (∀ (u:TermM) (vu:Value),u=valM σ t→qau P Q O u∧LimT u→Bnd u→HasTs n' 0 w0 vu u.args→∀ w3,Below w.heap.size w w3→∀ u0 u1 u2 u3,AppR P Q O σ t w0 w (.returned (.tuple #[.agg #[.int .i64 u.op,.string (bstr u.name),.int .i64 u.sort,vu],.bool true])) (set4 w3 (w.heap.size+2) u0 u1 u2 u3)):=z_ (fun u vu hu hf be ac w3 h3 u0 u1 u2 u3=>by
   have aP:=qa6 h3 (show w.heap.size≤w.heap.size+2 by omega) u0 u1 u2 u3
   exact ⟨u,vu,true,rfl,fun _=>⟨by rw [bw.out,hu],hf.1,hf.2,be⟩,fun h=>(by cases h),fun X hX=>(qbf _ (qnj (bb.out.trans (aP.mono bb.out.size)) (fun k hk=>(hX k hk).1)) ac).up cG.out,aP⟩)
  have af:Hid (qau P Q O t∧LimT t∧Bnd t):=z_ ⟨bm.out.1,bm.out.2.1,bm.out.2.2⟩;have aQ:=z_ ca;have cJ:=z_ cc;have cK:Hid (t.args=[]):=z_ (by obtain ⟨_,_,_,_,e5⟩:=bq.out;rw [← e5];exact al);obtain ⟨x0,x1,x2⟩:True∧True∧True:=⟨trivial,trivial,trivial⟩
  have bx:Hid (HasTs n' 0 w0 (.slice B tl cb) t.args):=z_ (by
   rw [cK.out];have h1:=HH.out;rw [al] at h1;obtain ⟨A',c',e',h2,h3,_⟩:=h1
   exact ⟨A',c',e',h2,h3,fun j hj=>absurd hj (Nat.not_lt_zero _)⟩)
  clear aC aL aM aD aB b9 a6 bk a7 aK ca cc al bv;subst ah;go_enter Tryz.func38,Tryz.ntmps38
  go_upto_region 1 with fail
  rw [ao] at hW;rw [← hW];clear hW ao;go_wp2_with fail
  refine (av.out W b8.out).mono ?_;rintro e w2 ⟨u,vu,r,rfl,ap,ak,ac,hb2⟩;obtain ⟨Au,cu,rfl,_⟩:=HasR.shape ac rfl;obtain ⟨W3,bf⟩:=e_ (w2.alloc (.cells #[.int .i64 u.op,.string (bstr u.name),.int .i64 u.sort,.slice Au u.args.length cu] 38));have aP:=fr1_ bf;have ce:=fr2_ bf;obtain ⟨b0,b1,b2,b3⟩:=grami.box4 ce;obtain ⟨_,aR,_,⟨y0,y1,y2,y3⟩,⟨z0,z1,z2,z3⟩,⟨q0,q1,q2,q3⟩⟩:=aO.out W3 (hb2.trans (aP.mono hb2.size));have HR:=z_ (And.intro ap (And.intro ak ac));have aw:=z_ aR;clear ap ak ac hb2 aP ce aR av;go_upto_region 3 with fail
  rw [← bf];clear bf;cases r with
  | true=>
   have HF:Hid (∀ u0 u1 u2 u3,AppR P Q O σ t w0 w (.returned (.tuple #[.agg #[.int .i64 u.op,.string (bstr u.name),.int .i64 u.sort,.slice Au u.args.length cu],.bool true])) (set4 W3 (w.heap.size+2) u0 u1 u2 u3)):=z_ (by
    obtain ⟨j,hj,h1,h2,h3,h4⟩:=HR.out.1 rfl;have h5:=cB.out (σ.getD j default) (by rw [List.getD_eq_getElem?_getD,List.getElem?_eq_getElem hj];exact List.getElem_mem _)
    exact cd.out u _ (h3.trans (aQ.out j hj h1 h2).symm) (by rw [h3];exact ⟨h5.1,h5.2.1⟩) h4 HR.out.2.2 W3 aw.out)
   clear y0 y1 y2 y3;go_wp2;refine bodyPost_ret (v:=.tuple #[.agg #[.int .i64 u.op,.string (bstr u.name),.int .i64 u.sort,.slice Au u.args.length cu],.bool true]) (by simp [results,Tryz.results38,go_sem,z0,z1,z2,z3]) rfl ?_;exact HF.out _ _ _ _
  | false=>
   have HF:Hid (∀ u0 u1 u2 u3,AppR P Q O σ t w0 w (.returned (.tuple #[.agg #[.int .i64 (-1),.string (bstr tn),.int .i64 ts,.slice B tl cb],.bool true])) (set4 W3 (w.heap.size+2) u0 u1 u2 u3)):=z_ (by
    have h1:=cd.out t _ (cJ.out (HR.out.2.1 rfl)).symm ⟨af.out.1,af.out.2.1⟩ af.out.2.2 bx.out W3 aw.out;obtain ⟨e1,e2,e3,_⟩:=bq.out;rw [← e1,← e2,← e3] at h1
    exact h1)
   clear b0 b1 b2 b3;go_wp2;refine bodyPost_ret (v:=.tuple #[.agg #[.int .i64 (-1),.string (bstr tn),.int .i64 ts,.slice B tl cb],.bool true]) (by simp [results,Tryz.results38,go_sem,z0,z1,z2,z3]) rfl ?_;exact HF.out _ _ _ _
 | false=>
  have ah:=of_decide_eq_false bd;have ax:=z_ (aK.out ah);replace aM:=z_ (aM.out ah);replace aL:=z_ (aL.out ah);have cM:=z_ (aC.out.2.1 ah);have cN:=z_ (aC.out.2.2 ah);clear aC aD a7 av;go_enter Tryz.func38,Tryz.ntmps38
  go_upto_region 1 with fail
  rw [ao] at hW;rw [← hW];clear hW ao bd;go_wp2;obtain ⟨V1,bg⟩:=e_ (W.alloc (.cells #[] 38));have cf:=fr1_ bg;have hown:V1.ownsRow W.heap.size 38 4 (.slice (some ⟨W.heap.size,0,none⟩) 0 0) 0 (rowV []):=by
   have h1:=World.ownsRow_lit (e:=38) (size:=4) W #[] 0 n_ (by unfold maxLen;omega) rfl;rw [← bg] at h1;exact h1
  have cg:=z_ hown;have ch:=z_ cf;rw [← bg];clear bg cf hown;go_loopg [10,11] tl (fun gq v6 v7 wr=>∃ (p:Nat) (R:List (TermM×Value)),v7=.int .i64 p∧p≤tl∧tl≤p+gq∧Hid (rebL (appF P Q O σ) (L.take p)=some (R.map Prod.fst))∧Hid (∀ x∈R,(qau P Q O x.1∧LimT x.1)∧tmr.El 21 0 (tmr.qb0 v6.ownBlock.toList wr) x)∧Hid (wr.ownsRow W.heap.size 38 4 v6 R.length (rowV R))∧Hid (Below W.heap.size W wr))
  case atStart=>exact ⟨0,[],rfl,y_,by omega,z_ (by simp [rebL]),z_ (fun x hx=>by cases hx),cg,ch⟩
  case round=>
   obtain ⟨p,R,rfl,hp,c9,bz,aE,HO,HB⟩:=hrel;clear cg ch;obtain ⟨AL,cL,rfl,_⟩:=qae HO.out;obtain ⟨hz,ai,⟨x0,x1,x2⟩,⟨y0,y1,y2,y3⟩,⟨z0,z1,z2,z3⟩,⟨q0,q1,q2,q3⟩⟩:=aO.out wr HB.out;have bA:=HB.out.size;have aw:=z_ ai
   have ci:Hid (sizes (R.map Prod.fst)≤3600∧R.length≤60):=z_ (by
    have h1:=qwp bz.out;rw [List.length_map,List.length_take] at h1
    have h2:=qrz (L:=R.map Prod.fst) (fun a ha=>by
     obtain ⟨y,hy,rfl⟩:=List.mem_map.1 ha
     exact (aE.out y hy).1.2.1)
    rw [List.length_map] at h2;have:=bn.out
    omega)
   by_cases hlt:p<tl
   ·have d1:decide ((p:Int)<(tl:Int))=true:=d_
    obtain ⟨kn,g,o,B2,cx,cj,rfl,_,hg,g0,g1,g2,g3,bB,bC⟩:=qaj HH.out hlt;have ck:p<L.length:=by have:=bn.out;omega
    have f0:=(ai.cell (p:=⟨g,o+p*4,none⟩) hg).trans g0;have f1:=(ai.cell (p:=⟨g,o+p*4+1,none⟩) hg).trans g1;have f2:=(ai.cell (p:=⟨g,o+p*4+2,none⟩) hg).trans g2;have f3:=(ai.cell (p:=⟨g,o+p*4+3,none⟩) hg).trans g3;have bh:=br.out (L.getD p default) (by rw [qar ck];exact List.getElem_mem _);have bD:=z_ (qCd ck bz.out);obtain ⟨x,hx⟩:=e_ (L.getD p default);rw [← hx] at f0 f1 f2 f3 bB bC bh bD;obtain ⟨xl,bE⟩:=e_ (x.args.length);obtain ⟨xo,bF⟩:=e_ (x.op);obtain ⟨xn,bG⟩:=e_ (x.name);obtain ⟨xs,bH⟩:=e_ (x.sort)
    have bI:Hid (∀ Wx,Below wr.heap.size wr Wx→Calls Tryz.prog 38 #[.agg #[.slice A1 m1 c1,.slice A2 m2 c2,.slice A3 m3 c3],.slice Al sl cl,.agg #[.int .i64 xo,.string (bstr xn),.int .i64 xs,.slice B2 xl cx]] Wx (AppR P Q O σ x w0 Wx)):=z_ (fun Wx cO=>by
     have hw:=ai.trans (cO.mono ai.size);have:=bk.out kn cj x (.slice B2 x.args.length cx) Wx hw (bB.below n_ hw) bC bh.1 bh.2;unfold aggT at this;rw [bF,bG,bH,bE]
     exact this)
    have ad:Hid (∀ w',Below wr.heap.size wr w'→(fun w'=>(w'.cell? ⟨w.heap.size,0,none⟩=some (.slice A1 m1 c1)∧w'.cell? ⟨w.heap.size,1,none⟩=some (.slice A2 m2 c2)∧w'.cell? ⟨w.heap.size,2,none⟩=some (.slice A3 m3 c3))∧w'.cell? ⟨w.heap.size+1,3,none⟩=some (.slice (some ⟨g,o,none⟩) tl cb)∧w'.cell? ⟨g,o+p*4,none⟩=some (.int .i64 xo)∧w'.cell? ⟨g,o+p*4+1,none⟩=some (.string (bstr xn))∧w'.cell? ⟨g,o+p*4+2,none⟩=some (.int .i64 xs)∧w'.cell? ⟨g,o+p*4+3,none⟩=some (.slice B2 xl cx)) w'):=z_ (fun w' h'=>by
     have h9:=aO.out w' (HB.out.trans (h'.mono bA));have h8:∀ {i:Nat} {v:Value},wr.cell? ⟨g,i,none⟩=some v→w'.cell? ⟨g,i,none⟩=some v:=fun {i v} h=>(h'.cell (p:=⟨g,i,none⟩) (l_ h)).trans h
     rw [← bF] at f0;rw [← bG] at f1;rw [← bH] at f2;rw [← bE] at f3
     exact ⟨h9.2.2.1,h9.2.2.2.1.2.2.2,h8 f0,h8 f1,h8 f2,h8 f3⟩)
    have i1:(0:Int)≤(p:Int):=o_;have i2:(p:Int)<(tl:Int):=o_;have da:Hid (wr.heap.size=wr.heap.size):=z_ rfl;clear cj g0 g1 g2 g3 f0 f1 f2 f3 bB bC bh hx bE bF bG bH ai z0 z1 z2 z3 q0 q1 q2 q3;go_upto_region 10 with fail
    go_cut [12,13] (fun v8 v9 wx=>∃ (gx:Nat) (u:TermM) (vu:Value) (r:Bool),v8=Value.pointer (some ⟨gx,0,none⟩)∧v9=Value.bool r∧Hid (wx.cell? ⟨gx,0,none⟩=some (Value.int .i64 u.op)∧wx.cell? ⟨gx,1,none⟩=some (Value.string (bstr u.name))∧wx.cell? ⟨gx,2,none⟩=some (Value.int .i64 u.sort)∧wx.cell? ⟨gx,3,none⟩=some vu)∧Hid (r=true→rebM (appF P Q O σ) x=some u∧qau P Q O u∧LimT u∧Bnd u)∧Hid (r=false→rebM (appF P Q O σ) x=none)∧Hid (∀ X:List Nat,(∀ k∈X,w0.heap.size≤k∧k<wr.heap.size)→HasTs 22 0 (tmr.qb0 X wx) vu u.args)∧Hid (Below wr.heap.size wr wx))
    case first=>
     refine wp_region_noPanic ?_;refine wp_region_held_drew (S:=(fun w'=>(w'.cell? ⟨w.heap.size,0,none⟩=some (.slice A1 m1 c1)∧w'.cell? ⟨w.heap.size,1,none⟩=some (.slice A2 m2 c2)∧w'.cell? ⟨w.heap.size,2,none⟩=some (.slice A3 m3 c3))∧w'.cell? ⟨w.heap.size+1,3,none⟩=some (.slice (some ⟨g,o,none⟩) tl cb)∧w'.cell? ⟨g,o+p*4,none⟩=some (.int .i64 xo)∧w'.cell? ⟨g,o+p*4+1,none⟩=some (.string (bstr xn))∧w'.cell? ⟨g,o+p*4+2,none⟩=some (.int .i64 xs)∧w'.cell? ⟨g,o+p*4+3,none⟩=some (.slice B2 xl cx))) k_ ?_ (fun aS=>?_)
     ·exact ad.out _ (b_.drew)
     refine t_k 0 ?_;refine t_k 1 ?_;refine t_k 2 ?_;refine t_k 3 ?_;refine t_k 4 ?_;refine t_k 5 ?_;refine t_k 6 ?_;refine r_d [7,11] ?_;refine c_s (fun K hK=>?_) ?_
     ·(go_simp;refine (bI.out wr.drew (b_.drew)).mono ?_;rintro e' w5 ⟨u,vu,r,rfl,ap,ak,ac,aj⟩;obtain ⟨Au,cu,rfl,_⟩:=HasR.shape (ac [] (by simp)) rfl;have aT:=z_ ap;have ax:=z_ ak;have aF:=z_ ac;have ab:Hid (Below wr.heap.size wr w5):=z_ ((b_.drew).trans aj);have cm:=ab.out.size;have ag:=z_ (ad.out w5 ab.out);clear ap ak ac aj;(try unfold aggT);(try dsimp only))
      refine k_o hK ?_ (fun bJ=>?_)
      ·exact c86_
      clear hK K aS;refine t_k 8 ?_;refine t_k 9 ?_;refine t_k 10 ?_;refine r_d [11] ?_;refine c_s (fun K hK=>?_) ?_
      ·go_simp
       refine k_o hK ?_ (fun bK=>?_)
       ·exact c86_
       clear hK K bJ;refine r_d [12] ?_;refine c_s (fun K hK=>?_) ?_
       ·go_simp
        refine k_o hK ?_ (fun bL=>?_)
        ·exact c86_
        clear hK K bK;refine r_d [13] ?_;refine c_s (fun K hK=>?_) ?_
        ·go_simp
         refine k_o hK ?_ (fun cP=>?_)
         ·exact c86_
         clear hK K bL;refine wpAnyH_done k_ ?_ _;refine NoPanic.normal ?_;have bM:Below w5.heap.size w5 (w5.alloc (.cells #[.int .i64 u.op,.string (bstr u.name),.int .i64 u.sort,.slice Au u.args.length cu] 38)):=b_.alloc n_ _;have cQ:=z_ (ab.out.trans (bM.mono cm));have aQ:Hid (∀ X:List Nat,(∀ k∈X,w0.heap.size≤k∧k<wr.heap.size)→HasTs 22 0 (tmr.qb0 X (w5.alloc (.cells #[.int .i64 u.op,.string (bstr u.name),.int .i64 u.sort,.slice Au u.args.length cu] 38))) (.slice Au u.args.length cu) u.args):=z_ (fun X hX=>qbf _ (qvl (Chg.of_below bM)) (aF.out X (fun k hk=>by have:=hX k hk;exact ⟨this.1,by simp;omega⟩)));have ay:Hid ((w5.alloc (.cells #[.int .i64 u.op,.string (bstr u.name),.int .i64 u.sort,.slice Au u.args.length cu] 38)).heap[w5.heap.size]? =some (.cells #[.int .i64 u.op,.string (bstr u.name),.int .i64 u.sort,.slice Au u.args.length cu] 38 (0,0))):=z_ (termt.qa5 _ _ _ rfl);clear ag bM;go_wp2_with fail
         go_meet
         exact ⟨w5.heap.size,u,.slice Au u.args.length cu,r,rfl,rfl,z_ (grami.box4 ay.out),aT,ax,aQ,cQ⟩
        exact a_l
       exact a_l
      exact a_l
     refine c_s (fun K hK=>?_) ?_
     ·go_simp
      refine k_o hK ?_ (fun bN=>?_)
      ·exact c86_
      clear hK K aS;refine r_d [7] ?_;refine c_s (fun K hK=>?_) ?_
      ·(go_simp;refine (bI.out _ (by repeat (first|exact Below.refl _ _|exact ab.out|refine Below.drew ?_|refine Below.alloc ?_ (by first|omega|(simp;done)|(simp;omega)) _))).mono ?_;rintro e' w5 ⟨u,vu,r,rfl,ap,ak,ac,aj⟩;obtain ⟨Au,cu,rfl,_⟩:=HasR.shape (ac [] (by simp)) rfl;have aT:=z_ ap;have ax:=z_ ak;have aF:=z_ ac;have ab:Hid (Below wr.heap.size wr w5):=z_ ((show Below wr.heap.size wr _ from (by repeat (first|exact Below.refl _ _|exact ab.out|refine Below.drew ?_|refine Below.alloc ?_ (by first|omega|(simp;done)|(simp;omega)) _))).trans (aj.mono (by first|(simp;done)|(simp;omega))));have cm:=ab.out.size;have ag:=z_ (ad.out w5 ab.out);have az:w5.heap[wr.heap.size]? =some (.cells #[.int .i64 0,.string { data:=#[] },.int .i64 0,.slice none 0 0] 38 (0,0)):=(aj.block _ (by first|(simp;done)|(simp;omega))).trans (termt.qa5 _ _ _ (by simp));have cR:=z_ az;obtain ⟨z0,z1,z2,z3⟩:=grami.box4 az;have q0:w5.frozen? ⟨wr.heap.size,0,none⟩=false:=g_ w5 _ 0 _ _ az;have q1:w5.frozen? ⟨wr.heap.size,1,none⟩=false:=g_ w5 _ 1 _ _ az;have q2:w5.frozen? ⟨wr.heap.size,2,none⟩=false:=g_ w5 _ 2 _ _ az;have q3:w5.frozen? ⟨wr.heap.size,3,none⟩=false:=g_ w5 _ 3 _ _ az;have am:Hid (∀ u0 u1 u2 u3,(fun w'=>(w'.cell? ⟨w.heap.size,0,none⟩=some (.slice A1 m1 c1)∧w'.cell? ⟨w.heap.size,1,none⟩=some (.slice A2 m2 c2)∧w'.cell? ⟨w.heap.size,2,none⟩=some (.slice A3 m3 c3))∧w'.cell? ⟨w.heap.size+1,3,none⟩=some (.slice (some ⟨g,o,none⟩) tl cb)∧w'.cell? ⟨g,o+p*4,none⟩=some (.int .i64 xo)∧w'.cell? ⟨g,o+p*4+1,none⟩=some (.string (bstr xn))∧w'.cell? ⟨g,o+p*4+2,none⟩=some (.int .i64 xs)∧w'.cell? ⟨g,o+p*4+3,none⟩=some (.slice B2 xl cx)) (set4 w5 wr.heap.size u0 u1 u2 u3)):=z_ (fun u0 u1 u2 u3=>ad.out _ (qa6 ab.out n_ u0 u1 u2 u3));clear ap ak ac aj az;(try unfold aggT);(try dsimp only))
       refine k_o hK ?_ (fun bO=>?_)
       ·exact c86_
       clear hK K bN;refine t_k 8 ?_;refine t_k 9 ?_;refine t_k 10 ?_;refine r_d [12] ?_;refine c_s (fun K hK=>?_) ?_
       ·go_simp
        refine k_o hK ?_ (fun bP=>?_)
        ·exact c86_
        clear hK K bO;refine r_d [13] ?_;refine c_s (fun K hK=>?_) ?_
        ·go_simp
         refine k_o hK ?_ (fun cS=>?_)
         ·exact c86_
         clear hK K bP;refine wpAnyH_done k_ ?_ _;refine NoPanic.normal ?_;have cT:=z_ (qdq cR.out (.int .i64 u.op) (.string (bstr u.name)) (.int .i64 u.sort) (.slice Au u.args.length cu));have ay:Hid (Below wr.heap.size wr (set4 w5 wr.heap.size (.int .i64 u.op) (.string (bstr u.name)) (.int .i64 u.sort) (.slice Au u.args.length cu))):=z_ (qa6 ab.out n_ _ _ _ _)
         have aQ:Hid (∀ X:List Nat,(∀ k∈X,w0.heap.size≤k∧k<wr.heap.size)→HasTs 22 0 (tmr.qb0 X (set4 w5 wr.heap.size (.int .i64 u.op) (.string (bstr u.name)) (.int .i64 u.sort) (.slice Au u.args.length cu))) (.slice Au u.args.length cu) u.args):=z_ (fun X hX=>qbf _ (rebq.qdm (S:=wr.heap.size::X) (S':=X) (((((Chg.refl _ w5).trans (Chg.set (by simp) _)).trans (Chg.set (by simp) _)).trans (Chg.set (by simp) _)).trans (Chg.set (by simp) _)) (fun k hk=>.inl (List.mem_cons_of_mem _ hk))) (aF.out (wr.heap.size::X) (fun k hk=>by
          rcases List.mem_cons.1 hk with rfl|hk
          ·exact ⟨Nat.le_trans bb.out.size aw.out.size,by simp⟩
          ·have:=hX k hk
           exact ⟨this.1,by simp;omega⟩)))
         clear ag am;go_wp2_with fail
         go_meet
         exact ⟨wr.heap.size,u,.slice Au u.args.length cu,r,rfl,rfl,z_ (grami.box4 cT.out),aT,ax,aQ,ay⟩
        exact a_l
       exact a_l
      exact a_l
     exact a_l
    case rest=>
     obtain ⟨gx,u,vu,r,rfl,rfl,cU,aT,ax,aF,bi⟩:=hcut;obtain ⟨w6,rfl⟩:∃ w6,w6=wc:=⟨wc,rfl⟩;clear bI ad;obtain ⟨b0,b1,b2,b3⟩:=cU.out;have bQ:=z_ (HB.out.trans (bi.out.mono bA));cases r with
     | false=>
      have cV:Hid (rebM (appF P Q O σ) t=none):=z_ (by
       have h1:=bD.out;rw [ax.out rfl] at h1;rw [aB.out,qry h1]
       rfl)
      obtain ⟨_,aU,_,_,⟨z0,z1,z2,z3⟩,⟨q0,q1,q2,q3⟩⟩:=aO.out w6 bQ.out;have HZ:=z_ (b9.out cV.out w6 aU);clear b0 b1 b2 b3 x0 x1 x2 y0 y1 y2 y3 aU;go_wp2;refine bodyPost_ret (v:=.tuple #[.agg #[.int .i64 0,.string { data:=#[] },.int .i64 0,.slice none 0 0],.bool false]) (by simp [results,Tryz.results38,go_sem,z0,z1,z2,z3]) rfl ?_;exact HZ.out _ _ _ _
     | true=>
      obtain ⟨cn,co,cp,be⟩:=aT.out rfl;obtain ⟨Au,cu,rfl,_⟩:=HasR.shape (aF.out [] (by simp)) rfl;have aV:=z_ (And.intro cn (And.intro co (And.intro cp be)));obtain ⟨j0,cW,cX,cY,cZ⟩:=info_parts qb1;have cq:=bQ.out.size;have ct:=z_ (qa2 HO.out bi.out);have an:Hid (∀ ob,Below w6.heap.size w6 (w6.alloc ob)):=z_ (fun ob=>b_.alloc n_ ob);have db:R.length≤1048576:=by have:=ci.out.2;omega
      clear cn co cp be;go_wp2_with (at_builtin;go_loud (refine wpList_append_lies _ rfl _ _ _ rfl W.heap.size 38 j0 _ 4 56 Tryz.underlying36 cW cX cY cZ rfl o_ (.slice AL R.length cL) R.length (rowV R) rfl (qa2 ct.out (an.out _)) ⟨w6.heap.size,0,none⟩ 1 1 [.int .i64 u.op,.string (bstr u.name),.int .i64 u.sort,.slice Au u.args.length cu] rfl rfl (fun q x hq=>rebw.qj0 _ _ _ _ _ _ q x hq) (rebw.qcv rfl rfl rfl rfl) o_ (by unfold maxLen;omega) o_ (Nat.le_trans cq (an.out _).size) _ rfl ?_);intro g4 aW w7 aq aa bR bS)
      have cv:=rebq.qco HO.out;have c0:Hid (w7.ownsRow W.heap.size 38 4 (.slice (some ⟨g4,0,none⟩) (R.length+1) aW) (R++[(u,Value.slice Au u.args.length cu)]).length (rowV (R++[(u,Value.slice Au u.args.length cu)]))):=z_ (by rw [qbv,List.length_append];exact aq);have c4:=z_ (qm3 bQ.out (an.out _) aa ct.out cq)
      have bT:Hid (rebL (appF P Q O σ) (L.take (p+1))=some ((R++[(u,Value.slice Au u.args.length cu)]).map Prod.fst)):=z_ (by
       rw [bD.out,aV.out.1,List.map_append]
       rfl)
      have bU:Hid (∀ y∈R++[(u,Value.slice Au u.args.length cu)],(qau P Q O y.1∧LimT y.1)∧tmr.El 21 0 (tmr.qb0 (Value.slice (some ⟨g4,0,none⟩) (R.length+1) aW).ownBlock.toList w7) y):=z_ (by
       have c6:=bi.out.size;have cw:=(an.out (.cells #[.int .i64 u.op,.string (bstr u.name),.int .i64 u.sort,.slice Au u.args.length cu] 38));intro y hy;rcases List.mem_append.1 hy with hy|hy
       ·obtain ⟨h1,h2⟩:=aE.out y hy
        refine ⟨h1,qbf _ (rebq.qdm (S:=(Value.slice AL R.length cL).ownBlock.toList) (((Chg.of_below bi.out).trans (Chg.of_below cw)).trans ⟨aa.os,aa.tape,aa.output,aa.size,fun k hk hn=>aa.block k hk (fun e=>hn (by rw [← e];simp))⟩) (fun k hk=>?_)) h2.1,h2.2⟩;simp [Value.ownBlock] at hk;subst hk;rcases bR with h3|h3
        ·exact .inl (by rw [h3];simp)
        ·right;rw [h3];simp;omega
       ·simp at hy
        subst hy;refine ⟨⟨aV.out.2.1,aV.out.2.2.1⟩,?_,aV.out.2.2.2⟩;have hd:depths u.args≤21:=by
         have h3:=aV.out.2.2.1.2.1;have h4:=termro.qan u;omega
        have c7:∀ k∈(Value.slice AL R.length cL).ownBlock.toList,w0.heap.size≤k∧k<wr.heap.size:=fun k hk=>by
         have h8:=cv k (by simpa using hk);have:=bb.out.size;have:=b8.out.size;omega
        refine (rebp.qhm (qbf _ (rebq.qdm (S:=(Value.slice AL R.length cL).ownBlock.toList) ((Chg.of_below cw).trans ⟨aa.os,aa.tape,aa.output,aa.size,fun k hk hn=>aa.block k hk (fun e=>hn (by rw [← e];simp))⟩) (fun k hk=>?_)) (aF.out _ c7))).up hd;simp [Value.ownBlock] at hk;subst hk;rcases bR with h3|h3
        ·exact .inl (by rw [h3];simp)
        ·right;rw [h3];simp)
      clear aq aa bR bS cv b0 b1 b2 b3 x0 x1 x2 y0 y1 y2 y3;go_wp2;go_roundg (gk-1)
      case measure=>omega
      case rel=>exact ⟨p+1,_,by go_num,by omega,by omega,bT,bU,c0,c4⟩
   ·obtain rfl:p=tl:=o_
    have d1:decide ((p:Int)<(p:Int))=false:=f_
    have cy:Hid (rebL (appF P Q O σ) L=some (R.map Prod.fst)):=z_ (by
     have h1:=bz.out
     rwa [List.take_of_length_le (by have:=bn.out;omega)] at h1)
    obtain ⟨zs,au⟩:=e_ (R.map Prod.fst);have dc:=z_ au;obtain ⟨r,hr⟩:=x_ (CanS P Q O tO.toNat zs∧LimT (qbp O tO.toNat zs))
    have cz:Hid (∀ a∈zs,qau P Q O a∧LimT a):=z_ (fun a ha=>by
     rw [au] at ha;obtain ⟨y,hy,rfl⟩:=List.mem_map.1 ha
     exact (aE.out y hy).1)
    have aX:sizes zs≤1048576:=by rw [au];have:=ci.out.1;omega
    have aY:HasTs 22 0 wr (.slice AL R.length cL) zs:=by
     rw [au];exact qvm HO.out (fun x hx=>(aE.out x hx).2) y_ (qdb _ _) (Kept.refl _ _)
    have HM:=z_ (a6.out ax.out zs (.slice AL R.length cL) r wr ai aY cz.out aX hr)
    have aZ:Hid (∀ (t':TermM) (v':Value) (w5:World),(r=true→t'=qbp O tO.toNat zs)→HasTs 22 wr.heap.size w5 v' t'.args→Below wr.heap.size wr w5→∀ u0 u1 u2 u3,AppR P Q O σ t w0 w (.returned (.tuple #[.agg #[.int .i64 t'.op,.string (bstr t'.name),.int .i64 t'.sort,v'],.bool r])) (set4 w5 (w.heap.size+2) u0 u1 u2 u3)):=z_ (fun t' v' w5 ht hv hb u0 u1 u2 u3=>by
     have bV:=aw.out.trans (hb.mono aw.out.size);refine ⟨t',v',r,rfl,fun h=>?_,fun h=>?_,fun X hX=>(HasR.kept (qa8 22) hv ((qay o_ _ _ _ _).trans (qk4 (fun k hk=>by have:=(hX k hk).2;have:=aw.out.size;omega)))).mono (qa8 22) y_,qa6 bV o_ _ _ _ _⟩
     ·have h1:=cM.out zs (hr.1 h)
      rw [ht h];obtain ⟨h2,h3⟩:=aL.out zs (fun a ha=>(cz.out a ha).1) (hr.1 h);refine ⟨?_,h2,h3,?_⟩
      ·rw [aB.out,cy.out,← au]
       exact h1
      ·rw [au]
       exact aM.out R (fun x hx=>(aE.out x hx).2.2) (fun x hx=>qph (aE.out x hx).2)
     ·rw [aB.out,cy.out,← au]
      exact cN.out zs (fun hq=>by rw [hr.2 hq] at h;cases h))
    unfold aggT at HM;clear au hr aX aY ai;go_wp2_with fail
    refine HM.out.mono ?_;rintro e w5 ⟨t',v',rfl,cA,bW,aj⟩;obtain ⟨A5,c5,rfl,_⟩:=HasR.shape bW rfl;have HF:=z_ (aZ.out t' _ w5 cA bW aj);clear x0 x1 x2 y0 y1 y2 y3 z0 z1 z2 z3 q0 q1 q2 q3;obtain ⟨_,_,_,_,⟨z0,z1,z2,z3⟩,⟨q0,q1,q2,q3⟩⟩:=aO.out w5 (HB.out.trans (aj.mono bA));clear cA bW aj HM aZ;go_wp2;refine bodyPost_ret (v:=.tuple #[.agg #[.int .i64 t'.op,.string (bstr t'.name),.int .i64 t'.sort,.slice A5 t'.args.length c5],.bool r]) (by simp [results,Tryz.results38,go_sem,z0,z1,z2,z3]) rfl ?_;exact HF.out _ _ _ _
theorem qwr (P:List (List UInt8))(Q:List (Int×Int))(O:List OpM)(aa:qad P Q O=true)(σ:List BindM)(hσ:qBc P Q O σ)(ab:σ.length≤1048576):∀ n,qwq P Q O σ n
 | 0=>qs0 P Q O aa σ hσ ab 0 (fun m h=>by omega)
 | n+1=>qs0 P Q O aa σ hσ ab (n+1) (fun m h=>by
  obtain rfl:m=n:=o_
  exact qwr P Q O aa σ hσ ab m)
end Go.Proofs.YtiilamngcoegiaaGreat.sapp
