
import Derived.Test.YtiilamngcoegiaaGreatQPk19
import Derived.Deep.DeepCutAuto
import Derived.Deep.LoopGhost
namespace Go.Proofs.YtiilamngcoegiaaGreat.sapp
open Go.ChangeShapes Go.WideShapes Go.ChangeAt Go.RowKit
open mem dec setm sets sortm sortn sortp sorti sortf sortu sortg sigm sigs sigt sigl sigb rowl trm trmv terml termb termt termx termz termro termsd termv termvr termvo termev termin frm termlm sigi sigj sigk gram gramo graml gramk gramc gramn gramt grami formlf formnd formk formr formf formt formm termcl termpr termw tma tmm tmr tsk tmb tmf tmg tmc tmi tml tmn rebp rebc bndl inst insn insg scan
noncomputable def appF (P:List (List UInt8))(Q:List (Int×Int))(O:List OpM)(σ:List BindM)(t:TermM)(zs:List TermM):Option TermM:=by
 classical
 exact if t.op=-1 then some (valM σ t) else if CanS P Q O t.op.toNat zs∧LimT (qbs O t.op.toNat zs) then some (qbs O t.op.toNat zs) else none
def qBo (P:List (List UInt8))(Q:List (Int×Int))(O:List OpM)(σ:List BindM):Prop:=∀ b∈σ,qay P Q O b.t∧LimT b.t∧b.v.args=[]
def AppR (P:List (List UInt8))(Q:List (Int×Int))(O:List OpM)(σ:List BindM)(t:TermM)(w0 w:World)(e:Ending)(w':World):Prop:=
 ∃ u vu r,e=.returned (.tuple #[aggT u vu,.bool r])∧(r=true→rebM (appF P Q O σ) t=some u∧qay P Q O u∧LimT u∧Bnd u)∧(r=false→rebM (appF P Q O σ) t=none)∧(∀ X:List Nat,(∀ k∈X,w0.heap.size≤k∧k<w.heap.size)→HasTs 22 0 (tmr.qb4 X w') vu u.args)∧Below w.heap.size w w'
theorem qzi {a b:TermM}(ha:a.args=[])(hb:b.args=[]):cmp a b=cmpN a b:=by
 have e:=TermM.eta a;rw [ha] at e;rw [← e,qtt,hb];show _=cmpN (.mk a.op a.name a.sort []) b;unfold cmpN;simp only [cmpL];show (if cmpI a.op b.op≠0 then cmpI a.op b.op else if cmpB a.name b.name≠0 then cmpB a.name b.name else if cmpI a.sort b.sort≠0 then cmpI a.sort b.sort else 0)=(if cmpI a.op b.op≠0 then cmpI a.op b.op else if cmpB a.name b.name≠0 then cmpB a.name b.name else cmpI a.sort b.sort);by_cases h1:cmpI a.op b.op≠0
 ·rw [if_pos h1,if_pos h1]
 ·rw [if_neg h1,if_neg h1]
  by_cases h2:cmpB a.name b.name≠0
  ·rw [if_pos h2,if_pos h2]
  ·rw [if_neg h2,if_neg h2]
   by_cases h3:cmpI a.sort b.sort≠0
   ·rw [if_pos h3]
   ·rw [if_neg h3];exact (Decidable.not_not.1 h3).symm
theorem qwy {F:TermM→List TermM→Option TermM}:∀ {L zs:List TermM},rebL F L=some zs→zs.length=L.length
 | [],zs,h=>by simp [rebL] at h;subst h;rfl
 | a::L,zs,h=>by
  simp only [rebL] at h;cases ha:rebM F a with
  | none=>rw [ha] at h;simp at h
  | some v=>
   rw [ha] at h;cases hk:rebL F L with
   | none=>rw [hk] at h;simp at h
   | some ks=>
    rw [hk] at h;simp at h;subst h;simp [qwy hk]
theorem qs5:∀ {L:List TermM},(∀ a∈L,size a≤60)→qa2 L≤60*L.length
 | [],_=>by simp [qa2]
 | a::L,h=>by
  have h1:=h a (by simp);have h2:=qs5 (L:=L) (fun x hx=>h x (by simp [hx]));have e:qa2 (a::L)=size a+qa2 L:=by simp [qa2]
  rw [e,List.length_cons];omega
def qwz (P:List (List UInt8))(Q:List (Int×Int))(O:List OpM)(σ:List BindM)(n:Nat):Prop:=
 ∀ (va vb vc lv:Value) (t:TermM) (ve:Value) (w0 w:World) (lo n':Nat),n'≤22→HasBs n' 0 w0 lv σ→Below w0.heap.size w0 w→HasG w va vb vc P Q O→HasTs n lo w ve t.args→Bnd t→qay P Q O t→LimT t→Calls Tryz.prog 38 #[.agg #[va,vb,vc],lv,aggT t ve] w (AppR P Q O σ t w0 w)
theorem c93_ {p:Prop}(h:p:=by
 (try dsimp only);first|(with_reducible exact ag.out)|(with_reducible exact am.out _ _ _ _)|(exact ad.out _ (by repeat (first|exact Below.refl _ _|exact ab.out|refine Below.drew ?_|refine Below.alloc ?_ (by first|omega|(simp;done)|(simp;omega)) _)))
):p:=h
set_option maxRecDepth 100000 in
set_option maxHeartbeats 16000000 in
theorem qs6 (P:List (List UInt8))(Q:List (Int×Int))(O:List OpM)(a6:qah P Q O=true)(σ:List BindM)(hσ:qBo P Q O σ)(bZ:σ.length≤1048576)(N:Nat)(IH:∀ m,N=m+1→qwz P Q O σ m):qwz P Q O σ N:=by
 intro va vb vc lv t ve w0 w lo n' bk hl aA h ht hB aG aH;have hsz:qa2 t.args≤60:=by have h1:=aH.1;have h2:=termro.qao t;omega
 have b4:t.args.length≤60:=Nat.le_trans (qat _) hsz;have aI:t.args.length≤1048576:=o_;have av:Hid (∀ W,Below w.heap.size w W→Calls Tryz.prog 85 #[lv,aggT t ve] W fun e w'=>∃ u vu r,e=.returned (.tuple #[aggT u vu,.bool r])∧(r=true→∃ j,j<σ.length∧(∀ i,i<j→cmp (σ.getD i default).v t≠0)∧cmp (σ.getD j default).v t=0∧u=(σ.getD j default).t∧Bnd u)∧(r=false→∀ i,i<σ.length→cmp (σ.getD i default).v t≠0)∧HasTs n' 0 w0 vu u.args∧Below W.heap.size W w'):=z_ (fun W hW=>qBn (n:=n') (m:=N) (lo:=0) (lo':=lo) σ lv t ve hB w0 W hl (aA.trans (hW.mono aA.size)) (ht.below n_ hW) bZ);have cD:=z_ hσ
 have ae:∀ a∈t.args,qay P Q O a∧LimT a:=fun a ha=>by
  have h1:=((qar P Q O t).1 aG).2.1 a ha;obtain ⟨i,hi,e⟩:=List.getElem_of_mem ha;have h2:=qam (l:=t.args) (j:=i) hi;have h3:=qcs hi;rw [qai hi,e] at h2 h3;have h4:=aH.2.1;rw [termro.qas] at h4;exact ⟨h1,by have:=aH.1;have:=termro.qao t;omega,by omega,((qvh a6 a).2 h1).1⟩
 have bl:Hid (∀ m,N=m+1→∀ (x:TermM) (vx:Value) (W:World),Below w.heap.size w W→HasTs m lo W vx x.args→Bnd x→qay P Q O x→LimT x→Calls Tryz.prog 38 #[.agg #[va,vb,vc],lv,aggT x vx] W (AppR P Q O σ x w0 W)):=z_ (fun m hm x vx W hW hx cE cF cG=>IH m hm va vb vc lv x vx w0 W lo n' bk hl (aA.trans (hW.mono aA.size)) (h.below n_ hW) hx cE cF cG)
 have a7:Hid ((0≤t.op∧t.op<O.length)→∀ (zs:List TermM) (vz:Value) (r:Bool) (W:World),Below w.heap.size w W→HasTs 22 0 W vz zs→(∀ a∈zs,qay P Q O a∧LimT a)→qa2 zs≤1048576→(r=true↔CanS P Q O t.op.toNat zs∧LimT (qbs O t.op.toNat zs))→Calls Tryz.prog 86 #[.agg #[va,vb,vc],.int .i64 t.op,vz] W fun e w'=>∃ t' v',e=.returned (.tuple #[aggT t' v',.bool r])∧(r=true→t'=qbs O t.op.toNat zs)∧HasTs 22 W.heap.size w' v' t'.args∧Below W.heap.size W w'):=z_ (fun ak zs vz r W hW hz hf hs hr=>by
  obtain ⟨k,hk⟩:∃ k:Nat,t.op=(k:Int):=⟨t.op.toNat,by omega⟩;rw [hk,Int.toNat_natCast] at hr ⊢
  exact qpv (N:=21) (lo:=0) P Q O a6 va vb vc k o_ zs vz W (h.below n_ hW) hz hf hs r hr)
 obtain ⟨A1,c1,A2,c2,A3,c3,rfl,rfl,rfl,_⟩:=h.shape;obtain ⟨B,cb,rfl,_⟩:=HasR.shape ht rfl;obtain ⟨sl,b5⟩:=e_ (σ.length);obtain ⟨Al,cl,rfl,_⟩:=HasR.shape hl b5.symm;obtain ⟨m1,b6⟩:=e_ (P.length);obtain ⟨m2,b7⟩:=e_ (Q.length);obtain ⟨m3,aJ⟩:=e_ (O.length);have hm30:m3≤9223372036854775807:=by rw [aJ];exact h.o.len.2.1
 rw [← b6,← b7,← aJ] at bl a7 ⊢;unfold aggT at av;unfold aggT;have aB:Hid (rebM (appF P Q O σ) t=(rebL (appF P Q O σ) t.args).bind (appF P Q O σ t)):=z_ (qrd _ t)
 have aC:Hid ((t.op=-1→∀ zs,appF P Q O σ t zs=some (valM σ t))∧(t.op≠-1→∀ zs,CanS P Q O t.op.toNat zs∧LimT (qbs O t.op.toNat zs)→appF P Q O σ t zs=some (qbs O t.op.toNat zs))∧(t.op≠-1→∀ zs,¬ (CanS P Q O t.op.toNat zs∧LimT (qbs O t.op.toNat zs))→appF P Q O σ t zs=none)):=z_ (by
  refine ⟨fun h1 zs=>?_,fun h1 zs h2=>?_,fun h1 zs h2=>?_⟩
  ·unfold appF;rw [if_pos h1]
  ·unfold appF;rw [if_neg h1,if_pos h2]
  ·unfold appF;rw [if_neg h1,if_neg h2])
 have aK:Hid (t.op≠-1→0≤t.op∧t.op<m3):=z_ (fun hv=>by
  have h1:=((qar P Q O t).1 aG).1;unfold qby at h1;rw [if_neg hv] at h1;rw [aJ]
  exact h1.1)
 have aL:Hid (t.op≠-1→∀ zs,(∀ a∈zs,qay P Q O a)→CanS P Q O t.op.toNat zs∧LimT (qbs O t.op.toNat zs)→qay P Q O (qbs O t.op.toNat zs)∧LimT (qbs O t.op.toNat zs)):=z_ (fun hv zs hA hc=>by
  have hr:=aK.out hv;refine qkh a6 (t:=.mk t.op [] 0 []) (zs:=zs) hA ?_;unfold qt3;rw [if_neg (show (TermM.mk t.op [] 0 []).op≠-1 from hv),if_pos ⟨⟨by show 0≤t.op∧t.op<_;rw [← aJ];exact hr,rfl,rfl⟩,hc.1,hc.2⟩]
  rfl)
 have aM:Hid (t.op≠-1→∀ (R:List (TermM×Value)),(∀ x∈R,Bnd x.1)→(∀ x∈R,∀ a∈x.1.args,Bnd a)→Bnd (qbs O t.op.toNat (R.map Prod.fst))):=z_ (fun hv R h1 h2=>by
  have hr:=aK.out hv;have hk:t.op.toNat<O.length:=o_;obtain ⟨_,db,_,_,cH⟩:=qa8 a6;have aN:=cH _ (qhm hk);simp only [axOk,qdf,qe4,Bool.and_eq_true,Bool.or_eq_true,decide_eq_true_eq,Bool.not_eq_true'] at aN;have bm:0≤(O.getD t.op.toNat default).unt∧(O.getD t.op.toNat default).unt≤14:=by
   rcases aN.2 with h4|h4
   ·omega
   ·have:=h4.1.1;omega
  exact qmc (by unfold I64;omega) bm.1 o_ h1 h2)
 have aD:Hid (t.op=-1→t.args=[]∧TermM.mk t.op t.name t.sort []=t):=z_ (fun hv=>by
  have h1:=((qar P Q O t).1 aG).1;unfold qby at h1;rw [if_pos hv] at h1;have h2:=List.eq_nil_of_length_eq_zero h1.2.2;have h3:=TermM.eta t;rw [h2] at h3
  exact ⟨h2,h3⟩)
 have a8:Hid (t.op=-1→(∀ j,j<σ.length→(∀ i,i<j→cmp (σ.getD i default).v t≠0)→cmp (σ.getD j default).v t=0→valM σ t=(σ.getD j default).t)∧((∀ i,i<σ.length→cmp (σ.getD i default).v t≠0)→valM σ t=t)):=z_ (fun hv=>by
  obtain ⟨h1,h2⟩:=aD.out hv;have hc:∀ i,i<σ.length→cmp (σ.getD i default).v t=cmpN (σ.getD i default).v t:=fun i hi=>qzi (hσ _ (by rw [List.getD_eq_getElem?_getD,List.getElem?_eq_getElem hi];exact List.getElem_mem _)).2.2 h1
  refine ⟨fun j hj h3 h4=>qAa hj (fun i hi=>by rw [← hc i o_];exact h3 i hi) (by rw [← hc j hj];exact h4),fun h3=>?_⟩;rw [qrz (fun i hi=>by rw [← hc i hi];exact h3 i hi)]
  exact h2)
 have bn:=z_ (And.intro aG (And.intro aH hB));obtain ⟨L,hL⟩:=e_ (t.args);have HH:Hid (HasTs N lo w (.slice B t.args.length cb) L):=z_ (by rw [hL];exact ht);rw [← hL] at aB aD av b4 aI ae HH ⊢;obtain ⟨tl,ba⟩:=e_ (L.length);have bo:=z_ ba;rw [← ba] at av b4 aI HH ⊢;obtain ⟨tO,bb⟩:=e_ (t.op);obtain ⟨tn,bp⟩:=e_ (t.name);obtain ⟨ts,bq⟩:=e_ (t.sort);have br:=z_ (And.intro bb (And.intro bp (And.intro bq (And.intro ba hL))));rw [← bb,← bp,← bq] at av ⊢;rw [← bb] at aC aK aL a7 aM aD a8;have bs:=z_ ae;have cI:=z_ bk;have bc:=z_ aA;clear h ht hB hsz hL b6 b7 aJ ba bb bp bq IH hl aA hσ bZ b5 aG aH ae bk;obtain ⟨W1,ao⟩:=e_ ((w.alloc (.cells #[.slice A1 m1 c1,.slice A2 m2 c2,.slice A3 m3 c3] 46)).alloc (.cells #[.int .i64 tO,.string (bstr tn),.int .i64 ts,.slice B tl cb] 38));obtain ⟨W,hW⟩:=e_ (W1.alloc (.cells #[.int .i64 0,.string { data:=#[] },.int .i64 0,.slice none 0 0] 38));have b8:W1.heap.size=w.heap.size+2:=by rw [ao];simp
 have cJ:W.heap.size=w.heap.size+3:=by rw [hW];simp [b8]
 have bt:=fr1_ hW;have bd:Below w.heap.size w W:=by
  rw [hW,ao];exact v_
 have bu:W.heap[w.heap.size]? =some (.cells #[.slice A1 m1 c1,.slice A2 m2 c2,.slice A3 m3 c3] 46 (0,0)):=(bt.block _ o_).trans (by rw [ao];exact tsl.qbd _ _ _);have bv:W.heap[w.heap.size+1]? =some (.cells #[.int .i64 tO,.string (bstr tn),.int .i64 ts,.slice B tl cb] 38 (0,0)):=(bt.block _ o_).trans (by rw [ao];exact termt.qa5 _ _ _ (by simp));have b9:W.heap[w.heap.size+2]? =some (.cells #[.int .i64 0,.string { data:=#[] },.int .i64 0,.slice none 0 0] 38 (0,0)):=by rw [hW];exact termt.qa5 _ _ _ o_
 have ca:=z_ bd
 have aO:Hid (∀ w3,Below W.heap.size W w3→w.heap.size+3≤w3.heap.size∧Below w.heap.size w w3∧(w3.cell? ⟨w.heap.size,0,none⟩=some (.slice A1 m1 c1)∧w3.cell? ⟨w.heap.size,1,none⟩=some (.slice A2 m2 c2)∧w3.cell? ⟨w.heap.size,2,none⟩=some (.slice A3 m3 c3))∧(w3.cell? ⟨w.heap.size+1,0,none⟩=some (.int .i64 tO)∧w3.cell? ⟨w.heap.size+1,1,none⟩=some (.string (bstr tn))∧w3.cell? ⟨w.heap.size+1,2,none⟩=some (.int .i64 ts)∧w3.cell? ⟨w.heap.size+1,3,none⟩=some (.slice B tl cb))∧
   (w3.cell? ⟨w.heap.size+2,0,none⟩=some (.int .i64 0)∧w3.cell? ⟨w.heap.size+2,1,none⟩=some (.string { data:=#[] })∧w3.cell? ⟨w.heap.size+2,2,none⟩=some (.int .i64 0)∧w3.cell? ⟨w.heap.size+2,3,none⟩=some (.slice none 0 0))∧(w3.frozen? ⟨w.heap.size+2,0,none⟩=false∧w3.frozen? ⟨w.heap.size+2,1,none⟩=false∧w3.frozen? ⟨w.heap.size+2,2,none⟩=false∧w3.frozen? ⟨w.heap.size+2,3,none⟩=false)):=z_ (fun w3 h3=>by
  have h4:=(h3.block _ o_).trans bu;have h5:=(h3.block _ o_).trans bv;have h6:=(h3.block _ o_).trans b9
  exact ⟨by have:=h3.size;omega,bd.trans (h3.mono bd.size),tsl.box3 h4,grami.box4 h5,grami.box4 h6,⟨g_ w3 _ 0 _ _ h6,g_ w3 _ 1 _ _ h6,g_ w3 _ 2 _ _ h6,g_ w3 _ 3 _ _ h6⟩⟩)
 have cc:Hid (rebM (appF P Q O σ) t=none→∀ w3,Below w.heap.size w w3→∀ u0 u1 u2 u3,AppR P Q O σ t w0 w (.returned (.tuple #[.agg #[.int .i64 0,.string { data:=#[] },.int .i64 0,.slice none 0 0],.bool false])) (set4 w3 (w.heap.size+2) u0 u1 u2 u3)):=z_ (fun hr w3 h3 u0 u1 u2 u3=>
  ⟨zT,.slice none 0 0,false,rfl,fun h=>(by cases h),fun _=>hr,fun _ _=>HasR.nil _ _ _ Aa_ _,qa9 h3 o_ _ _ _ _⟩)
 obtain ⟨x0,x1,x2⟩:=tsl.box3 bu;obtain ⟨y0,y1,y2,y3⟩:=grami.box4 bv;obtain ⟨vr,be⟩:∃ b,decide (tO=-1)=b:=⟨_,rfl⟩;have cK:(tO==-1)=vr:=by rw [← be,Bool.eq_iff_iff];simp
 clear bd bt bu bv b9 cJ b8;cases vr with
 | true=>
  have ah:=of_decide_eq_true be;obtain ⟨al,bw⟩:=aD.out ah;obtain ⟨cd,ce⟩:=a8.out ah
  have bx:Hid (rebM (appF P Q O σ) t=some (valM σ t)):=z_ (by
   rw [aB.out];obtain ⟨e1,e2,e3,e4,e5⟩:=br.out;rw [al]
   exact aC.out.1 ah [])
  have cf:Hid (∀ (u:TermM) (vu:Value),u=valM σ t→qay P Q O u∧LimT u→Bnd u→HasTs n' 0 w0 vu u.args→∀ w3,Below w.heap.size w w3→∀ u0 u1 u2 u3,AppR P Q O σ t w0 w (.returned (.tuple #[.agg #[.int .i64 u.op,.string (bstr u.name),.int .i64 u.sort,vu],.bool true])) (set4 w3 (w.heap.size+2) u0 u1 u2 u3)):=z_ (fun u vu hu hf bf ac w3 h3 u0 u1 u2 u3=>by
   have aP:=qa9 h3 (show w.heap.size≤w.heap.size+2 by omega) u0 u1 u2 u3
   exact ⟨u,vu,true,rfl,fun _=>⟨by rw [bx.out,hu],hf.1,hf.2,bf⟩,fun h=>(by cases h),fun X hX=>(qbh _ (qnt (bc.out.trans (aP.mono bc.out.size)) (fun k hk=>(hX k hk).1)) ac).up cI.out,aP⟩)
  have af:Hid (qay P Q O t∧LimT t∧Bnd t):=z_ ⟨bn.out.1,bn.out.2.1,bn.out.2.2⟩;have aQ:=z_ cd;have cM:=z_ ce;have cN:Hid (t.args=[]):=z_ (by obtain ⟨_,_,_,_,e5⟩:=br.out;rw [← e5];exact al);obtain ⟨x0,x1,x2⟩:True∧True∧True:=⟨trivial,trivial,trivial⟩
  have bz:Hid (HasTs n' 0 w0 (.slice B tl cb) t.args):=z_ (by
   rw [cN.out];have h1:=HH.out;rw [al] at h1;obtain ⟨A',c',e',h2,h3,_⟩:=h1
   exact ⟨A',c',e',h2,h3,fun j hj=>absurd hj (Nat.not_lt_zero _)⟩)
  clear aC aL aM aD aB cc a7 bl a8 aK cd ce al bw;subst ah;go_enter Tryz.func38,Tryz.ntmps38
  go_upto_region 1 with fail
  rw [ao] at hW;rw [← hW];clear hW ao;go_wp2_with fail
  refine (av.out W ca.out).mono ?_;rintro e w2 ⟨u,vu,r,rfl,ap,ak,ac,bA⟩;obtain ⟨Au,cu,rfl,_⟩:=HasR.shape ac rfl;obtain ⟨W3,bg⟩:=e_ (w2.alloc (.cells #[.int .i64 u.op,.string (bstr u.name),.int .i64 u.sort,.slice Au u.args.length cu] 38));have aP:=fr1_ bg;have cg:=fr2_ bg;obtain ⟨b0,b1,b2,b3⟩:=grami.box4 cg;obtain ⟨_,aR,_,⟨y0,y1,y2,y3⟩,⟨z0,z1,z2,z3⟩,⟨q0,q1,q2,q3⟩⟩:=aO.out W3 (bA.trans (aP.mono bA.size));have HR:=z_ (And.intro ap (And.intro ak ac));have aw:=z_ aR;clear ap ak ac bA aP cg aR av;go_upto_region 3 with fail
  rw [← bg];clear bg;cases r with
  | true=>
   have HF:Hid (∀ u0 u1 u2 u3,AppR P Q O σ t w0 w (.returned (.tuple #[.agg #[.int .i64 u.op,.string (bstr u.name),.int .i64 u.sort,.slice Au u.args.length cu],.bool true])) (set4 W3 (w.heap.size+2) u0 u1 u2 u3)):=z_ (by
    obtain ⟨j,hj,h1,h2,h3,h4⟩:=HR.out.1 rfl;have h5:=cD.out (σ.getD j default) (by rw [List.getD_eq_getElem?_getD,List.getElem?_eq_getElem hj];exact List.getElem_mem _)
    exact cf.out u _ (h3.trans (aQ.out j hj h1 h2).symm) (by rw [h3];exact ⟨h5.1,h5.2.1⟩) h4 HR.out.2.2 W3 aw.out)
   clear y0 y1 y2 y3;go_wp2;refine bodyPost_ret (v:=.tuple #[.agg #[.int .i64 u.op,.string (bstr u.name),.int .i64 u.sort,.slice Au u.args.length cu],.bool true]) (by simp [results,Tryz.results38,go_sem,z0,z1,z2,z3]) rfl ?_;exact HF.out _ _ _ _
  | false=>
   have HF:Hid (∀ u0 u1 u2 u3,AppR P Q O σ t w0 w (.returned (.tuple #[.agg #[.int .i64 (-1),.string (bstr tn),.int .i64 ts,.slice B tl cb],.bool true])) (set4 W3 (w.heap.size+2) u0 u1 u2 u3)):=z_ (by
    have h1:=cf.out t _ (cM.out (HR.out.2.1 rfl)).symm ⟨af.out.1,af.out.2.1⟩ af.out.2.2 bz.out W3 aw.out;obtain ⟨e1,e2,e3,_⟩:=br.out;rw [← e1,← e2,← e3] at h1
    exact h1)
   clear b0 b1 b2 b3;go_wp2;refine bodyPost_ret (v:=.tuple #[.agg #[.int .i64 (-1),.string (bstr tn),.int .i64 ts,.slice B tl cb],.bool true]) (by simp [results,Tryz.results38,go_sem,z0,z1,z2,z3]) rfl ?_;exact HF.out _ _ _ _
 | false=>
  have ah:=of_decide_eq_false be;have ax:=z_ (aK.out ah);replace aM:=z_ (aM.out ah);replace aL:=z_ (aL.out ah);have cO:=z_ (aC.out.2.1 ah);have cP:=z_ (aC.out.2.2 ah);clear aC aD a8 av;go_enter Tryz.func38,Tryz.ntmps38
  go_upto_region 1 with fail
  rw [ao] at hW;rw [← hW];clear hW ao be;go_wp2;obtain ⟨V1,bh⟩:=e_ (W.alloc (.cells #[] 38));have ch:=fr1_ bh;have hown:V1.ownsRow W.heap.size 38 4 (.slice (some ⟨W.heap.size,0,none⟩) 0 0) 0 (rowV []):=by
   have h1:=World.ownsRow_lit (e:=38) (size:=4) W #[] 0 n_ Aa_ rfl;rw [← bh] at h1;exact h1
  have ci:=z_ hown;have cj:=z_ ch;rw [← bh];clear bh ch hown;go_loopg [10,11] tl (fun gq v6 v7 wr=>∃ (p:Nat) (R:List (TermM×Value)),v7=.int .i64 p∧p≤tl∧tl≤p+gq∧Hid (rebL (appF P Q O σ) (L.take p)=some (R.map Prod.fst))∧Hid (∀ x∈R,(qay P Q O x.1∧LimT x.1)∧tmr.El 21 0 (tmr.qb4 v6.ownBlock.toList wr) x)∧Hid (wr.ownsRow W.heap.size 38 4 v6 R.length (rowV R))∧Hid (Below W.heap.size W wr))
  case atStart=>exact ⟨0,[],rfl,y_,by omega,z_ (by simp [rebL]),z_ (fun x hx=>by cases hx),ci,cj⟩
  case round=>
   obtain ⟨p,R,rfl,hp,dc,bB,aE,HO,HB⟩:=hrel;clear ci cj;obtain ⟨AL,cL,rfl,_⟩:=qaz HO.out;obtain ⟨hz,ai,⟨x0,x1,x2⟩,⟨y0,y1,y2,y3⟩,⟨z0,z1,z2,z3⟩,⟨q0,q1,q2,q3⟩⟩:=aO.out wr HB.out;have bC:=HB.out.size;have aw:=z_ ai
   have ck:Hid (qa2 (R.map Prod.fst)≤3600∧R.length≤60):=z_ (by
    have h1:=qwy bB.out;rw [List.length_map,List.length_take] at h1
    have h2:=qs5 (L:=R.map Prod.fst) (fun a ha=>by
     obtain ⟨y,hy,rfl⟩:=List.mem_map.1 ha
     exact (aE.out y hy).1.2.1)
    rw [List.length_map] at h2;have:=bo.out
    omega)
   by_cases cQ:p<tl
   ·have d1:decide ((p:Int)<(tl:Int))=true:=d_
    obtain ⟨kn,g,o,B2,cx,cm,rfl,_,hg,g0,g1,g2,g3,bD,bE⟩:=qal HH.out cQ;have cn:p<L.length:=by have:=bo.out;omega
    have f0:=(ai.cell (p:=⟨g,o+p*4,none⟩) hg).trans g0;have f1:=(ai.cell (p:=⟨g,o+p*4+1,none⟩) hg).trans g1;have f2:=(ai.cell (p:=⟨g,o+p*4+2,none⟩) hg).trans g2;have f3:=(ai.cell (p:=⟨g,o+p*4+3,none⟩) hg).trans g3;have bi:=bs.out (L.getD p default) (by rw [qai cn];exact List.getElem_mem _);have bF:=z_ (qCm cn bB.out);obtain ⟨x,hx⟩:=e_ (L.getD p default);rw [← hx] at f0 f1 f2 f3 bD bE bi bF;obtain ⟨xl,bG⟩:=e_ (x.args.length);obtain ⟨xo,bH⟩:=e_ (x.op);obtain ⟨xn,bI⟩:=e_ (x.name);obtain ⟨xs,bJ⟩:=e_ (x.sort)
    have bK:Hid (∀ Wx,Below wr.heap.size wr Wx→Calls Tryz.prog 38 #[.agg #[.slice A1 m1 c1,.slice A2 m2 c2,.slice A3 m3 c3],.slice Al sl cl,.agg #[.int .i64 xo,.string (bstr xn),.int .i64 xs,.slice B2 xl cx]] Wx (AppR P Q O σ x w0 Wx)):=z_ (fun Wx cR=>by
     have hw:=ai.trans (cR.mono ai.size);have:=bl.out kn cm x (.slice B2 x.args.length cx) Wx hw (bD.below n_ hw) bE bi.1 bi.2;unfold aggT at this;rw [bH,bI,bJ,bG]
     exact this)
    have ad:Hid (∀ w',Below wr.heap.size wr w'→(fun w'=>(w'.cell? ⟨w.heap.size,0,none⟩=some (.slice A1 m1 c1)∧w'.cell? ⟨w.heap.size,1,none⟩=some (.slice A2 m2 c2)∧w'.cell? ⟨w.heap.size,2,none⟩=some (.slice A3 m3 c3))∧w'.cell? ⟨w.heap.size+1,3,none⟩=some (.slice (some ⟨g,o,none⟩) tl cb)∧w'.cell? ⟨g,o+p*4,none⟩=some (.int .i64 xo)∧w'.cell? ⟨g,o+p*4+1,none⟩=some (.string (bstr xn))∧w'.cell? ⟨g,o+p*4+2,none⟩=some (.int .i64 xs)∧w'.cell? ⟨g,o+p*4+3,none⟩=some (.slice B2 xl cx)) w'):=z_ (fun w' h'=>by
     have h9:=aO.out w' (HB.out.trans (h'.mono bC));have h8:∀ {i:Nat} {v:Value},wr.cell? ⟨g,i,none⟩=some v→w'.cell? ⟨g,i,none⟩=some v:=fun {i v} h=>(h'.cell (p:=⟨g,i,none⟩) (l_ h)).trans h
     rw [← bH] at f0;rw [← bI] at f1;rw [← bJ] at f2;rw [← bG] at f3
     exact ⟨h9.2.2.1,h9.2.2.2.1.2.2.2,h8 f0,h8 f1,h8 f2,h8 f3⟩)
    have i1:(0:Int)≤(p:Int):=o_;have i2:(p:Int)<(tl:Int):=o_;have dd:Hid (wr.heap.size=wr.heap.size):=z_ rfl;clear cm g0 g1 g2 g3 f0 f1 f2 f3 bD bE bi hx bG bH bI bJ ai z0 z1 z2 z3 q0 q1 q2 q3;go_upto_region 10 with fail
    go_cut [12,13] (fun v8 v9 wx=>∃ (gx:Nat) (u:TermM) (vu:Value) (r:Bool),v8=Value.pointer (some ⟨gx,0,none⟩)∧v9=Value.bool r∧Hid (wx.cell? ⟨gx,0,none⟩=some (Value.int .i64 u.op)∧wx.cell? ⟨gx,1,none⟩=some (Value.string (bstr u.name))∧wx.cell? ⟨gx,2,none⟩=some (Value.int .i64 u.sort)∧wx.cell? ⟨gx,3,none⟩=some vu)∧Hid (r=true→rebM (appF P Q O σ) x=some u∧qay P Q O u∧LimT u∧Bnd u)∧Hid (r=false→rebM (appF P Q O σ) x=none)∧Hid (∀ X:List Nat,(∀ k∈X,w0.heap.size≤k∧k<wr.heap.size)→HasTs 22 0 (tmr.qb4 X wx) vu u.args)∧Hid (Below wr.heap.size wr wx))
    case first=>
     refine wp_region_noPanic ?_;refine wp_region_held_drew (S:=(fun w'=>(w'.cell? ⟨w.heap.size,0,none⟩=some (.slice A1 m1 c1)∧w'.cell? ⟨w.heap.size,1,none⟩=some (.slice A2 m2 c2)∧w'.cell? ⟨w.heap.size,2,none⟩=some (.slice A3 m3 c3))∧w'.cell? ⟨w.heap.size+1,3,none⟩=some (.slice (some ⟨g,o,none⟩) tl cb)∧w'.cell? ⟨g,o+p*4,none⟩=some (.int .i64 xo)∧w'.cell? ⟨g,o+p*4+1,none⟩=some (.string (bstr xn))∧w'.cell? ⟨g,o+p*4+2,none⟩=some (.int .i64 xs)∧w'.cell? ⟨g,o+p*4+3,none⟩=some (.slice B2 xl cx))) k_ ?_ (fun aS=>?_)
     ·exact ad.out _ (b_.drew)
     refine t_k 0 ?_;refine t_k 1 ?_;refine t_k 2 ?_;refine t_k 3 ?_;refine t_k 4 ?_;refine t_k 5 ?_;refine t_k 6 ?_;refine r_d [7,11] ?_;refine c_s (fun K hK=>?_) ?_
     ·(go_simp;refine (bK.out wr.drew (b_.drew)).mono ?_;rintro e' w5 ⟨u,vu,r,rfl,ap,ak,ac,aj⟩;obtain ⟨Au,cu,rfl,_⟩:=HasR.shape (ac [] (by simp)) rfl;have aT:=z_ ap;have ax:=z_ ak;have aF:=z_ ac;have ab:Hid (Below wr.heap.size wr w5):=z_ ((b_.drew).trans aj);have co:=ab.out.size;have ag:=z_ (ad.out w5 ab.out);clear ap ak ac aj;(try unfold aggT);(try dsimp only))
      refine k_o hK ?_ (fun bL=>?_)
      ·exact c93_
      clear hK K aS;refine t_k 8 ?_;refine t_k 9 ?_;refine t_k 10 ?_;refine r_d [11] ?_;refine c_s (fun K hK=>?_) ?_
      ·go_simp
       refine k_o hK ?_ (fun bM=>?_)
       ·exact c93_
       clear hK K bL;refine r_d [12] ?_;refine c_s (fun K hK=>?_) ?_
       ·go_simp
        refine k_o hK ?_ (fun bN=>?_)
        ·exact c93_
        clear hK K bM;refine r_d [13] ?_;refine c_s (fun K hK=>?_) ?_
        ·go_simp
         refine k_o hK ?_ (fun cS=>?_)
         ·exact c93_
         clear hK K bN;refine wpAnyH_done k_ ?_ _;refine NoPanic.normal ?_;have bO:Below w5.heap.size w5 (w5.alloc (.cells #[.int .i64 u.op,.string (bstr u.name),.int .i64 u.sort,.slice Au u.args.length cu] 38)):=b_.alloc n_ _;have cT:=z_ (ab.out.trans (bO.mono co));have aQ:Hid (∀ X:List Nat,(∀ k∈X,w0.heap.size≤k∧k<wr.heap.size)→HasTs 22 0 (tmr.qb4 X (w5.alloc (.cells #[.int .i64 u.op,.string (bstr u.name),.int .i64 u.sort,.slice Au u.args.length cu] 38))) (.slice Au u.args.length cu) u.args):=z_ (fun X hX=>qbh _ (qvs (Chg.of_below bO)) (aF.out X (fun k hk=>by have:=hX k hk;exact ⟨this.1,by simp;omega⟩)));have ay:Hid ((w5.alloc (.cells #[.int .i64 u.op,.string (bstr u.name),.int .i64 u.sort,.slice Au u.args.length cu] 38)).heap[w5.heap.size]? =some (.cells #[.int .i64 u.op,.string (bstr u.name),.int .i64 u.sort,.slice Au u.args.length cu] 38 (0,0))):=z_ (termt.qa5 _ _ _ rfl);clear ag bO;go_wp2_with fail
         go_meet
         exact ⟨w5.heap.size,u,.slice Au u.args.length cu,r,rfl,rfl,z_ (grami.box4 ay.out),aT,ax,aQ,cT⟩
        exact a_l
       exact a_l
      exact a_l
     refine c_s (fun K hK=>?_) ?_
     ·go_simp
      refine k_o hK ?_ (fun bP=>?_)
      ·exact c93_
      clear hK K aS;refine r_d [7] ?_;refine c_s (fun K hK=>?_) ?_
      ·(go_simp;refine (bK.out _ (by repeat (first|exact Below.refl _ _|exact ab.out|refine Below.drew ?_|refine Below.alloc ?_ (by first|omega|(simp;done)|(simp;omega)) _))).mono ?_;rintro e' w5 ⟨u,vu,r,rfl,ap,ak,ac,aj⟩;obtain ⟨Au,cu,rfl,_⟩:=HasR.shape (ac [] (by simp)) rfl;have aT:=z_ ap;have ax:=z_ ak;have aF:=z_ ac;have ab:Hid (Below wr.heap.size wr w5):=z_ ((show Below wr.heap.size wr _ from (by repeat (first|exact Below.refl _ _|exact ab.out|refine Below.drew ?_|refine Below.alloc ?_ (by first|omega|(simp;done)|(simp;omega)) _))).trans (aj.mono Ab_));have co:=ab.out.size;have ag:=z_ (ad.out w5 ab.out);have az:w5.heap[wr.heap.size]? =some (.cells #[.int .i64 0,.string { data:=#[] },.int .i64 0,.slice none 0 0] 38 (0,0)):=(aj.block _ Ab_).trans (termt.qa5 _ _ _ (by simp));have cU:=z_ az;obtain ⟨z0,z1,z2,z3⟩:=grami.box4 az;have q0:w5.frozen? ⟨wr.heap.size,0,none⟩=false:=g_ w5 _ 0 _ _ az;have q1:w5.frozen? ⟨wr.heap.size,1,none⟩=false:=g_ w5 _ 1 _ _ az;have q2:w5.frozen? ⟨wr.heap.size,2,none⟩=false:=g_ w5 _ 2 _ _ az;have q3:w5.frozen? ⟨wr.heap.size,3,none⟩=false:=g_ w5 _ 3 _ _ az;have am:Hid (∀ u0 u1 u2 u3,(fun w'=>(w'.cell? ⟨w.heap.size,0,none⟩=some (.slice A1 m1 c1)∧w'.cell? ⟨w.heap.size,1,none⟩=some (.slice A2 m2 c2)∧w'.cell? ⟨w.heap.size,2,none⟩=some (.slice A3 m3 c3))∧w'.cell? ⟨w.heap.size+1,3,none⟩=some (.slice (some ⟨g,o,none⟩) tl cb)∧w'.cell? ⟨g,o+p*4,none⟩=some (.int .i64 xo)∧w'.cell? ⟨g,o+p*4+1,none⟩=some (.string (bstr xn))∧w'.cell? ⟨g,o+p*4+2,none⟩=some (.int .i64 xs)∧w'.cell? ⟨g,o+p*4+3,none⟩=some (.slice B2 xl cx)) (set4 w5 wr.heap.size u0 u1 u2 u3)):=z_ (fun u0 u1 u2 u3=>ad.out _ (qa9 ab.out n_ u0 u1 u2 u3));clear ap ak ac aj az;(try unfold aggT);(try dsimp only))
       refine k_o hK ?_ (fun bQ=>?_)
       ·exact c93_
       clear hK K bP;refine t_k 8 ?_;refine t_k 9 ?_;refine t_k 10 ?_;refine r_d [12] ?_;refine c_s (fun K hK=>?_) ?_
       ·go_simp
        refine k_o hK ?_ (fun bR=>?_)
        ·exact c93_
        clear hK K bQ;refine r_d [13] ?_;refine c_s (fun K hK=>?_) ?_
        ·go_simp
         refine k_o hK ?_ (fun cV=>?_)
         ·exact c93_
         clear hK K bR;refine wpAnyH_done k_ ?_ _;refine NoPanic.normal ?_;have cW:=z_ (qBm cU.out (.int .i64 u.op) (.string (bstr u.name)) (.int .i64 u.sort) (.slice Au u.args.length cu));have ay:Hid (Below wr.heap.size wr (set4 w5 wr.heap.size (.int .i64 u.op) (.string (bstr u.name)) (.int .i64 u.sort) (.slice Au u.args.length cu))):=z_ (qa9 ab.out n_ _ _ _ _)
         have aQ:Hid (∀ X:List Nat,(∀ k∈X,w0.heap.size≤k∧k<wr.heap.size)→HasTs 22 0 (tmr.qb4 X (set4 w5 wr.heap.size (.int .i64 u.op) (.string (bstr u.name)) (.int .i64 u.sort) (.slice Au u.args.length cu))) (.slice Au u.args.length cu) u.args):=z_ (fun X hX=>qbh _ (rebq.qdz (S:=wr.heap.size::X) (S':=X) (((((Chg.refl _ w5).trans (Chg.set (by simp) _)).trans (Chg.set (by simp) _)).trans (Chg.set (by simp) _)).trans (Chg.set (by simp) _)) (fun k hk=>.inl (List.mem_cons_of_mem _ hk))) (aF.out (wr.heap.size::X) (fun k hk=>by
          rcases List.mem_cons.1 hk with rfl|hk
          ·exact ⟨Nat.le_trans bc.out.size aw.out.size,by simp⟩
          ·have:=hX k hk
           exact ⟨this.1,by simp;omega⟩)))
         clear ag am;go_wp2_with fail
         go_meet
         exact ⟨wr.heap.size,u,.slice Au u.args.length cu,r,rfl,rfl,z_ (grami.box4 cW.out),aT,ax,aQ,ay⟩
        exact a_l
       exact a_l
      exact a_l
     exact a_l
    case rest=>
     obtain ⟨gx,u,vu,r,rfl,rfl,cX,aT,ax,aF,bj⟩:=hcut;obtain ⟨w6,rfl⟩:∃ w6,w6=wc:=⟨wc,rfl⟩;clear bK ad;obtain ⟨b0,b1,b2,b3⟩:=cX.out;have bS:=z_ (HB.out.trans (bj.out.mono bC));cases r with
     | false=>
      have cY:Hid (rebM (appF P Q O σ) t=none):=z_ (by
       have h1:=bF.out;rw [ax.out rfl] at h1;rw [aB.out,qs4 h1]
       rfl)
      obtain ⟨_,aU,_,_,⟨z0,z1,z2,z3⟩,⟨q0,q1,q2,q3⟩⟩:=aO.out w6 bS.out;have HZ:=z_ (cc.out cY.out w6 aU);clear b0 b1 b2 b3 x0 x1 x2 y0 y1 y2 y3 aU;go_wp2;refine bodyPost_ret (v:=.tuple #[.agg #[.int .i64 0,.string { data:=#[] },.int .i64 0,.slice none 0 0],.bool false]) (by simp [results,Tryz.results38,go_sem,z0,z1,z2,z3]) rfl ?_;exact HZ.out _ _ _ _
     | true=>
      obtain ⟨cp,cq,ct,bf⟩:=aT.out rfl;obtain ⟨Au,cu,rfl,_⟩:=HasR.shape (aF.out [] (by simp)) rfl;have aV:=z_ (And.intro cp (And.intro cq (And.intro ct bf)));obtain ⟨j0,cZ,c0,c4,c6⟩:=info_parts qb1;have cv:=bS.out.size;have cw:=z_ (own_below HO.out bj.out);have an:Hid (∀ ob,Below w6.heap.size w6 (w6.alloc ob)):=z_ (fun ob=>b_.alloc n_ ob);have de:R.length≤1048576:=by have:=ck.out.2;omega
      clear cp cq ct bf;go_wp2_with (at_builtin;go_loud (refine wpList_append_lies _ rfl _ _ _ rfl W.heap.size 38 j0 _ 4 56 Tryz.underlying36 cZ c0 c4 c6 rfl o_ (.slice AL R.length cL) R.length (rowV R) rfl (own_below cw.out (an.out _)) ⟨w6.heap.size,0,none⟩ 1 1 [.int .i64 u.op,.string (bstr u.name),.int .i64 u.sort,.slice Au u.args.length cu] rfl rfl (fun q x hq=>rebw.qjh _ _ _ _ _ _ q x hq) (rebw.qaw rfl rfl rfl rfl) o_ Aa_ o_ (Nat.le_trans cv (an.out _).size) _ rfl ?_);intro g4 aW w7 aq aa bT bU)
      have cy:=rebq.qcy HO.out;have c7:Hid (w7.ownsRow W.heap.size 38 4 (.slice (some ⟨g4,0,none⟩) (R.length+1) aW) (R++[(u,Value.slice Au u.args.length cu)]).length (rowV (R++[(u,Value.slice Au u.args.length cu)]))):=z_ (by rw [qbz,List.length_append];exact aq);have c8:=z_ (qmf bS.out (an.out _) aa cw.out cv)
      have bV:Hid (rebL (appF P Q O σ) (L.take (p+1))=some ((R++[(u,Value.slice Au u.args.length cu)]).map Prod.fst)):=z_ (by
       rw [bF.out,aV.out.1,List.map_append]
       rfl)
      have bW:Hid (∀ y∈R++[(u,Value.slice Au u.args.length cu)],(qay P Q O y.1∧LimT y.1)∧tmr.El 21 0 (tmr.qb4 (Value.slice (some ⟨g4,0,none⟩) (R.length+1) aW).ownBlock.toList w7) y):=z_ (by
       have c9:=bj.out.size;have cz:=(an.out (.cells #[.int .i64 u.op,.string (bstr u.name),.int .i64 u.sort,.slice Au u.args.length cu] 38));intro y hy;rcases List.mem_append.1 hy with hy|hy
       ·obtain ⟨h1,h2⟩:=aE.out y hy
        refine ⟨h1,qbh _ (rebq.qdz (S:=(Value.slice AL R.length cL).ownBlock.toList) (((Chg.of_below bj.out).trans (Chg.of_below cz)).trans ⟨aa.os,aa.tape,aa.output,aa.size,fun k hk hn=>aa.block k hk (fun e=>hn (by rw [← e];simp))⟩) (fun k hk=>?_)) h2.1,h2.2⟩;simp [Value.ownBlock] at hk;subst hk;rcases bT with h3|h3
        ·exact .inl (by rw [h3];simp)
        ·right;rw [h3];simp;omega
       ·simp at hy
        subst hy;refine ⟨⟨aV.out.2.1,aV.out.2.2.1⟩,?_,aV.out.2.2.2⟩;have hd:depths u.args≤21:=by
         have h3:=aV.out.2.2.1.2.1;have h4:=termro.qas u;omega
        have da:∀ k∈(Value.slice AL R.length cL).ownBlock.toList,w0.heap.size≤k∧k<wr.heap.size:=fun k hk=>by
         have h8:=cy k (by simpa using hk);have:=bc.out.size;have:=ca.out.size;omega
        refine (rebp.qi5 (qbh _ (rebq.qdz (S:=(Value.slice AL R.length cL).ownBlock.toList) ((Chg.of_below cz).trans ⟨aa.os,aa.tape,aa.output,aa.size,fun k hk hn=>aa.block k hk (fun e=>hn (by rw [← e];simp))⟩) (fun k hk=>?_)) (aF.out _ da))).up hd;simp [Value.ownBlock] at hk;subst hk;rcases bT with h3|h3
        ·exact .inl (by rw [h3];simp)
        ·right;rw [h3];simp)
      clear aq aa bT bU cy b0 b1 b2 b3 x0 x1 x2 y0 y1 y2 y3;go_wp2;go_roundg (gk-1)
      case measure=>omega
      case rel=>exact ⟨p+1,_,by go_num,by omega,by omega,bV,bW,c7,c8⟩
   ·obtain rfl:p=tl:=o_
    have d1:decide ((p:Int)<(p:Int))=false:=f_
    have cA:Hid (rebL (appF P Q O σ) L=some (R.map Prod.fst)):=z_ (by
     have h1:=bB.out
     rwa [List.take_of_length_le (by have:=bo.out;omega)] at h1)
    obtain ⟨zs,au⟩:=e_ (R.map Prod.fst);have df:=z_ au;obtain ⟨r,hr⟩:=x_ (CanS P Q O tO.toNat zs∧LimT (qbs O tO.toNat zs))
    have cB:Hid (∀ a∈zs,qay P Q O a∧LimT a):=z_ (fun a ha=>by
     rw [au] at ha;obtain ⟨y,hy,rfl⟩:=List.mem_map.1 ha
     exact (aE.out y hy).1)
    have aX:qa2 zs≤1048576:=by rw [au];have:=ck.out.1;omega
    have aY:HasTs 22 0 wr (.slice AL R.length cL) zs:=by
     rw [au];exact qvt HO.out (fun x hx=>(aE.out x hx).2) y_ (qdq _ _) (Kept.refl _ _)
    have HM:=z_ (a7.out ax.out zs (.slice AL R.length cL) r wr ai aY cB.out aX hr)
    have aZ:Hid (∀ (t':TermM) (v':Value) (w5:World),(r=true→t'=qbs O tO.toNat zs)→HasTs 22 wr.heap.size w5 v' t'.args→Below wr.heap.size wr w5→∀ u0 u1 u2 u3,AppR P Q O σ t w0 w (.returned (.tuple #[.agg #[.int .i64 t'.op,.string (bstr t'.name),.int .i64 t'.sort,v'],.bool r])) (set4 w5 (w.heap.size+2) u0 u1 u2 u3)):=z_ (fun t' v' w5 ht hv hb u0 u1 u2 u3=>by
     have bX:=aw.out.trans (hb.mono aw.out.size);refine ⟨t',v',r,rfl,fun h=>?_,fun h=>?_,fun X hX=>(HasR.kept (qa7 22) hv ((qd2 o_ _ _ _ _).trans (qki (fun k hk=>by have:=(hX k hk).2;have:=aw.out.size;omega)))).mono (qa7 22) y_,qa9 bX o_ _ _ _ _⟩
     ·have h1:=cO.out zs (hr.1 h)
      rw [ht h];obtain ⟨h2,h3⟩:=aL.out zs (fun a ha=>(cB.out a ha).1) (hr.1 h);refine ⟨?_,h2,h3,?_⟩
      ·rw [aB.out,cA.out,← au]
       exact h1
      ·rw [au]
       exact aM.out R (fun x hx=>(aE.out x hx).2.2) (fun x hx=>qpp (aE.out x hx).2)
     ·rw [aB.out,cA.out,← au]
      exact cP.out zs (fun hq=>by rw [hr.2 hq] at h;cases h))
    unfold aggT at HM;clear au hr aX aY ai;go_wp2_with fail
    refine HM.out.mono ?_;rintro e w5 ⟨t',v',rfl,cC,bY,aj⟩;obtain ⟨A5,c5,rfl,_⟩:=HasR.shape bY rfl;have HF:=z_ (aZ.out t' _ w5 cC bY aj);clear x0 x1 x2 y0 y1 y2 y3 z0 z1 z2 z3 q0 q1 q2 q3;obtain ⟨_,_,_,_,⟨z0,z1,z2,z3⟩,⟨q0,q1,q2,q3⟩⟩:=aO.out w5 (HB.out.trans (aj.mono bC));clear cC bY aj HM aZ;go_wp2;refine bodyPost_ret (v:=.tuple #[.agg #[.int .i64 t'.op,.string (bstr t'.name),.int .i64 t'.sort,.slice A5 t'.args.length c5],.bool r]) (by simp [results,Tryz.results38,go_sem,z0,z1,z2,z3]) rfl ?_;exact HF.out _ _ _ _
theorem qx0 (P:List (List UInt8))(Q:List (Int×Int))(O:List OpM)(aa:qah P Q O=true)(σ:List BindM)(hσ:qBo P Q O σ)(ab:σ.length≤1048576):∀ n,qwz P Q O σ n
 | 0=>qs6 P Q O aa σ hσ ab 0 (fun m h=>by omega)
 | n+1=>qs6 P Q O aa σ hσ ab (n+1) (fun m h=>by
  obtain rfl:m=n:=o_
  exact qx0 P Q O aa σ hσ ab m)
end Go.Proofs.YtiilamngcoegiaaGreat.sapp
