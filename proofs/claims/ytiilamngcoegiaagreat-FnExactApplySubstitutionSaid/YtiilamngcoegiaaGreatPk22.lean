/- parts -/
import Derived.Test.YtiilamngcoegiaaGreatTsl
namespace Go.Proofs.YtiilamngcoegiaaGreat
open Go.ChangeShapes Go.WideShapes Go.ChangeAt Go.RowKit
namespace tso
open mem subs setm sortp sorti rowl sigm sigs trm terml termb termt rowg gram tsj tsk tsl
theorem qj4 {w:World}{v:Value}{U:List Nat}(h:MapU w v U):∃ mm,v=.map mm:=by
 rcases h with ⟨rfl,_⟩|⟨b,_,_,rfl,_⟩
 ·exact ⟨none,rfl⟩
 ·exact ⟨some b,rfl⟩
structure Apart (y:Nat) (w w':World):Prop where
 size:w.heap.size≤w'.heap.size
 block:∀ g,g≠y→w'.heap[g]? =w.heap[g]?
 noInt:∀ o k n,w.cell? ⟨y,o,none⟩≠some (.int k n)
 noStr:∀ o b,w.cell? ⟨y,o,none⟩≠some (.string b)
 noMap:∀ es c,w.heap[y]? ≠ some (Obj.map es c)
theorem Apart.cell {y:Nat}{w w':World}(h:Apart y w w'){g o:Nat}(hg:g≠y):w'.cell? ⟨g,o,none⟩=w.cell? ⟨g,o,none⟩:=World.cell?_of_block (w:=w) (h.block g hg)
theorem HasL.apart {lo y:Nat}{w w':World}{v:Value}{L:List Int}(h:HasL lo w v (ivs L))(hA:Apart y w w'):HasL lo w' v (ivs L):=by
 obtain ⟨A,c,rfl,h1,h2,h3⟩:=h;refine ⟨A,c,rfl,h1,h2,fun j u hu=>?_⟩;obtain ⟨g,o,e,hl,hg,hc⟩:=h3 j u hu
 have aa:g≠y:=fun e=>by
  subst e;have hj:=(List.getElem?_eq_some_iff.1 hu).1;rw [qas] at hj;have:u=.int .i64 (L[j]):=by
   have:=hu;simp [ivs,List.getElem?_eq_getElem hj] at this;exact this.symm
  rw [this] at hc;exact hA.noInt _ _ _ hc
 exact ⟨g,o,e,hl,w_ hg hA.size,(hA.cell aa).trans hc⟩
theorem HasD.apart {lo y:Nat}{w w':World}{v:Value}{L:List (List Int×Int)}(h:HasD lo w v L)(hA:Apart y w w'):HasD lo w' v L:=by
 obtain ⟨A,c,rfl,h1,h2,h3⟩:=h;refine ⟨A,c,rfl,h1,h2,fun j hj=>?_⟩;obtain ⟨g,o,cs,e,hl,hg,hc,va,hcs,hh,h4,h5⟩:=h3 j hj
 have aa:g≠y:=fun e=>by
  subst e;have:=hc 1 o_;rw [hcs] at this;exact hA.noInt _ _ _ this
 exact ⟨g,o,cs,e,hl,w_ hg hA.size,fun i hi=>(hA.cell aa).trans (hc i hi),va,hcs,HasL.apart hh hA,h4,h5⟩
theorem HasE.apart {y:Nat}{w w':World}{v:Value}{L:List OpE}(h:HasE w v L)(hA:Apart y w w'):HasE w' v L:=by
 obtain ⟨A,c,rfl,h1,h2,h3⟩:=h;refine ⟨A,c,rfl,h1,h2,fun j hj=>?_⟩;obtain ⟨g,o,cs,e,hl,hg,hc,vd,hcs,hh,h4,h5⟩:=h3 j hj
 have aa:g≠y:=fun e=>by
  subst e;have:=hc 0 o_;rw [hcs] at this;exact hA.noStr _ _ this
 exact ⟨g,o,cs,e,hl,w_ hg hA.size,fun i hi=>(hA.cell aa).trans (hc i hi),vd,hcs,HasD.apart hh hA,h4,h5⟩
theorem HasM.apart {y:Nat}{w w':World}{mv sv:Value}{G:GrM}(h:HasM w mv sv G)(hA:Apart y w w'):HasM w' mv sv G:=
 ⟨qld h.m (fun b es c hb=>hA.block b (fun e=>hA.noMap es c (e ▸ hb))),HasE.apart h.e hA⟩
theorem qwv {y:Nat}{w:World}{a b:Option Nat}{s:Option Addr}{n c:Nat}{t:TypeId}(h:w.heap[y]? =some (.cells #[.map a,.slice s n c,.map b] t (0,0)))(u0 u1 u2:Value):
  Apart y w (((w.setCell ⟨y,0,none⟩ u0).setCell ⟨y,1,none⟩ u1).setCell ⟨y,2,none⟩ u2):=by
 have hc:∀ o x,w.cell? ⟨y,o,none⟩=some x→x=.map a∨x=.slice s n c∨x=.map b:=fun o x hx=>by
  match o,hx with
  | 0,hx=>rw [h_ w y 0 _ _ _ h] at hx;exact .inl (by simpa using hx.symm)
  | 1,hx=>rw [h_ w y 1 _ _ _ h] at hx;exact .inr (.inl (by simpa using hx.symm))
  | 2,hx=>rw [h_ w y 2 _ _ _ h] at hx;exact .inr (.inr (by simpa using hx.symm))
  | o+3,hx=>rw [h_ w y (o+3) _ _ _ h] at hx;simp at hx
 refine ⟨by simp [World.setCell],fun g hg=>?_,fun o k m hx=>?_,fun o b hx=>?_,fun es c' hx=>?_⟩
 ·exact (Below.heap_setCell _ ⟨y,2,none⟩ _ g hg).trans ((Below.heap_setCell _ ⟨y,1,none⟩ _ g hg).trans (Below.heap_setCell _ ⟨y,0,none⟩ _ g hg))
 ·rcases hc o _ hx with e|e|e<;>cases e
 ·rcases hc o _ hx with e|e|e<;>cases e
 ·rw [h] at hx;cases hx
abbrev SRul (x:Nat)(v0 v1 v2:Value)(B:Nat)(W w:World):Prop:=(w.cell? ⟨x,0,none⟩=some v0∧w.cell? ⟨x,1,none⟩=some v1∧w.cell? ⟨x,2,none⟩=some v2)∧Below B W w
theorem SRul.of {x:Nat}{v0 v1 v2:Value}{B:Nat}{W w:World}(h:SRul x v0 v1 v2 B W W)(hx:x<B)(hb:Below B W w):SRul x v0 v1 v2 B W w:=by
 have k:∀ z,w.cell? ⟨x,z,none⟩=W.cell? ⟨x,z,none⟩:=fun z=>hb.cell (p:=⟨x,z,none⟩) hx
 refine ⟨?_,hb⟩;rw [k,k,k];exact h.1
theorem c88_ {p:Prop}(h:p:=by
 (try dsimp only);exact af.out.of (Nat.lt_succ_self _) (by first|exact b_.drew|exact ab.out.mono (by rw [HZ.out];omega)|exact aa.out.mono (by rw [HZ.out];omega)|exact ae.out _ _ _)
):p:=h
set_option maxRecDepth 50000 in
set_option maxHeartbeats 8000000 in
theorem qww (P:List (List UInt8))(Q:List (Int×Int))(O:List OpM)(va vb vc:Value)(w:World)(h:HasG w va vb vc P Q O):
  Calls Tryz.prog 44 #[.agg #[va,vb,vc]] w fun e w'=>∃ mm A c um,e=.returned (.agg #[.map mm,.slice A (grM P Q O).E.length c,.map um])∧HasM w' (.map mm) (.slice A (grM P Q O).E.length c) (grM P Q O)∧MapU w' (.map um) (ordU P Q)∧Below w.heap.size w w':=by
 have ag:=z_ (fun W (hW:Below w.heap.size w W)=>qle P Q O va vb vc W (h.below n_ hW));have ah:=z_ (fun W (hW:Below w.heap.size w W)=>qft P Q va vb W (h.s.below n_ hW));obtain ⟨A1,c1,A2,c2,A3,c3,rfl,rfl,rfl,_⟩:=h.shape;obtain ⟨m1,ai⟩:=e_ (P.length);obtain ⟨m2,aj⟩:=e_ (Q.length);obtain ⟨m3,ap⟩:=e_ (O.length);rw [← ai,← aj,← ap] at ag ⊢;rw [← ai,← aj] at ah;obtain ⟨G,hG⟩:=e_ (grM P Q O);rw [← hG] at ag ⊢;obtain ⟨U,hU⟩:=e_ (ordU P Q);rw [← hU] at ah ⊢;clear h ai aj ap hG hU;obtain ⟨W,hW⟩:=e_ ((w.alloc (.cells #[.slice A1 m1 c1,.slice A2 m2 c2,.slice A3 m3 c3] 46)).alloc (.cells #[.map none,.slice none 0 0,.map none] 94));have aq:Below w.heap.size w W:=by
  rw [hW];exact v_
 have ak:SRul w.heap.size (.slice A1 m1 c1) (.slice A2 m2 c2) (.slice A3 m3 c3) (w.heap.size+1) W W:=by
  rw [hW];exact ⟨tsl.box3 (tsl.qbh _ _ _),Below.refl _ _⟩
 have au:W.heap[w.heap.size+1]? =some (.cells #[.map none,.slice none 0 0,.map none] 94 (0,0)):=by rw [hW];exact termt.qa5 _ _ _ (by simp)
 have hz:W.heap.size=w.heap.size+2:=by rw [hW];simp
 have ad:=z_ aq;have af:=z_ ak;have aw:=z_ au;have HZ:=z_ hz;obtain ⟨x0,x1,x2⟩:=ak.1;clear aq ak au hz;go_enter Tryz.func44,Tryz.ntmps44
 go_wp2_with fail
 rw [← hW];clear hW;refine wp_region_noPanic ?_;refine wp_region_held_drew (S:=(SRul w.heap.size (.slice A1 m1 c1) (.slice A2 m2 c2) (.slice A3 m3 c3) (w.heap.size+1) W)) k_ ?_ (fun al=>?_)
 ·exact af.out.of (Nat.lt_succ_self _) (by first|exact b_.drew|exact ab.out.mono (by rw [HZ.out];omega)|exact aa.out.mono (by rw [HZ.out];omega)|exact ae.out _ _ _)
 refine t_k 0 ?_;refine t_k 2 ?_;refine t_k 3 ?_;refine r_d [1] ?_;refine c_s (fun K hK=>?_) ?_
 ·(go_simp;refine (ag.out W.drew ad.out.drew).mono ?_;rintro e w1 ⟨mv,A,c,rfl,hM,ax,av⟩;obtain ⟨mm,rfl⟩:=qj4 hM.m;have HM:=z_ hM;have ab:Hid (Below W.heap.size W w1):=z_ (b_.drew.trans av);have am:Hid (Below w.heap.size w w1):=z_ (ad.out.trans (ab.out.mono ad.out.size));clear hM av ax;(try dsimp only))
  refine k_o hK ?_ (fun an=>?_)
  ·exact c88_
  clear hK K al;refine r_d [4] ?_;refine c_s (fun K hK=>?_) ?_
  ·(go_simp;refine (ah.out w1 am.out).mono ?_;rintro e w2 ⟨uv,rfl,hU,_,_,hb2⟩;obtain ⟨um,rfl⟩:=qj4 hU;have HU:=z_ hU;have aa:Hid (Below W.heap.size W w2):=z_ (ab.out.trans (hb2.mono ab.out.size));have ay:Hid (Below w.heap.size w w2):=z_ (ad.out.trans (aa.out.mono ad.out.size));have az:=z_ (HM.out.below hb2);have ac:Hid (w2.heap[w.heap.size+1]? =some (.cells #[.map none,.slice none 0 0,.map none] 94 (0,0))):=z_ ((aa.out.block _ (by rw [HZ.out];omega)).trans aw.out);have d0:=h_ w2 _ 0 _ _ _ ac.out;have d1:=h_ w2 _ 1 _ _ _ ac.out;have d2:=h_ w2 _ 2 _ _ _ ac.out;have f0:=g_ w2 _ 0 _ _ ac.out;have f1:=g_ w2 _ 1 _ _ ac.out;have f2:=g_ w2 _ 2 _ _ ac.out;have ae:Hid (∀ u0 u1 u2,Below (w.heap.size+1) W (((w2.setCell ⟨w.heap.size+1,0,none⟩ u0).setCell ⟨w.heap.size+1,1,none⟩ u1).setCell ⟨w.heap.size+1,2,none⟩ u2)):=z_ (fun u0 u1 u2=>(((aa.out.mono (B':=w.heap.size+1) (by rw [HZ.out];omega)).setCell (p:=⟨w.heap.size+1,0,none⟩) n_ u0).setCell (p:=⟨w.heap.size+1,1,none⟩) n_ u1).setCell (p:=⟨w.heap.size+1,2,none⟩) n_ u2);clear hU hb2;(try dsimp only))
   refine k_o hK ?_ (fun ao=>?_)
   ·exact c88_
   clear hK K an;refine t_k 5 ?_;refine r_d [6] ?_;refine c_s (fun K hK=>?_) ?_
   ·go_simp
    refine k_o hK ?_ (fun aA=>?_)
    ·exact c88_
    clear hK K ao;refine wpAnyH_done k_ ?_ _;refine NoPanic.normal ?_;have HA:=z_ (qwv ac.out (.map mm) (.slice A G.E.length c) (.map um));have HR:Hid (HasM (((w2.setCell ⟨w.heap.size+1,0,none⟩ (.map mm)).setCell ⟨w.heap.size+1,1,none⟩ (.slice A G.E.length c)).setCell ⟨w.heap.size+1,2,none⟩ (.map um)) (.map mm) (.slice A G.E.length c) G∧MapU (((w2.setCell ⟨w.heap.size+1,0,none⟩ (.map mm)).setCell ⟨w.heap.size+1,1,none⟩ (.slice A G.E.length c)).setCell ⟨w.heap.size+1,2,none⟩ (.map um)) (.map um) U∧Below w.heap.size w (((w2.setCell ⟨w.heap.size+1,0,none⟩ (.map mm)).setCell ⟨w.heap.size+1,1,none⟩ (.slice A G.E.length c)).setCell ⟨w.heap.size+1,2,none⟩ (.map um))):=z_ ⟨HasM.apart az.out HA.out,qld HU.out (fun b es c hb=>HA.out.block b (fun e=>HA.out.noMap es c (e ▸ hb))),ad.out.trans ((ae.out _ _ _).mono o_)⟩;have aB:w.heap.size+1<w2.heap.size:=by have:=aa.out.size;rw [HZ.out] at this;omega
    go_wp2;refine bodyPost_ret (v:=.agg #[.map mm,.slice A G.E.length c,.map um]) (by simp [results,Tryz.results44,go_sem,d0,d1,d2]) rfl ?_;exact ⟨mm,A,c,um,rfl,HR.out⟩
   exact a_l
  exact a_l
 exact a_l
end tso

namespace tsp
set_option maxRecDepth 50000
set_option maxHeartbeats 8000000
open mem subs setm sets sortm sortp sorti sortu rowl sigm sigs sigk trm tsa tsm tsj
theorem qz7 {L:List Nat}{k:Nat}(h:k<L.length):(ivs (nats L)).getD k undef=.int .i64 ((L.getD k 0:Nat):Int):=by
 rw [qag _ _ (by rw [qac];exact h),qat]
theorem c92_ {p:Prop}(h:p:=by
 clear hb;go_wp2_with (go_at_call 80;refine (qc8 _ _ _ HD.out _).mono ?_;rintro e w3 ⟨rfl,rfl⟩)
 go_round
 case rel=>exact ⟨k+1,by omega,by go_num,by rw [HE.out]⟩
 case measure=>simp [intOf];omega
):p:=h
theorem qpr (U:List Nat)(hU:Lim U)(S:Nat)(_hS:S<65536)(vu:Value)(w:World)(h:Has w vu (ivs (nats U))):
  Calls Tryz.prog 237 #[vu,.int .i64 (S:Int)] w fun e w'=>e=.returned (.int .i64 ((upC U S:Nat):Int))∧w=w':=by
 obtain ⟨n,hn⟩:=e_ (U.length);obtain ⟨A,c,rfl,h⟩:=h.shape (n:=n) (by rw [qas,qac,hn]);have hl:=h.len.2;have HH:=z_ h;have HU:=z_ hU;have HN:=z_ hn;have ag:n≤8:=by rw [hn];exact hU.1
 have HQ:=z_ (qt0 hU S);have ab:=z_ (qt1 hU S);have hp:=pow8 hU.1;rw [← hn] at HQ ab hp;obtain ⟨uv,ac⟩:=e_ (upC U S);rw [← ac] at HQ ⊢;clear h hU hn ac;go_enter Tryz.func237,Tryz.ntmps237
 go_wp2;go_loop [5,6] (fun s i=>∃ k:Nat,k≤n∧i=.int .i64 k∧s=.int .i64 ((closeTo U S k:Nat):Int)) (fun _ i=>n-(intOf i).toNat)
 case atStart=>exact ⟨0,y_,rfl,rfl⟩
 case round=>
  obtain ⟨k,hk,rfl,rfl⟩:=hrel;by_cases hlt:k<n
  ·obtain ⟨g,o,rfl,hg,hcell⟩:=HH.out.cellAt hlt
   rw [qz7 (by have:=HN.out;omega)] at hcell;have HI:=z_ (qej S k o_);have aa:=z_ (fun h=>qpc (U:=U) (S:=S) (k:=k) h);have ad:=z_ (fun h=>qnn (U:=U) (S:=S) (k:=k) h);have hG:=ab.out k;have hu:=HU.out.lt k;obtain ⟨G,ae⟩:=e_ (closeTo U S k);rw [← ae] at aa ad hG ⊢;obtain ⟨u,af⟩:=e_ (U.getD k 0);rw [← af] at aa hcell hu;have ah:=qjf G u o_ hu;have i1:(0:Int)≤(k:Int):=o_;have i2:(k:Int)<(n:Int):=o_;clear ae af;cases hb:S.testBit k with
   | true=>
    have HD:Hid (hasI S k=true):=z_ (HI.out.trans hb);have HE:=z_ (aa.out hb);exact c92_
   | false=>
    have HD:Hid (hasI S k=false):=z_ (HI.out.trans hb);have HE:=z_ (ad.out hb);exact c92_
  ·obtain rfl:k=n:=o_
   go_wp2;go_ret;exact ⟨qaa (by rw [HQ.out]),rfl⟩
theorem c93_ {p:Prop}(h:p:=by
 go_roundw
 case rel=>exact ⟨k+1,by omega,by go_num,by rw [HE.out],HB⟩
 case measure=>simp [intOf];omega
):p:=h
theorem qgy (U:List Nat)(hU:Lim U)(D:List (List Int×Int))(A:List Nat)(af:DeclN U.length A.length D)(hA:∀ i,A.getD i 0<65536)(vu vd va:Value)(w:World){lo:Nat}(h:Has w vu (ivs (nats U)))(hD:HasD lo w vd D)(h1:Has w va (ivs (nats A))):
  Calls Tryz.prog 222 #[vu,vd,va] w fun e w'=>e=.returned (.int .i64 ((upC U (giveR D A):Nat):Int))∧Below w.heap.size w w':=by
 have aF:=pow8 hU.1;have aG:=qet af A;have aj:=z_ (fun W (hW:Below w.heap.size w W)=>qpr U hU (giveR D A) o_ vu W (h.below n_ hW));have ax:=z_ (fun k=>qet (af.take k) A);obtain ⟨uv,ao⟩:=e_ (upC U (giveR D A));rw [← ao] at aj ⊢;obtain ⟨Au,cu,rfl,_⟩:=h.shape rfl;obtain ⟨q,hq⟩:=e_ (D.length);obtain ⟨p,hp⟩:=e_ (A.length);obtain ⟨Ad,cd,rfl,hD⟩:=HasR.shape hD hq.symm;obtain ⟨Aa,ca,rfl,h1⟩:=h1.shape (n:=p) (by rw [qas,qac,hp]);have aH:=hD.len.2.1;have aI:=h1.len.2;have HD:=z_ hD;have HA:=z_ h1;have ay:=z_ af;have az:=z_ hA;have HQ:=z_ hq;have HP:=z_ hp;have aJ:=hU.1;obtain ⟨nu,ap⟩:=e_ ((ivs (nats U)).length);rw [← ap] at aj ⊢;clear h hD h1 af hA hU hq hp ao ap;go_enter Tryz.func222,Tryz.ntmps222
 go_wp2;go_loopw [7,8,9,10] (fun s i _ _ wr=>∃ k:Nat,k≤q∧i=.int .i64 k∧s=.int .i64 ((giveR (D.take k) A:Nat):Int)∧Hid (Below w.heap.size w wr)) (fun _ i _ _ _=>q-(intOf i).toNat)
 case atStart=>exact ⟨0,y_,rfl,rfl,z_ b_⟩
 case round=>
  obtain ⟨k,hk,rfl,rfl,HB⟩:=hrel;by_cases hlt:k<q
  ·obtain ⟨g,o,A2,c2,rfl,_,hg,ag,ah,hh,_,_⟩:=qba HD.out hlt
   have ak:k<D.length:=by have:=HQ.out;omega
   obtain ⟨q1,q2,q3⟩:=DeclN.at ay.out ak;have ac:=z_ (fun h=>qrm (A:=A) ak h);have ad:=z_ (fun h=>qno (A:=A) ak h);have aA:=ax.out k;rw [show (D.getD k default)=D.getD k ([],0) from rfl] at ag ah hh;obtain ⟨d,hd⟩:=e_ ((D.getD k ([],0)).1);obtain ⟨x,hx⟩:=e_ ((D.getD k ([],0)).2);rw [← hd] at ag q1 q3 ac ad hh;rw [← hx] at ah q2 ac;obtain ⟨j,rfl⟩:∃ j:Nat,x=(j:Int):=⟨x.toNat,by omega⟩;rw [Int.toNat_natCast] at ac;have hj:j<16:=o_;obtain ⟨G,hG⟩:=e_ (giveR (D.take k) A);rw [← hG] at ac ad aA ⊢;have al:G<65536:=o_;have aq:2 ^ j<65536:=qq7 hj;have au:=z_ (fun W=>qfh j hj W);obtain ⟨y,hy⟩:=e_ (2 ^ j);rw [← hy] at au ac aq;have aK:=qjf G y al aq;have aB:=z_ ag;have aC:=z_ ah;have HH:=z_ hh.has;have am:=z_ (And.intro q1 q3);have i1:(0:Int)≤(k:Int):=o_;have i2:(k:Int)<(q:Int):=o_;clear hd hx hG hy ag ah hh q1 q2 q3;go_wp2;go_loopw [9,10] (fun b i wr=>∃ (k2:Nat) (bb:Bool),k2≤p∧i=.int .i64 k2∧b=.bool bb∧Hid (bb=qix A d k2)∧Hid (Below w.heap.size w wr)) (fun _ i _=>p-(intOf i).toNat)
   case atStart=>exact ⟨0,true,y_,rfl,rfl,z_ rfl,HB⟩
   case round=>
    clear HB;obtain ⟨k2,bb,aL,rfl,rfl,HF,HB⟩:=hrel;by_cases ae:k2<p
    ·obtain ⟨g2,o2,rfl,hg2,aa⟩:=HA.out.cellAt ae
     rw [qz7 (by have:=HP.out;omega)] at aa;have ai:d.length=p:=by rw [am.out.1,← HP.out]
     obtain ⟨g3,o3,rfl,hg3,ab⟩:=HH.out.cellAt (j:=k2) o_;rw [qag _ k2 o_] at ab;have hd0:=am.out.2 k2 (by rw [← HP.out];exact ae);have hS:=qk6 A d k2;have aD:=az.out k2;have b2:=(HB.out.cell (p:=⟨g2,o2+k2,none⟩) hg2).trans aa;have b3:=(HB.out.cell (p:=⟨g3,o3+k2,none⟩) hg3).trans ab;have b0:=(HB.out.cell (p:=⟨g,o+k*2,none⟩) hg).trans aB.out;rw [ai] at b0;obtain ⟨a,ha⟩:=e_ (A.getD k2 0);rw [← ha] at b2 hS aD;obtain ⟨v,hv⟩:=e_ (d.getD k2 0);rw [← hv] at b3 hS hd0;obtain ⟨m,rfl⟩:∃ m:Nat,v=(m:Int):=⟨v.toNat,by omega⟩;rw [Int.toNat_natCast] at hS;have HI:=z_ (qej a m o_);obtain ⟨tb,av⟩:=e_ (a.testBit m);rw [← av] at HI hS;have HS:=z_ hS;have i3:(0:Int)≤(k2:Int):=o_;have i4:(k2:Int)<(p:Int):=o_;clear ha hv av hS aa ab hd0;cases bb with
     | false=>
      have an:Hid (false=qix A d (k2+1)):=z_ (by rw [HS.out,← HF.out];rfl);go_wp2_with fail
      go_quiet ((go_at_call 80;exact (qc8 _ _ _ HI.out _).mono (fun _ _ h=>⟨h.1,_,h.2.symm⟩)))
      go_wp2;go_roundw
      case rel=>exact ⟨k2+1,false,by omega,by go_num,rfl,an,z_ (qa3 HB.out _)⟩
      case measure=>simp [intOf];omega
     | true=>
      have an:Hid (tb=qix A d (k2+1)):=z_ (by rw [HS.out,← HF.out];rfl);go_wp2_with fail
      go_quiet ((go_at_call 80;exact (qc8 _ _ _ HI.out _).mono (fun _ _ h=>⟨h.1,_,h.2.symm⟩)))
      go_wp2;go_roundw
      case rel=>exact ⟨k2+1,tb,by omega,by go_num,rfl,an,z_ (qa3 HB.out _)⟩
      case measure=>simp [intOf];omega
    ·obtain rfl:k2=p:=o_
     have ai:d.length=k2:=by rw [am.out.1,← HP.out]
     have aw:Hid (bb=fitD A d):=z_ (by rw [HF.out,fitD,ai]);have b1:=(HB.out.cell (p:=⟨g,o+k*2+1,none⟩) hg).trans aC.out;clear ai;cases bb with
     | true=>
      have HE:=z_ (ac.out aw.out.symm);go_wp2_with (go_at_call 221;refine (au.out _).mono ?_;rintro e w3 ⟨rfl,rfl⟩)
      exact c93_
     | false=>
      have HE:=z_ (ad.out aw.out.symm);go_wp2;exact c93_
  ·obtain rfl:k=q:=o_
   have aE:Hid (D.take k=D):=z_ (by rw [HQ.out,List.take_length]);rw [aE.out];go_wp2_with fail
   refine (aj.out _ HB.out).mono ?_;rintro e w3 ⟨rfl,rfl⟩;go_wp2;go_ret;exact ⟨rfl,HB.out⟩
abbrev SApp (x g o:Nat)(v0 v1 v2 vd:Value)(W w:World):Prop:=((w.cell? ⟨x,0,none⟩=some v0∧w.cell? ⟨x,1,none⟩=some v1∧w.cell? ⟨x,2,none⟩=some v2)∧w.cell? ⟨g,o+1,none⟩=some vd)∧Below W.heap.size W w
theorem SApp.of {x g o:Nat}{v0 v1 v2 vd:Value}{W w:World}(h:SApp x g o v0 v1 v2 vd W W)(hb:Below W.heap.size W w):SApp x g o v0 v1 v2 vd W w:=by
 have k:∀ {a:Addr} {v:Value},W.cell? a=some v→w.cell? a=some v:=fun {a v} h=>(hb.cell (p:=a) (l_ h)).trans h
 exact ⟨⟨⟨k h.1.1.1,k h.1.1.2.1,k h.1.1.2.2⟩,k h.1.2⟩,hb⟩
theorem c94_ {p:Prop}(h:p:=by
 (try dsimp only);exact ah.out.of (by first|exact b_.drew|exact ab.out|exact af.out)
):p:=h
theorem qps (P:List (List UInt8))(Q:List (Int×Int))(O:List OpM)(ai:qad P Q O=true)(k:Nat)(hk:k<O.length)(A:List Nat)(ap:A.length=ar (O.getD k default))(hA:∀ i,A.getD i 0<65536)(va vb vc vs:Value)(w:World)(h:HasG w va vb vc P Q O)(h1:Has w vs (ivs (nats A))):
  Calls Tryz.prog 182 #[.agg #[va,vb,vc],.int .i64 (k:Int),vs] w fun e w'=>e=.returned (.int .i64 ((upC (clo P.length (prs Q)) (giveR (O.getD k default).decls A):Nat):Int))∧Below w.heap.size w w':=by
 have aa:=(qa9 ai).1;obtain ⟨p1,p2,p3,p4,_⟩:=qax aa;have ac:=qgx aa;have aq:=z_ (fun W (hW:Below w.heap.size w W)=>qg5 P Q p1 p2 o_ p3 va vb W (h.s.below n_ hW));obtain ⟨A1,c1,A2,c2,A3,c3,rfl,rfl,rfl,_,_,_,h'⟩:=h.shape;obtain ⟨g,o,Ad,cd,rfl,_,hg,_,e1,_,_,_,hD,_,_⟩:=qcg h'.o hk;have ad:=z_ (fun W vu (hW:Below w.heap.size w W) (hu:Has W vu (ivs (nats (clo P.length (prs Q)))))=>qgy (clo P.length (prs Q)) ac (O.getD k default).decls A (by rw [qc3,ap];exact qz6 ai hk) hA vu _ vs W hu (hD.below qa7 n_ hW) (h1.below n_ hW));obtain ⟨As,cs,rfl,_⟩:=h1.shape rfl;obtain ⟨sl,au⟩:=e_ ((ivs (nats A)).length);rw [← au] at ad ⊢;obtain ⟨uv,av⟩:=e_ (upC (clo P.length (prs Q)) (giveR (O.getD k default).decls A));rw [← av] at ad ⊢;obtain ⟨dl,aw⟩:=e_ ((O.getD k default).decls.length);rw [← aw] at ad e1;obtain ⟨m1,ag⟩:=e_ (P.length);obtain ⟨m2,aj⟩:=e_ (Q.length);obtain ⟨m3,ax⟩:=e_ (O.length);have i1:(0:Int)≤(k:Int):=o_;have i2:(k:Int)<(m3:Int):=o_;rw [← ag,← aj] at aq;rw [← ag] at ad;rw [← ag,← aj,← ax];obtain ⟨W,hW⟩:=e_ (w.alloc (.cells #[.slice A1 m1 c1,.slice A2 m2 c2,.slice (some ⟨g,o,none⟩) m3 c3] 46));have ak:=fr1_ hW;have ay:SApp w.heap.size g (o+k*5) (.slice A1 m1 c1) (.slice A2 m2 c2) (.slice (some ⟨g,o,none⟩) m3 c3) (.slice Ad dl cd) W W:=by
  refine ⟨⟨?_,(ak.cell (p:=⟨g,o+k*5+1,none⟩) hg).trans e1⟩,Below.refl _ _⟩;rw [hW];exact tsl.box3 (termt.qa5 _ _ _ rfl)
 have ae:=z_ ak;have ah:=z_ ay;clear h h' h1 hA ap aa p1 p2 p3 p4 ac e1 hD au av aw ag aj ax ak ay ai hk hg;go_enter Tryz.func182,Tryz.ntmps182
 go_wp2_with fail
 rw [← hW];clear hW;refine wp_region_noPanic ?_;refine wp_region_held_drew (S:=(SApp w.heap.size g (o+k*5) (.slice A1 m1 c1) (.slice A2 m2 c2) (.slice (some ⟨g,o,none⟩) m3 c3) (.slice Ad dl cd) W)) k_ ?_ (fun al=>?_)
 ·exact ah.out.of (by first|exact b_.drew|exact ab.out|exact af.out)
 refine t_k 0 ?_;refine t_k 1 ?_;refine t_k 3 ?_;refine t_k 4 ?_;refine t_k 5 ?_;refine t_k 6 ?_;refine t_k 7 ?_;refine t_k 8 ?_;refine t_k 9 ?_;refine r_d [2] ?_;refine c_s (fun K hK=>?_) ?_
 ·(go_simp;refine (aq.out W.drew ae.out.drew).mono ?_;rintro e w1 ⟨aB,rfl,hown,az⟩;obtain ⟨Au,cu,rfl,_⟩:=qae hown;have HU:=z_ (Has.of_own hown);have ab:Hid (Below W.heap.size W w1):=z_ (b_.drew.trans az);have am:Hid (Below w.heap.size w w1):=z_ (ae.out.trans (ab.out.mono ae.out.size));clear hown az;(try dsimp only))
  refine k_o hK ?_ (fun an=>?_)
  ·exact c94_
  clear hK K al;refine r_d [10] ?_;refine c_s (fun K hK=>?_) ?_
  ·(go_simp;refine (ad.out w1 _ am.out HU.out).mono ?_;rintro e w2 ⟨rfl,hb2⟩;have af:Hid (Below W.heap.size W w2):=z_ (ab.out.trans (hb2.mono ab.out.size));clear hb2;(try dsimp only))
   refine k_o hK ?_ (fun ao=>?_)
   ·exact c94_
   clear hK K an;refine r_d [11] ?_;refine c_s (fun K hK=>?_) ?_
   ·go_simp
    refine k_o hK ?_ (fun aA=>?_)
    ·exact c94_
    clear hK K ao;refine wpAnyH_done k_ ?_ _;refine NoPanic.normal ?_;go_wp2;go_ret;exact ⟨rfl,ae.out.trans (af.out.mono ae.out.size)⟩
   exact a_l
  exact a_l
 exact a_l
end tsp

namespace bndo
set_option maxRecDepth 20000
set_option maxHeartbeats 2000000
open mem rowl trm terml termb termt bndl bndt
theorem qzi {n:Nat}(b:BindM)(va vb:Value)(w:World){lo:Nat}(ha:HasTs n lo w va b.v.args)(hb:HasTs n lo w vb b.t.args)(az:sizes b.v.args≤1048576)(aA:sizes b.t.args≤1048576):
  Calls Tryz.prog 42 #[aggB b va vb] w fun e w'=>∃ af ag S1 S2,e=.returned (aggB b af ag)∧OT 38 (n+1) (w.heap.size+3) w' af b.v.args S1∧OT 38 (n+1) (w.heap.size+3) w' ag b.t.args S2∧(∀ k∈S1,k ∉ S2)∧Below w.heap.size w w':=by
 have HA:=z_ (fun W (hW:Below w.heap.size w W)=>qgf b.v.op b.v.name b.v.sort b.v.args az va W (ha.below n_ hW));have HB:=z_ (fun W (hW:Below w.heap.size w W)=>qgf b.t.op b.t.name b.t.sort b.t.args aA vb W (hb.below n_ hW));obtain ⟨A,ca,rfl,_⟩:=HasR.shape ha rfl;obtain ⟨B,cb,rfl,_⟩:=HasR.shape hb rfl;have ah:Hid (∀ {W lo v S},OT 38 (n+1) lo W v b.v.args S→∃ A c,v=.slice A b.v.args.length c):=z_ (fun h=>OT.shape h);have ai:Hid (∀ {W lo v S},OT 38 (n+1) lo W v b.t.args S→∃ A c,v=.slice A b.t.args.length c):=z_ (fun h=>OT.shape h);unfold aggB;obtain ⟨o1,aB⟩:=e_ (b.v.op);obtain ⟨n1,aC⟩:=e_ (b.v.name);obtain ⟨s1,aj⟩:=e_ (b.v.sort);obtain ⟨k1,aq⟩:=e_ (b.v.args.length);obtain ⟨o2,aD⟩:=e_ (b.t.op);obtain ⟨n2,aE⟩:=e_ (b.t.name);obtain ⟨s2,ak⟩:=e_ (b.t.sort);obtain ⟨k2,au⟩:=e_ (b.t.args.length);rw [← aq] at ah;rw [← au] at ai;rw [← aB,← aC,← aj,← aq] at HA ⊢;rw [← aD,← aE,← ak,← au] at HB ⊢;obtain ⟨W,hW⟩:=e_ (((w.alloc (.cells #[.int .i64 o1,.string (bstr n1),.int .i64 s1,.slice A k1 ca,.int .i64 o2,.string (bstr n2),.int .i64 s2,.slice B k2 cb] 77)).alloc (.cells #[.int .i64 0,.string { data:=#[] },.int .i64 0,.slice none 0 0,.int .i64 0,.string { data:=#[] },.int .i64 0,.slice none 0 0] 85)).alloc (.cells #[.int .i64 0,.string { data:=#[] },.int .i64 0,.slice none 0 0,.int .i64 0,.string { data:=#[] },.int .i64 0,.slice none 0 0] 85));have aF:Below w.heap.size w W:=by rw [hW];exact ((b_.alloc n_ _).alloc (by simp) _).alloc (by simp;omega) _
 have aG:W.heap.size=w.heap.size+3:=by rw [hW];simp
 have av:W.heap[w.heap.size]? =some (.cells #[.int .i64 o1,.string (bstr n1),.int .i64 s1,.slice A k1 ca,.int .i64 o2,.string (bstr n2),.int .i64 s2,.slice B k2 cb] 77 (0,0)):=by rw [hW];exact (Below.heap_alloc _ _ _ (by simp;omega)).trans ((Below.heap_alloc _ _ _ (by simp)).trans (qa5 _ _ _ rfl))
 have aH:W.heap[w.heap.size+1]? =some (.cells #[.int .i64 0,.string { data:=#[] },.int .i64 0,.slice none 0 0,.int .i64 0,.string { data:=#[] },.int .i64 0,.slice none 0 0] 85 (0,0)):=by rw [hW];exact (Below.heap_alloc _ _ _ (by simp)).trans (qa5 _ _ _ (by simp))
 have aI:W.heap[w.heap.size+2]? =some (.cells #[.int .i64 0,.string { data:=#[] },.int .i64 0,.slice none 0 0,.int .i64 0,.string { data:=#[] },.int .i64 0,.slice none 0 0] 85 (0,0)):=by rw [hW];exact qa5 _ _ _ (by simp)
 obtain ⟨⟨x0,x1,x2,x3⟩,x4,x5,x6,x7⟩:=qj8 av;have aJ:=z_ av;have aK:=z_ aH;have aL:=z_ aI;have aw:=z_ aF;have HZ:=z_ aG;have aS:(bstr []:ByteArray)={ data:=#[] }:=rfl;clear ha hb az aA aB aC aj aq aD aE ak au aF aG av aH aI;go_enter Tryz.func42,Tryz.ntmps42
 go_wp2_with fail
 rw [← hW];clear hW;refine (HA.out W aw.out).mono ?_;rintro e w1 ⟨v1,S1,rfl,ax,ab⟩;obtain ⟨A1,c1,rfl⟩:=ah.out ax;have aM:=z_ ax;have aT:=z_ ab;have ay:=(ab.block _ (by rw [HZ.out];omega)).trans aJ.out;have aN:=(ab.block _ (by rw [HZ.out];omega)).trans aK.out;have ac:=(ab.block _ (by rw [HZ.out];omega)).trans aL.out;obtain ⟨_,y4,y5,y6,y7⟩:=qj8 ay;obtain ⟨⟨q0,q1,q2,q3⟩,_⟩:=qj8 ac;have f0:=g_ w1 _ 0 _ _ ac;have f1:=g_ w1 _ 1 _ _ ac;have f2:=g_ w1 _ 2 _ _ ac;have f3:=g_ w1 _ 3 _ _ ac;have aU:w.heap.size+3≤w1.heap.size:=by have:=ab.size;have:=HZ.out;omega
 obtain ⟨w2,an⟩:=e_ ((((w1.setCell ⟨w.heap.size+2,0,none⟩ (.int .i64 o1)).setCell ⟨w.heap.size+2,1,none⟩ (.string (bstr n1))).setCell ⟨w.heap.size+2,2,none⟩ (.int .i64 s1)).setCell ⟨w.heap.size+2,3,none⟩ (.slice A1 k1 c1));have al:Chg [w.heap.size+2] w1 w2:=by rw [an];exact ((((Chg.refl _ w1).trans (Chg.set (by simp) _)).trans (Chg.set (by simp) _)).trans (Chg.set (by simp) _)).trans (Chg.set (by simp) _)
 have aO:w2.heap[w.heap.size+2]? =some (.cells #[.int .i64 o1,.string (bstr n1),.int .i64 s1,.slice A1 k1 c1,.int .i64 0,.string { data:=#[] },.int .i64 0,.slice none 0 0] 85 (0,0)):=by
  rw [an];exact qhp (qhp (qhp (qhp ac 0 _) 1 _) 2 _) 3 _
 have am:Below w.heap.size w w2:=(aw.out.trans (ab.mono aw.out.size)).trans (al.below o_ (by simp));have ao:=z_ al;have aR:=z_ ((al.block (w.heap.size) o_ (by simp)).trans ay);have aP:=z_ ((al.block (w.heap.size+1) o_ (by simp)).trans aN);have aQ:=z_ aO;have ad:=z_ am;clear ax ab ay aN ac al aO am x0 x1 x2 x3 x4 x5 x6 x7;go_wp2_with fail
 rw [← an];clear an y4 y5 y6 y7 q0 q1 q2 q3 f0 f1 f2 f3;refine (HB.out w2 ad.out).mono ?_;rintro e w3 ⟨v2,S2,rfl,ap,hb2⟩;obtain ⟨A2,c2,rfl⟩:=ai.out ap;have aV:w.heap.size+3≤w2.heap.size:=by have:=ao.out.size;omega
 have aa:=(hb2.block _ o_).trans aP.out;have ae:=(hb2.block _ o_).trans aQ.out;obtain ⟨⟨q0,q1,q2,q3⟩,q4,q5,q6,q7⟩:=qj8 ae;obtain ⟨⟨z0,z1,z2,z3⟩,z4,z5,z6,z7⟩:=qj8 aa;have f4:=g_ w3 _ 4 _ _ ae;have f5:=g_ w3 _ 5 _ _ ae;have f6:=g_ w3 _ 6 _ _ ae;have f7:=g_ w3 _ 7 _ _ ae;have g0:=g_ w3 _ 0 _ _ aa;have g1:=g_ w3 _ 1 _ _ aa;have g2:=g_ w3 _ 2 _ _ aa;have g3:=g_ w3 _ 3 _ _ aa;have g4:=g_ w3 _ 4 _ _ aa;have g5:=g_ w3 _ 5 _ _ aa;have g6:=g_ w3 _ 6 _ _ aa;have g7:=g_ w3 _ 7 _ _ aa
 have HK:Hid (∀ w9,Chg [w.heap.size+1,w.heap.size+2] w3 w9→∃ af ag S1 S2,(Ending.returned (.agg #[.int .i64 o1,.string (bstr n1),.int .i64 s1,.slice A1 k1 c1,.int .i64 o2,.string (bstr n2),.int .i64 s2,.slice A2 k2 c2]))=.returned (.agg #[.int .i64 o1,.string (bstr n1),.int .i64 s1,af,.int .i64 o2,.string (bstr n2),.int .i64 s2,ag])∧OT 38 (n+1) (w.heap.size+3) w9 af b.v.args S1∧OT 38 (n+1) (w.heap.size+3) w9 ag b.t.args S2∧(∀ k∈S1,k ∉ S2)∧Below w.heap.size w w9):=z_ (fun w9 h9=>by
  have l1:=aM.out.lt;have l2:=ap.lt;have aW:=HZ.out;have hcs:=ao.out.size;refine ⟨_,_,S1,S2,rfl,?_,?_,?_,?_⟩
  ·exact (((aM.out.chg ao.out (fun k hk=>by have:=l1 k hk;simp;omega)).below hb2).chg h9 (fun k hk=>by have:=l1 k hk;simp;omega)).mono o_
  ·exact (ap.chg h9 (fun k hk=>by have:=l2 k hk;simp;omega)).mono o_
  ·intro k h1 h2
   have:=l1 k h1;have:=l2 k h2;omega
  ·exact (ad.out.trans (hb2.mono ad.out.size)).trans (h9.below (by have:=hb2.size;omega) (by simp)))
 clear ap hb2 aa ae HA HB ao aR aP aQ aJ aK aL;go_wp2;refine bodyPost_ret (v:=.agg #[.int .i64 o1,.string (bstr n1),.int .i64 s1,.slice A1 k1 c1,.int .i64 o2,.string (bstr n2),.int .i64 s2,.slice A2 k2 c2]) (by simp [results,Tryz.results42,go_sem,z0,z1,z2,z3,z4,z5,z6,z7]) rfl (HK.out _ ?_);repeat (refine Chg.trans ?_ (Chg.set (by simp) _))
 exact Chg.refl _ _
def OB (n lo:Nat)(w:World)(v:Value)(L:List BindM)(S:List Nat):Prop:=
 ∃ (xs:List Value) (vs us:Nat→Value) (Sa Sb:Nat→List Nat),w.ownsRow lo 85 8 v L.length xs∧S=v.ownBlock.toList++(List.range L.length).flatMap (fun i=>Sa i++Sb i)∧S.Nodup∧
  ∀ i,i<L.length→(∀ q,q<8→xs[i*8+q]? =some ([.int .i64 (L.getD i default).v.op,.string (bstr (L.getD i default).v.name),.int .i64 (L.getD i default).v.sort,vs i,.int .i64 (L.getD i default).t.op,.string (bstr (L.getD i default).t.name),.int .i64 (L.getD i default).t.sort,us i].getD q undef))∧(Bnd (L.getD i default).v∧Bnd (L.getD i default).t)∧OT 38 n lo w (vs i) (L.getD i default).v.args (Sa i)∧OT 38 n lo w (us i) (L.getD i default).t.args (Sb i)
def PartO (n B:Nat)(w:World)(ys:List Value)(L:List BindM)(j:Nat):Prop:=
 ∃ (vs us:Nat→Value) (Sa Sb:Nat→List Nat),((List.range j).flatMap (fun i=>Sa i++Sb i)).Nodup∧
  ∀ i,i<j→(∀ q,q<8→ys[i*8+q]? =some ([.int .i64 (L.getD i default).v.op,.string (bstr (L.getD i default).v.name),.int .i64 (L.getD i default).v.sort,vs i,.int .i64 (L.getD i default).t.op,.string (bstr (L.getD i default).t.name),.int .i64 (L.getD i default).t.sort,us i].getD q undef))∧(Bnd (L.getD i default).v∧Bnd (L.getD i default).t)∧OT 38 n B w (vs i) (L.getD i default).v.args (Sa i)∧OT 38 n B w (us i) (L.getD i default).t.args (Sb i)
theorem PartO.step {n B:Nat}{w w2 w3:World}{ys:List Value}{L:List BindM}{j g:Nat}{v2 u2:Value}{S1 S2:List Nat}{b:BindM}(h:PartO n B w ys L j)(ac:b=L.getD j default)(hb:Below w.heap.size w w2)
  (h1:OT 38 n (w.heap.size+3) w2 v2 b.v.args S1) (h2:OT 38 n (w.heap.size+3) w2 u2 b.t.args S2) (hd:∀ k∈S1,k ∉ S2) (hB:B≤w.heap.size) (hc:Chg [g] w2 w3) (hg:g<B) (hl:j*8+8≤ys.length) (ad:Bnd b.v∧Bnd b.t):
  PartO n B w3 ((((((((ys.set (j*8) (.int .i64 b.v.op)).set (j*8+1) (.string (bstr b.v.name))).set (j*8+2) (.int .i64 b.v.sort)).set (j*8+3) v2).set (j*8+4) (.int .i64 b.t.op)).set (j*8+5) (.string (bstr b.t.name))).set (j*8+6) (.int .i64 b.t.sort)).set (j*8+7) u2) L (j+1):=by
 subst ac;obtain ⟨vs,us,Sa,Sb,ae,hi⟩:=h;refine ⟨fun i=>if i=j then v2 else vs i,fun i=>if i=j then u2 else us i,fun i=>if i=j then S1 else Sa i,fun i=>if i=j then S2 else Sb i,?_,fun i ag=>?_⟩
 ·rw [List.range_succ,List.flatMap_append,qe1 (g:=fun i=>Sa i++Sb i) (fun a ha=>by have:=List.mem_range.1 ha;show (if a=j then S1 else Sa a)++(if a=j then S2 else Sb a)=Sa a++Sb a;rw [if_neg o_,if_neg o_])]
  simp only [List.flatMap_cons,List.flatMap_nil,List.append_nil,if_pos];refine List.nodup_append.2 ⟨ae,List.nodup_append.2 ⟨h1.nodup,h2.nodup,fun a ha b hb2 e=>hd a ha (by rw [e];exact hb2)⟩,fun a ha b hb2 e=>?_⟩;obtain ⟨q,hq,af⟩:=List.mem_flatMap.1 ha;have ab:=hi q (List.mem_range.1 hq);have k1:a<w.heap.size:=by
   rcases List.mem_append.1 af with h|h
   ·exact (ab.2.2.1.lt a h).2
   ·exact (ab.2.2.2.lt a h).2
  have k2:w.heap.size+3≤b:=by
   rcases List.mem_append.1 hb2 with h|h
   ·exact (h1.lt b h).1
   ·exact (h2.lt b h).1
  omega
 ·by_cases e:i=j
  ·subst e
   simp only [if_pos];refine ⟨fun q hq=>qzg o_ q hq,ad,(h1.chg hc (fun k hk=>?_)).mono o_,(h2.chg hc (fun k hk=>?_)).mono o_⟩
   ·have:=h1.lt k hk;simp;omega
   ·have:=h2.lt k hk;simp;omega
  ·have aa:=hi i o_
   simp only [if_neg e];refine ⟨fun q hq=>?_,aa.2.1,(aa.2.2.1.below hb).chg hc (fun k hk=>?_),(aa.2.2.2.below hb).chg hc (fun k hk=>?_)⟩
   ·rw [qzf o_]
    exact aa.1 q hq
   ·have:=aa.2.2.1.lt k hk;simp;omega
   ·have:=aa.2.2.2.lt k hk;simp;omega
theorem PartO.done {n B lo:Nat}{w:World}{ys:List Value}{L:List BindM}{v:Value}(h:PartO n B w ys L L.length)(ho:w.ownsRow lo 85 8 v L.length ys)(hv:∀ g,v.ownBlock=some g→g<B)(hB:lo≤B):∃ S,OB n lo w v L S:=by
 obtain ⟨vs,us,Sa,Sb,ab,hi⟩:=h;refine ⟨_,ys,vs,us,Sa,Sb,ho,rfl,?_,fun j hj=>⟨(hi j hj).1,(hi j hj).2.1,(hi j hj).2.2.1.mono hB,(hi j hj).2.2.2.mono hB⟩⟩;refine List.nodup_append.2 ⟨?_,ab,fun a ha b hb2 e=>?_⟩
 ·cases v.ownBlock<;>simp
 ·obtain ⟨q,hq,ac⟩:=List.mem_flatMap.1 hb2
  have aa:=hi q (List.mem_range.1 hq);have h1:B≤b:=by
   rcases List.mem_append.1 ac with h|h
   ·exact (aa.2.2.1.lt b h).1
   ·exact (aa.2.2.2.lt b h).1
  have h2:=hv a (by simpa using ha);omega
theorem qx1 {n:Nat}(L:List BindM)(v:Value)(w:World){lo:Nat}(h:HasBs n lo w v L)(hsz:bsz L≤1048576):
  Calls Tryz.prog 12 #[v] w fun e w'=>∃ v' S,e=.returned v'∧OB (n+1) w.heap.size w' v' L S∧Below w.heap.size w w':=by
 obtain ⟨N,hN⟩:=e_ (L.length);obtain ⟨A,c,rfl,h⟩:=HasR.shape h hN.symm;obtain ⟨i0,hi,aB,aC,aD⟩:=info_parts qx0;have aH:N≤1048576:=by have:=qku L;omega
 have HH:=z_ h;have HN:=z_ hN;have aw:=z_ hsz;clear h hN hsz;go_enter Tryz.func12,Tryz.ntmps12
 go_wp2_with (at_make;refine wpList_make_full _ rfl _ _ 48 rfl w.heap.size 85 i0 _ 8 Tryz.underlying48 hi aB aC _ _ _ _ N rfl rfl rfl rfl (by rw [aD];omega) (by unfold maxLen;omega) n_ ?_)
 intro w1 hown af;have ai:w.heap.size<w1.heap.size:=by
  rcases hown.2 with ⟨hv,_⟩|⟨g,cap,cur,hv,hb,hg,_⟩
  ·cases hv
  ·have:=(q_ hg);omega
 go_wp2
 go_loopw [4] (fun i wr=>∃ (j:Nat) (ys:List Value),j≤N∧i=.int .i64 j∧wr.ownsRow w.heap.size 85 8 (.slice (some ⟨w.heap.size,0,none⟩) N N) N ys∧
   Hid (PartO (n+1) (w.heap.size+1) wr ys L j)∧w.heap.size<wr.heap.size∧Below w.heap.size w wr) (fun i _=>N-(intOf i).toNat)
 case atStart=>exact ⟨0,_,y_,rfl,hown,z_ ⟨fun _=>undef,fun _=>undef,fun _=>[],fun _=>[],by simp,fun i hi=>by omega⟩,ai,b_.grown af n_ (by intro k h;cases h)⟩
 case round=>
  obtain ⟨j,ys,hj,rfl,hown,HY,hsz,aa⟩:=hrel;by_cases hlt:j<N
  ·obtain ⟨g,o,A1,c1,A2,c2,rfl,hg,hc,h1,h2,hv,ht⟩:=qe3 HH.out hlt
   obtain ⟨⟨x0,x1,x2,x3⟩,x4,x5,x6,x7⟩:=hc.below aa;have aj:=h1.below n_ aa;have ak:=h2.below n_ aa;have aE:=qu2 (L:=L) (j:=j) (by have:=HN.out;omega);have al:sizes (L.getD j default).v.args≤1048576:=by have:=aw.out;omega
   have am:sizes (L.getD j default).t.args≤1048576:=by have:=aw.out;omega
   obtain ⟨b,an⟩:=e_ (L.getD j default);rw [← an] at x0 x1 x2 x3 x4 x5 x6 x7 aj ak hv ht al am;have HT:=z_ (qzi b _ _ wr aj ak al am);have HX:=z_ an;have aF:=z_ (And.intro hv ht);have ag:=z_ hown;have ax:Hid (∀ {W lo v S},OT 38 (n+1) lo W v b.v.args S→∃ A c,v=.slice A b.v.args.length c):=z_ (fun h=>OT.shape h);have ah:Hid (∀ {W lo v S},OT 38 (n+1) lo W v b.t.args S→∃ A c,v=.slice A b.t.args.length c):=z_ (fun h=>OT.shape h);unfold aggB at HT;obtain ⟨o1,ao⟩:=e_ (b.v.op);obtain ⟨n1,ap⟩:=e_ (b.v.name);obtain ⟨s1,ac⟩:=e_ (b.v.sort);obtain ⟨k1,ay⟩:=e_ (b.v.args.length);obtain ⟨o2,aq⟩:=e_ (b.t.op);obtain ⟨n2,ad⟩:=e_ (b.t.name);obtain ⟨s2,ae⟩:=e_ (b.t.sort);obtain ⟨k2,az⟩:=e_ (b.t.args.length);have HE:=z_ (And.intro ao (And.intro ap (And.intro ac (And.intro aq (And.intro ad ae)))));rw [← ay] at x3 HT ax;rw [← az] at x7 HT ah;rw [← ao] at x0 HT;rw [← ap] at x1 HT;rw [← ac] at x2 HT;rw [← aq] at x4 HT;rw [← ad] at x5 HT;rw [← ae] at x6 HT;clear hc h1 h2 aj ak hv ht aE al am an hown ao ap ac ay aq ad ae az;go_wp2_with fail
   refine (HT.out).mono ?_;rintro e w2 ⟨aI,aJ,S1,S2,rfl,au,av,aA,hb2⟩;obtain ⟨A3,c3,rfl⟩:=ax.out au;obtain ⟨A4,c4,rfl⟩:=ah.out av;have ab:=z_ (qa2 ag.out hb2);have HV:=z_ (And.intro au (And.intro av aA));have aG:=z_ hb2;obtain ⟨⟨v0,aK⟩,aL⟩:=qai ab.out (i:=j*8) o_;obtain ⟨⟨v1,aM⟩,aN⟩:=qai ab.out (i:=j*8+1) o_;obtain ⟨⟨v2,aO⟩,aP⟩:=qai ab.out (i:=j*8+2) o_;obtain ⟨⟨v3,aQ⟩,aR⟩:=qai ab.out (i:=j*8+3) o_;obtain ⟨⟨v4,aS⟩,aT⟩:=qai ab.out (i:=j*8+4) o_;obtain ⟨⟨v5,aU⟩,aV⟩:=qai ab.out (i:=j*8+5) o_;obtain ⟨⟨v6,aW⟩,aX⟩:=qai ab.out (i:=j*8+6) o_;obtain ⟨⟨v7,aY⟩,aZ⟩:=qai ab.out (i:=j*8+7) o_;clear au av aA;go_wp2;go_roundw
   case rel=>
    refine ⟨j+1,_,by omega,by go_num,qa4 (qa4 (qa4 (qa4 (qa4 (qa4 (qa4 (qa4 ab.out (j*8) _) (j*8+1) _) (j*8+2) _) (j*8+3) _) (j*8+4) _) (j*8+5) _) (j*8+6) _) (j*8+7) _,z_ ?_,by simp [World.setCell];have:=hb2.size;omega,?_⟩
    ·have hlen:ys.length=N*8:=by have:=ag.out.1;omega
     obtain ⟨e1,e2,e3,e4,e5,e6⟩:=HE.out;rw [e1,e2,e3,e4,e5,e6];exact PartO.step HY.out HX.out aG.out HV.out.1 HV.out.2.1 HV.out.2.2 o_ (qb3 (qb3 (qb3 (qb3 (qb3 (qb3 (qb3 (qb3 (Chg.refl _ _) _ _) _ _) _ _) _ _) _ _) _ _) _ _) _ _) (Nat.lt_succ_self _) o_ aF.out
    ·exact ((((((((aa.trans (hb2.mono aa.size)).setCell n_ _).setCell n_ _).setCell n_ _).setCell n_ _).setCell n_ _).setCell n_ _).setCell n_ _).setCell n_ _
   case measure=>simp [intOf];omega
  ·obtain rfl:j=N:=o_
   have HW:Hid (∃ S,OB (n+1) w.heap.size wr (.slice (some ⟨w.heap.size,0,none⟩) j j) L S):=z_ (by
    have h1:=HY.out;rw [HN.out] at h1 hown;rw [HN.out]
    exact PartO.done h1 hown (fun g hg=>by simp [Value.ownBlock] at hg;omega) o_)
   clear hown;go_wp2;go_ret;obtain ⟨S,hS⟩:=HW.out;exact ⟨_,S,rfl,hS,aa⟩
end bndo

namespace bndm
open mem dec rowl trm terml termb termt termu bndl bndt bndo
theorem qte (a b:List BindM):bsz (a++b)=bsz a+bsz b:=by simp [bsz]
theorem qpw (L:List BindM)(j:Nat):bsz (L.take j)≤bsz L:=by
 have h:=qte (L.take j) (L.drop j);rw [List.take_append_drop] at h;omega
theorem qkl {f:Nat→List Nat}{N i j:Nat}(h:((List.range N).flatMap f).Nodup)(hi:i<N)(hj:j<N)(e:i≠j):∀ x∈f i,x ∉ f j:=by
 have h4:=(List.pairwise_flatMap.1 h).2;have h5:∀ a b,a<b→b<N→∀ x,x∈f a→x ∉ f b:=by
  intro a b ab ac x hx aa;have:=(List.pairwise_iff_getElem.1 h4) a b (by simp;omega) (by simpa using ac) ab;simp only [List.getElem_range] at this;exact this x hx x aa rfl
 intro x hx aa;rcases Nat.lt_or_gt_of_ne e with h6|h6
 ·exact h5 i j h6 hj x hx aa
 ·exact h5 j i h6 hi x aa hx
theorem OB.has {n lo:Nat}{w:World}{v:Value}{L:List BindM}{S:List Nat}(h:OB n lo w v L S):HasBs n lo w v L:=by
 obtain ⟨xs,vs,us,Sa,Sb,ho,_,_,hj⟩:=h;refine HasR.of_own ho rfl (fun j aa=>?_);obtain ⟨h1,⟨h2,h3⟩,h4,h5⟩:=hj j aa;exact ⟨_,h1,vs j,us j,rfl,h4.has,h5.has,h2,h3⟩
theorem OB.below {n lo:Nat}{w w':World}{v:Value}{L:List BindM}{S:List Nat}(h:OB n lo w v L S)(hb:Below w.heap.size w w'):OB n lo w' v L S:=by
 obtain ⟨xs,vs,us,Sa,Sb,ho,hS,aa,hj⟩:=h;exact ⟨xs,vs,us,Sa,Sb,qa2 ho hb,hS,aa,fun i hi=>⟨(hj i hi).1,(hj i hi).2.1,(hj i hi).2.2.1.below hb,(hj i hi).2.2.2.below hb⟩⟩
def Rest (n lo N j:Nat)(w:World)(ys:List Value)(L:List BindM)(vs us:Nat→Value)(Sa Sb:Nat→List Nat):Prop:=
 ∀ i,j≤i→i<N→(ys[i*8+3]? =some (vs i)∧ys[i*8+7]? =some (us i))∧OT 38 n lo w (vs i) (L.getD i default).v.args (Sa i)∧OT 38 n lo w (us i) (L.getD i default).t.args (Sb i)
set_option maxRecDepth 20000 in
set_option maxHeartbeats 4000000 in
theorem qzj {n lo k:Nat}(L:List BindM)(v:Value)(S:List Nat)(w:World)(h:OB (n+1) lo w v L S)(hk:k+6*bsz L≤1073741824):
  Calls Tryz.prog 19 #[v,.int .i64 k] w fun e w'=>∃ p:Nat,e=.returned (.int .i64 p)∧p≤k+6*bsz L∧Chg S w w':=by
 obtain ⟨xs,vs,us,Sa,Sb,ho,hS,aA,ak⟩:=h;obtain ⟨N,hN⟩:=e_ (L.length);obtain ⟨A,c,rfl⟩:∃ A c,v=.slice A N c:=by
  rw [← hN] at ho;by_cases hz:N=0
  ·subst hz
   rcases ho.2 with ⟨hv,_⟩|⟨g,cap,cur,hv,_⟩
   ·exact ⟨none,0,hv⟩
   ·exact ⟨_,_,hv⟩
  ·obtain ⟨g,cap,hv,_⟩:=qb5 ho (by intro e;have:=ho.1;rw [e] at this;simp at this;omega)
   exact ⟨_,_,hv⟩
 have be:N≤1073741824:=by have:=qku L;omega
 rw [← hN] at ho hS ak;have HN:=z_ hN;have HS:=z_ hS;have aB:=z_ aA;have aO:=z_ hk
 have ab:Rest (n+1) lo N 0 w xs L vs us Sa Sb:=fun i _ hi=>by
  obtain ⟨h1,_,h3,h4⟩:=ak i hi;exact ⟨⟨h1 3 o_,h1 7 o_⟩,h3,h4⟩
 have aP:=z_ ab;have aC:=z_ (qdj (n+1));clear hS aA hN ab ak;go_enter Tryz.func19,Tryz.ntmps19
 go_wp2;go_loopw [1,5] (fun v i wr=>∃ (j p:Nat) (ys:List Value),j≤N∧i=.int .i64 j∧v=.int .i64 (p:Int)∧p≤k+6*bsz (L.take j)∧wr.ownsRow lo 85 8 (.slice A N c) N ys∧Hid (Rest (n+1) lo N j wr ys L vs us Sa Sb)∧Chg S w wr) (fun _ i _=>N-(intOf i).toNat)
 case atStart=>exact ⟨0,k,xs,y_,rfl,rfl,by omega,ho,aP,Chg.refl _ _⟩
 case round=>
  obtain ⟨j,p,ys,hj,rfl,rfl,hp,hown,HR,ac⟩:=hrel;by_cases hlt:j<N
  ·have ae:ys.length=N*8:=hown.1
   obtain ⟨g,cap,hv,aQ,bf⟩:=qb5 hown (by intro e;rw [e] at ae;simp at ae;omega);simp only [Value.slice.injEq] at hv;obtain ⟨rfl,-,rfl⟩:=hv;obtain ⟨⟨e3,e7⟩,o3,o7⟩:=HR.out j n_ hlt;have al:=qqe (L:=L) (k:=j) (by have:=HN.out;omega);have aR:=qpw L (j+1);obtain ⟨b,hb⟩:=e_ (L.getD j default);rw [← hb] at o3 o7 al;obtain ⟨B1,d1,aD⟩:=OT.shape o3;obtain ⟨B2,d2,aE⟩:=OT.shape o7;have am:((List.range N).flatMap (fun i=>Sa i++Sb i)).Nodup:=by
    have h1:=aB.out;rw [HS.out] at h1;exact (List.nodup_append.1 h1).2.1
   have aF:∀ i,i<N→∀ q∈Sa i++Sb i,q≠g:=by
    intro i hi q hq e;have h1:=aB.out;rw [HS.out] at h1;exact (List.nodup_append.1 h1).2.2 g (by simp [Value.ownBlock]) q (List.mem_flatMap.2 ⟨i,by simpa using hi,hq⟩) e.symm
   have af:∀ q∈[g]++(Sa j++Sb j),q∈S:=by
    intro q hq;rw [HS.out];rcases List.mem_append.1 hq with hq|hq
    ·exact List.mem_append.2 (.inl (by simpa [Value.ownBlock] using hq))
    ·exact List.mem_append.2 (.inr (List.mem_flatMap.2 ⟨j,by simpa using hlt,hq⟩))
   have aG:∀ q∈Sa j,q ∉ Sb j:=fun q h1 h2=>by
    have h3:=(List.pairwise_flatMap.1 am).1 j (by simpa using hlt);exact (List.nodup_append.1 h3).2.2 q h1 q h2 rfl
   obtain ⟨⟨v0,bg⟩,bh⟩:=qai hown (i:=j*8) o_;have an:=z_ hown;have aH:=z_ am;have ad:=z_ aF;have aS:=z_ af;have aT:=z_ aG;have aU:=z_ o3;have aV:=z_ o7;have ao:=z_ aD;have ap:=z_ aE;have HE:=z_ (And.intro e3 e7);have aW:=z_ al;have aX:=z_ ae;have aY:=z_ ac;have aq:p+6*(1+sizes b.v.args+sizes b.t.args)≤1073741824:=by have:=aO.out;omega
   have HP:=z_ hp;obtain ⟨q1,aI⟩:=e_ (b.v.args.length);obtain ⟨q2,aJ⟩:=e_ (b.t.args.length);rw [← aI] at ao;rw [← aJ] at ap;clear ae hown am aF af aG o3 o7 aD aE e3 e7 al ac hb hp aR aI aJ;go_wp2_with fail
   refine (strl.qel (p+1) o_ _).mono ?_;rintro e w1 ⟨rfl,au⟩;have ai:=z_ (qa2 (qa4 an.out (j*8) (.int .i64 p)) au);have aZ:Hid (Chg [g] wr w1):=z_ ((Chg.set (by simp) _).trans (Chg.of_below au));obtain ⟨⟨v1,k1⟩,f1⟩:=qai ai.out (i:=j*8+1) o_;obtain ⟨⟨v2,k2⟩,f2⟩:=qai ai.out (i:=j*8+2) o_;have k3:w1.cell? ⟨g,j*8+3,none⟩=some (.slice B1 q1 d1):=by
    rw [ai.out.cellAt (j*8+3) o_,List.getElem?_set_ne o_,HE.out.1,ao.out]
   clear au;go_wp2_with fail
   have aa:(((p+3:Nat):Int))=(p:Int)+1+1+1:=o_;have a2:=z_ (qa4 (qa4 ai.out (j*8+1) (.string (bstr (109::dig (p+1))))) (j*8+2) (.int .i64 ((p:Int)+1+1)));have aK:Hid (Chg [g] wr ((w1.setCell ⟨g,j*8+1,none⟩ (.string (bstr (109::dig (p+1))))).setCell ⟨g,j*8+2,none⟩ (.int .i64 ((p:Int)+1+1)))):=z_ (qb3 (qb3 aZ.out _ _) _ _);have hC:=aC.out b.v.args (vs j) (Sa j) _ lo (p+3) (aU.out.chg aK.out (fun q hq=>by simpa using ad.out j hlt q (List.mem_append.2 (.inl hq)))) o_;rw [ao.out,aa] at hC;obtain ⟨r1,av⟩:=e_ (p+3+3*sizes b.v.args);rw [← av] at hC;clear v1 k1 f1 v2 k2 f2 k3;refine hC.mono ?_;rintro e w4 ⟨rfl,_,aw⟩;have aL:=z_ (aw.own a2.out (by intro q hq;simp [Value.ownBlock] at hq;subst hq;intro hm;exact ad.out j hlt _ (List.mem_append.2 (.inl hm)) rfl));have a6:Hid (Chg ([g]++Sa j) wr w4):=z_ ((aK.out.mono (fun q hq=>List.mem_append.2 (.inl hq))).trans (aw.mono (fun q hq=>List.mem_append.2 (.inr hq))));obtain ⟨⟨v4,k4⟩,f4⟩:=qai aL.out (i:=j*8+4) o_;have ag:r1+3+3*sizes b.t.args≤1073741824:=o_;have a8:=z_ av;clear aw hC aa av;go_wp2_with fail
   refine (strl.qel (r1+1) o_ _).mono ?_;rintro e w5 ⟨rfl,ax⟩;have aj:=z_ (qa2 (qa4 aL.out (j*8+4) (.int .i64 r1)) ax);have ba:Hid (Chg ([g]++Sa j) wr w5):=z_ ((a6.out.trans (Chg.set (by simp) _)).trans (Chg.of_below ax));obtain ⟨⟨v5,k5⟩,f5⟩:=qai aj.out (i:=j*8+5) o_;obtain ⟨⟨v6,k6⟩,f6⟩:=qai aj.out (i:=j*8+6) o_;have k7:w5.cell? ⟨g,j*8+7,none⟩=some (.slice B2 q2 d2):=by
    rw [aj.out.cellAt (j*8+7) o_,List.getElem?_set_ne o_,List.getElem?_set_ne o_,List.getElem?_set_ne o_,List.getElem?_set_ne o_,HE.out.2,ap.out]
   clear ax v4 k4 f4;go_wp2_with fail
   have aa:(((r1+3:Nat):Int))=(r1:Int)+1+1+1:=o_;have bb:=z_ (qa4 (qa4 aj.out (j*8+5) (.string (bstr (109::dig (r1+1))))) (j*8+6) (.int .i64 ((r1:Int)+1+1)));have aM:Hid (Chg ([g]++Sa j) wr ((w5.setCell ⟨g,j*8+5,none⟩ (.string (bstr (109::dig (r1+1))))).setCell ⟨g,j*8+6,none⟩ (.int .i64 ((r1:Int)+1+1)))):=z_ ((ba.out.trans (Chg.set (by simp) _)).trans (Chg.set (by simp) _))
   have hC:=aC.out b.t.args (us j) (Sb j) _ lo (r1+3) (aV.out.chg aM.out (fun q hq hm=>by
    rcases List.mem_append.1 hm with hm|hm
    ·exact ad.out j hlt q (List.mem_append.2 (.inr hq)) (by simpa using hm)
    ·exact aT.out q hm hq)) o_
   rw [ap.out,aa] at hC;obtain ⟨r2,aN⟩:=e_ (r1+3+3*sizes b.t.args);rw [← aN] at hC;clear v5 k5 f5 v6 k6 f6 k7;refine hC.mono ?_;rintro e w8 ⟨rfl,_,ay⟩;have bc:=z_ (ay.own bb.out (by intro q hq;simp [Value.ownBlock] at hq;subst hq;intro hm;exact ad.out j hlt _ (List.mem_append.2 (.inr hm)) rfl))
   have az:Hid (Chg ([g]++(Sa j++Sb j)) wr w8):=z_ ((aM.out.mono (fun q hq=>by
    rcases List.mem_append.1 hq with hq|hq
    ·exact List.mem_append.2 (.inl hq)
    ·exact List.mem_append.2 (.inr (List.mem_append.2 (.inl hq))))).trans (ay.mono (fun q hq=>List.mem_append.2 (.inr (List.mem_append.2 (.inr hq))))))
   have bd:Hid (r2≤k+6*bsz (L.take (j+1))):=z_ (by have h1:=aW.out;have h2:=HP.out;have h3:=a8.out;omega);clear ay hC aa aN ag aq;go_wp2;go_roundw
   case rel=>
    refine ⟨j+1,r2,_,by omega,by go_num,rfl,bd.out,bc.out,z_ ?_,aY.out.trans (az.out.mono aS.out)⟩;intro i hi ah;obtain ⟨⟨a3,a7⟩,b3,b7⟩:=HR.out i o_ ah;have ae:=aX.out;refine ⟨⟨?_,?_⟩,b3.chg az.out (fun q hq hm=>?_),b7.chg az.out (fun q hq hm=>?_)⟩
    ·rw [List.getElem?_set_ne o_,List.getElem?_set_ne o_,List.getElem?_set_ne o_,List.getElem?_set_ne o_,List.getElem?_set_ne o_,List.getElem?_set_ne o_]
     exact a3
    ·rw [List.getElem?_set_ne o_,List.getElem?_set_ne o_,List.getElem?_set_ne o_,List.getElem?_set_ne o_,List.getElem?_set_ne o_,List.getElem?_set_ne o_]
     exact a7
    ·rcases List.mem_append.1 hm with hm|hm
     ·exact ad.out i ah q (List.mem_append.2 (.inl hq)) (by simpa using hm)
     ·exact qkl aH.out ah hlt o_ q (List.mem_append.2 (.inl hq)) hm
    ·rcases List.mem_append.1 hm with hm|hm
     ·exact ad.out i ah q (List.mem_append.2 (.inr hq)) (by simpa using hm)
     ·exact qkl aH.out ah hlt o_ q (List.mem_append.2 (.inr hq)) hm
   case measure=>simp [intOf];omega
  ·obtain rfl:j=N:=o_
   have HE:Hid (p≤k+6*bsz L):=z_ (by
    have h2:=HN.out;rw [h2,List.take_length] at hp
    exact hp)
   go_wp2;go_ret;exact ⟨p,rfl,HE.out,ac⟩
end bndm
end Go.Proofs.YtiilamngcoegiaaGreat
