/- parts -/
import Derived.Test.YtiilamngcoegiaaGreatQRebw
import Derived.Deep.DeepCutAuto
import Derived.Deep.LoopGhost
import Derived.Test.YtiilamngcoegiaaGreatQTml
import Derived.Test.YtiilamngcoegiaaGreatQTermin
namespace Go.Proofs.YtiilamngcoegiaaGreat
open Go.ChangeShapes Go.WideShapes Go.ChangeAt Go.RowKit
variable {G:gram.GrM}{σ:List bndl.BindM}{N n':Nat}
namespace eqm
open mem dec sortp sorti sigm sigs rowl trm terml termb termro gram gramt grami formf formm tmr tsk tmc rebp rebn
section
variable {P:List (List UInt8)} {Q:List (Int×Int)} {O:List OpM}
theorem qpu (P:List (List UInt8))(Q:List (Int×Int))(O:List OpM):Makes (qm2 (grM P Q O)) (fun _=>True) (qca (grM P Q O)) 1:=by
 refine ⟨fun _ _=>trivial,fun {t u zs} _ hA h=>?_,fun {t u zs} _ hA h hs=>?_,fun {u} h=>?_⟩
 ·by_cases aa:qah P Q O=true
  ·have hF:∀ a∈zs,qay P Q O a:=fun a ha=>((qbi a).1 (hA a ha)).2.2
   rw [qvr aa t zs hF] at h;obtain ⟨h1,h2⟩:=qkh aa hF h;exact (qbi u).2 ⟨aa,⟨h2.1,h2.2.1⟩,h1⟩
  ·rw [qyp aa] at h;cases h
 ·have h1:=qt4 h
  have h2:=termro.qao t;omega
 ·have h1:=h.1.2.1
  have h2:=termro.qas u;omega
end
theorem qgl:∀ (m:Nat) {N:Nat} {w W:World} {v:Value} {L:List TermM},Below w.heap.size w W→HasTs N 0 w v L→PlA m w v L→PlA m W v L
 | 0,_,_,_,_,_,_,_,_=>trivial
 | m+1,N,w,W,v,L,ab,hh,hp=>by
  intro j hj g o c hv;obtain ⟨h1,h2⟩:=hp j hj g o c hv;refine ⟨h1.below ab,fun v' aa=>?_⟩;subst hv;obtain ⟨kn,g',o',B2,cx,ad,e,_,hg,_,_,_,f3,ac,_⟩:=qal hh hj;simp only [Option.some.injEq,Addr.mk.injEq,and_true] at e;obtain ⟨rfl,rfl⟩:=e;have h3:=(ab.cell (p:=⟨g,o+j*4+3,none⟩) hg).trans f3;rw [h3] at aa;injection aa with aa
  subst aa;exact qgl m ab ac (h2 _ f3)
end eqm

namespace insn
set_option maxRecDepth 50000
set_option maxHeartbeats 8000000
open mem dec setm sortp sorti sigm sigs rowl trm terml termb termt termw termx termz termro termvr frm gram gramk gramc gramn gramt grami termcy tmm tmr tsk tmf tmg tmc tmi bndl rebp rebn rebw rebc eqm inst
noncomputable def instF (G:GrM)(σ:List BindM)(t:TermM)(zs:List TermM):Option TermM:=by
 classical
 exact if t.op=-1 then some (valM σ t) else if CanP G t.op zs∧LimT (qdd G t.op zs) then some (qdd G t.op zs) else none
theorem qji{t:TermM}(h:t.op=-1)(zs:List TermM):instF G σ t zs=some (valM σ t):=by unfold instF;rw [if_pos h]
theorem qjj{t:TermM}(h:t.op≠-1){zs:List TermM}(hc:CanP G t.op zs∧LimT (qdd G t.op zs)):instF G σ t zs=some (qdd G t.op zs):=by unfold instF;rw [if_neg h,if_pos hc]
theorem qmd{t:TermM}(h:t.op≠-1){zs:List TermM}(hc:¬ (CanP G t.op zs∧LimT (qdd G t.op zs))):instF G σ t zs=none:=by unfold instF;rw [if_neg h,if_neg hc]
theorem c81_{p:Prop}(h:p:=by
 (try dsimp only);first|(with_reducible exact ao.out)|(with_reducible exact ap.out _ _ _ _)
):p:=h
theorem qwq (G:GrM)(hG:GrOk G)(mm:Option Nat)(A:Option Addr)(n c:Nat)(hn:n=G.E.length)(σ:List BindM)(lv:Value)(hσ:σ.length≤1048576)(aP:n'≤22)(gb lb:Nat)(S:List Nat)(e:rebp.Ent)(w0 wl w:World)(ae:Below w0.heap.size w0 wl)(hb:Below wl.heap.size wl w)(hS:∀ k∈S,w0.heap.size≤k)(ad:qhu N wl e)(aq:∀ x∈e.R,qca G x.1)(ab:RowIn 21 0 (tmr.qb4 S w) w e.dv e.R)(hsz:qa2 (e.R.map Prod.fst)≤1048576)(hM:HasM wl (.map mm) (.slice A n c) G)(hl:HasBs n' 0 w0 lv σ)(hg:wl.cell? ⟨gb,0,none⟩=some (.map mm)∧wl.cell? ⟨gb,1,none⟩=some (.slice A n c))(aE:wl.cell? ⟨lb,0,none⟩=some lv):
  Calls Tryz.prog 97 #[.pointer (some ⟨e.g,e.o,none⟩),e.dv,.pointer (some ⟨lb,0,none⟩),.pointer (some ⟨gb,0,none⟩)] w fun ex w'=>∃ u vu r,ex=.returned (.tuple #[aggT u vu,.bool r])∧(r=false→instF G σ e.t (e.R.map Prod.fst)=none)∧(r=true→instF G σ e.t (e.R.map Prod.fst)=some u∧Bnd u)∧FormP 21 0 w.heap.size (tmr.qb4 S w) u w' vu∧Below w.heap.size w w':=by
 obtain ⟨g,o,t,v,R,dv⟩:=e;simp only [] at ad aq ab hsz ⊢;obtain ⟨⟨n0,n1,n2,n3⟩,aF,hB,_,_⟩:=ad;simp only [] at n0 n1 n2 n3 aF hB;obtain ⟨L,hL⟩:=e_ (R.map Prod.fst);rw [← hL] at hsz ⊢;obtain ⟨cb,ag⟩:=x_ (CanP G t.op L∧LimT (qdd G t.op L))
 have am:Hid (∀ W,Below w.heap.size w W→Calls Tryz.prog 100 #[.agg #[.map mm,.slice A n c],.int .i64 t.op,dv] W fun e w'=>∃ t' v',e=.returned (.tuple #[aggT t' v',.bool cb])∧t'=orZ cb (qdd G t.op L)∧FormP 21 0 W.heap.size (tmr.qb4 S w) t' w' v'∧Below W.heap.size W w'):=z_ (fun W hW=>by
  have:=qpq (N:=21) (lo:=0) G hG mm A n c t.op hB.2.1 R dv (tmr.qb4 S w) W ((qdq S w).trans (Sub.below hW)) (by rw [qez];exact hW.size) ((hM.below hb).below (hW)) hn (ab.sub (Sub.below hW)) (fun x hx k hk ha ho=>qzb (aq x hx) ha ho) y_ (by rw [← hL];exact hsz) cb (by rw [← hL];exact ag);rw [← hL] at this
  exact this)
 have au:=l_ n0;simp only [] at au;have kw:∀ W,Below w.heap.size w W→∀ {b q:Nat} {x:Value},wl.cell? ⟨b,q,none⟩=some x→W.cell? ⟨b,q,none⟩=some x:=fun W hW {b q x} h=>((hb.trans (hW.mono hb.size)).cell (p:=⟨b,q,none⟩) (l_ h)).trans h
 have ac:Hid (∀ W,Below w.heap.size w W→W.cell? ⟨g,o,none⟩=some (.int .i64 t.op)∧W.cell? ⟨g,o+1,none⟩=some (.string (bstr t.name))∧W.cell? ⟨g,o+2,none⟩=some (.int .i64 t.sort)∧W.cell? ⟨lb,0,none⟩=some lv∧W.cell? ⟨gb,0,none⟩=some (.map mm)∧W.cell? ⟨gb,1,none⟩=some (.slice A n c)):=z_ (fun W hW=>⟨kw W hW n0,kw W hW n1,kw W hW n2,kw W hW aE,kw W hW hg.1,kw W hW hg.2⟩);have av:Hid (∀ W,Below w.heap.size w W→Calls Tryz.prog 99 #[lv,.pointer (some ⟨g,o,none⟩)] W fun e w'=>∃ vu,e=.returned (aggT (valM σ t) vu)∧HasTs n' 0 w0 vu (valM σ t).args∧Bnd (valM σ t)∧Below W.heap.size W w'):=z_ (fun W hW=>qps σ lv t hB g o w0 W hl ((ae.trans (hb.mono ae.size)).trans (hW.mono (Nat.le_trans ae.size hb.size))) (kw W hW n0) (kw W hW n1) (kw W hW n2) hσ);have aG:=z_ (qnt (ae.trans (hb.mono ae.size)) hS);obtain ⟨W,hW⟩:=e_ (w.alloc (.cells #[.int .i64 0,.string { data:=#[] },.int .i64 0,.slice none 0 0] 38));have ah:=fr1_ hW;have aQ:=fr3_ hW;have aH:=fr2_ hW;have af:=z_ ah
 have aI:Hid (∀ w3,Below W.heap.size W w3→w.heap.size+1≤w3.heap.size∧Below w.heap.size w w3∧(w3.cell? ⟨w.heap.size,0,none⟩=some (.int .i64 0)∧w3.cell? ⟨w.heap.size,1,none⟩=some (.string { data:=#[] })∧w3.cell? ⟨w.heap.size,2,none⟩=some (.int .i64 0)∧w3.cell? ⟨w.heap.size,3,none⟩=some (.slice none 0 0))∧
   (w3.frozen? ⟨w.heap.size,0,none⟩=false∧w3.frozen? ⟨w.heap.size,1,none⟩=false∧w3.frozen? ⟨w.heap.size,2,none⟩=false∧w3.frozen? ⟨w.heap.size,3,none⟩=false)):=z_ (fun w3 h3=>by
  have h5:=(h3.block _ o_).trans aH
  exact ⟨by have:=h3.size;omega,ah.trans (h3.mono ah.size),grami.box4 h5,⟨g_ w3 _ 0 _ _ h5,g_ w3 _ 1 _ _ h5,g_ w3 _ 2 _ _ h5,g_ w3 _ 3 _ _ h5⟩⟩)
 obtain ⟨vr,aw⟩:∃ b,decide (t.op=-1)=b:=⟨_,rfl⟩;have aJ:=z_ (qbw g o t.op W ((ac.out W ah).1) vr aw);have aK:∀ x∈R,Bnd x.1:=fun x hx=>by obtain ⟨_,_,_,_,_,_,h4⟩:=ab;exact (h4 x hx).2
 have aL:∀ x∈R,∀ a∈x.1.args,Bnd a:=fun x hx=>by obtain ⟨_,_,_,_,_,_,h4⟩:=ab;exact qpp (h4 x hx)
 have aM:Hid (cb=true→Bnd (qdd G t.op L)):=z_ (fun h=>by
  have hc:=(ag.1 h).1;obtain ⟨aW,aX,aR,aS⟩:=hG t.op.toNat (by have:=hc.1;omega);rw [hL];unfold qdd
  exact qmc aS aR (by obtain ⟨h1,h2⟩:=hB.2.1;omega) aK aL)
 have ai:Hid (t.op=-1→∀ (vv:Value) (w3:World),HasTs n' 0 w0 vv (valM σ t).args→Bnd (valM σ t)→Below w.heap.size w w3→∀ u0 u1 u2 u3,∃ u vu r,(Ending.returned (.tuple #[.agg #[.int .i64 (valM σ t).op,.string (bstr (valM σ t).name),  .int .i64 (valM σ t).sort,vv],.bool true]))=.returned (.tuple #[aggT u vu,.bool r])∧(r=false→instF G σ t L=none)∧(r=true→instF G σ t L=some u∧Bnd u)∧FormP 21 0 w.heap.size (tmr.qb4 S w) u (set4 w3 w.heap.size u0 u1 u2 u3) vu∧Below w.heap.size w (set4 w3 w.heap.size u0 u1 u2 u3)):=z_ (fun hv vv w3 h1 h2 h3 u0 u1 u2 u3=>
  ⟨valM σ t,vv,true,rfl,fun h=>(by cases h),fun _=>⟨qji hv L,h2⟩,fun wz hz _=>(qbh _ (aG.out.trans hz) h1).up aP,qa9 h3 n_ _ _ _ _⟩)
 have aj:Hid (t.op≠-1→∀ (WA w3:World) (t':TermM) (v':Value),Below w.heap.size w w3→w.heap.size+1≤WA.heap.size→t'=orZ cb (qdd G t.op L)→FormP 21 0 WA.heap.size (tmr.qb4 S w) t' w3 v'→∀ u0 u1 u2 u3,∃ u vu r,(Ending.returned (.tuple #[.agg #[.int .i64 t'.op,.string (bstr t'.name),.int .i64 t'.sort,v'],.bool cb]))=.returned (.tuple #[aggT u vu,.bool r])∧(r=false→instF G σ t L=none)∧(r=true→instF G σ t L=some u∧Bnd u)∧FormP 21 0 w.heap.size (tmr.qb4 S w) u (set4 w3 w.heap.size u0 u1 u2 u3) vu∧Below w.heap.size w (set4 w3 w.heap.size u0 u1 u2 u3)):=z_ (fun hv WA w3 t' v' h3 aY an ak u0 u1 u2 u3=>by
  refine ⟨t',v',cb,rfl,fun h=>qmd hv (fun hq=>by rw [ag.2 hq] at h;cases h),fun h=>?_,FormP.later ak (qd2 o_ _ _ _ _) o_,qa9 h3 n_ _ _ _ _⟩;have e:t'=qdd G t.op L:=by rw [an,h];rfl
  rw [e]
  exact ⟨qjj hv (ag.1 h),aM.out h⟩)
 have ax:=z_ aw;have aT:w.heap.size+1≤W.heap.size:=o_;unfold aggT at am av;obtain ⟨tO,aN⟩:=e_ (t.op);rw [← aN] at ac am ai aj ax;clear aq ab hsz hM hn hG hb hS ae hl hg aE n0 n1 n2 n3 aF hB ag hL kw au aH ah aQ aK aL aN aG aM aw;cases vr with
 | true=>
  have ay:=of_decide_eq_true ax.out;replace ai:=z_ (ai.out ay);clear aj am;go_enter Tryz.func97,Tryz.ntmps97
  go_upto_region 1 with fail
  rw [← hW];clear hW;go_wp2_with fail
  refine aJ.out.mono ?_;rintro e' w1 ⟨rfl,rfl⟩;obtain ⟨_,_,_,l0,_,_⟩:=ac.out _ af.out;go_wp2_with fail
  refine (av.out _ af.out).mono ?_;rintro e' w2 ⟨vu,rfl,az,aO,al⟩;obtain ⟨_,aa,⟨z0,z1,z2,z3⟩,⟨q0,q1,q2,q3⟩⟩:=aI.out _ al;obtain ⟨Au,cu,rfl,_⟩:=HasR.shape az rfl;have HF:=z_ (ai.out _ w2 az aO aa);clear l0 az aO al aa;go_wp2;refine bodyPost_ret (v:=.tuple #[.agg #[.int .i64 (valM σ t).op,.string (bstr (valM σ t).name),.int .i64 (valM σ t).sort,.slice Au (valM σ t).args.length cu],.bool true]) (by simp [results,Tryz.results97,go_sem,z0,z1,z2,z3]) rfl ?_;exact HF.out _ _ _ _
 | false=>
  have ay:=of_decide_eq_false ax.out;replace aj:=z_ (aj.out ay);clear ai av;go_enter Tryz.func97,Tryz.ntmps97
  go_upto_region 1 with fail
  rw [← hW];clear hW;go_wp2_with fail
  refine aJ.out.mono ?_;rintro e' w1 ⟨rfl,rfl⟩;have au:g<w.heap.size:=by
   have h9:=l_ (ac.out _ b_).1;simpa using h9
  have aZ:gb<w.heap.size:=by
   have h9:=l_ (ac.out _ b_).2.2.2.2.1;simpa using h9
  go_wp2_with fail
  refine wp_region_noPanic ?_;refine wp_region_held_drew (S:=(fun w'=>w'.cell? ⟨gb,0,none⟩=some (.map mm)∧w'.cell? ⟨gb,1,none⟩=some (.slice A n c)∧w'.cell? ⟨g,o,none⟩=some (.int .i64 tO))) k_ ?_ (fun aA=>?_)
  ·exact ⟨(ac.out W.drew (af.out.drew)).2.2.2.2.1,(ac.out W.drew (af.out.drew)).2.2.2.2.2,(ac.out W.drew (af.out.drew)).1⟩
  refine t_k 0 ?_;refine t_k 1 ?_;refine t_k 2 ?_;refine t_k 3 ?_;refine t_k 4 ?_;refine t_k 5 ?_;refine r_d [6] ?_;refine c_s (fun K hK=>?_) ?_
  ·(go_simp;refine (am.out W.drew (af.out.drew)).mono ?_;rintro e' w2 ⟨t',v',rfl,an,ak,al⟩;have aU:Hid (Below W.heap.size W w2):=z_ ((b_.drew).trans al);obtain ⟨a6,aa,⟨z0,z1,z2,z3⟩,⟨q0,q1,q2,q3⟩⟩:=aI.out _ aU.out;obtain ⟨A5,c5,rfl,_⟩:=HasR.shape (ak w2 ((qdq S w).trans (Sub.below aa)) (Kept.refl _ _)) rfl;have aB:=z_ (And.intro an (And.intro ak aa));obtain ⟨m0,_,_,_,m4,m5⟩:=ac.out _ aa;have ao:Hid ((fun w'=>w'.cell? ⟨gb,0,none⟩=some (.map mm)∧w'.cell? ⟨gb,1,none⟩=some (.slice A n c)∧w'.cell? ⟨g,o,none⟩=some (.int .i64 tO)) w2):=z_ ⟨m4,m5,m0⟩;have ap:Hid (∀ u0 u1 u2 u3,(fun w'=>w'.cell? ⟨gb,0,none⟩=some (.map mm)∧w'.cell? ⟨gb,1,none⟩=some (.slice A n c)∧w'.cell? ⟨g,o,none⟩=some (.int .i64 tO)) (set4 w2 w.heap.size u0 u1 u2 u3)):=z_ (fun u0 u1 u2 u3=>⟨(qjg o_ _ _ _ _).trans m4,(qjg o_ _ _ _ _).trans m5,(qjg o_ _ _ _ _).trans m0⟩);clear an ak al aa m0 m4 m5;(try dsimp only))
   refine k_o hK ?_ (fun aC=>?_)
   ·exact c81_
   clear hK K aA;refine t_k 7 ?_;refine t_k 8 ?_;refine r_d [9] ?_;refine c_s (fun K hK=>?_) ?_
   ·go_simp
    refine k_o hK ?_ (fun aD=>?_)
    ·exact c81_
    clear hK K aC;refine r_d [10] ?_;refine c_s (fun K hK=>?_) ?_
    ·go_simp
     refine k_o hK ?_ (fun aV=>?_)
     ·exact c81_
     clear hK K aD;refine wpAnyH_done k_ ?_ _;refine NoPanic.normal ?_;have HF:=z_ (aj.out W.drew w2 t' _ aB.out.2.2 aT aB.out.1 aB.out.2.1);clear ao ap;go_wp2;refine bodyPost_ret (v:=.tuple #[.agg #[.int .i64 t'.op,.string (bstr t'.name),.int .i64 t'.sort,.slice A5 t'.args.length c5],.bool cb]) (by simp [results,Tryz.results97,go_sem,z0,z1,z2,z3]) rfl ?_;exact HF.out _ _ _ _
    exact a_l
   exact a_l
  exact a_l
section
variable {P:List (List UInt8)} {Q:List (Int×Int)} {O:List OpM}
theorem qze{t:TermM}(h:allN (qc4 G) t)(hv:t.op=-1):t.args=[]:=by
 have h1:=((qbq _ t).1 h).1;unfold qc4 at h1;rw [if_pos hv] at h1;have h2:=h1;simp only [varB,Bool.and_eq_true,decide_eq_true_eq] at h2;exact List.eq_nil_of_length_eq_zero h2.2
theorem qkr (P:List (List UInt8))(Q:List (Int×Int))(O:List OpM)(σ:List BindM)(hσ:∀ b∈σ,qca (grM P Q O) b.t):Makes (instF (grM P Q O) σ) (allN (qc4 (grM P Q O))) (qca (grM P Q O)) 60:=by
 have aa:∀ {t u:TermM} {zs:List TermM},allN (qc4 (grM P Q O)) t→(∀ a∈zs,qca (grM P Q O) a)→instF (grM P Q O) σ t zs=some u→qca (grM P Q O) u:=by
  intro t u zs hN hA h;by_cases hv:t.op=-1
  ·rw [qji hv] at h
   injection h with h
   subst h;unfold valM;cases hf:σ.find? (fun b=>decide (cmpN b.v t=0)) with
   | some b=>exact hσ b (List.mem_of_find?_eq_some hf)
   | none=>
    have ha:=qze hN hv;have e:TermM.mk t.op t.name t.sort []=t:=by
     have:=TermM.eta t;rw [ha] at this;exact this
    show qca _ (TermM.mk t.op t.name t.sort []);rw [e];refine ⟨⟨?_,?_,?_⟩,hN⟩
    ·rw [termro.qao,ha];simp [qa2]
    ·rw [termro.qas,ha];simp [depths]
    ·rw [← e];exact (qdp (k:=t.op) (ps:=[]) (by simp)).2 (by simp)
  ·by_cases hc:CanP (grM P Q O) t.op zs∧LimT (qdd (grM P Q O) t.op zs)
   ·rw [qjj hv hc] at h
    refine (qpu P Q O).good (t:=.mk t.op [] 0 []) trivial hA (u:=u) (zs:=zs) ?_;have h1:(TermM.mk t.op [] 0 []).op≠-1:=hv;unfold qm2;rw [if_neg h1,if_pos ⟨by simp [qdm,TermM.name,TermM.sort],hc.1,hc.2⟩];exact h
   ·rw [qmd hv hc] at h;cases h
 refine ⟨fun {t a} h ha=>((qbq _ t).1 h).2 a ha,aa,fun {t u zs} hN hA h hs=>?_,fun {u} h=>?_⟩
 ·have h1:=(aa hN hA h).1.1
  have h2:=termro.qao t;omega
 ·have h1:=h.1.2.1
  have h2:=termro.qas u;omega
end
theorem qo5 (P:List (List UInt8))(Q:List (Int×Int))(O:List OpM)(mm:Option Nat)(A:Option Addr)(n c:Nat)(hn:n=(grM P Q O).E.length)(σ:List BindM)(lv:Value)(aO:σ.length≤1048576)(hσ:∀ b∈σ,qca (grM P Q O) b.t)(t:TermM)(vt:Value)(w:World)(hM:HasM w (.map mm) (.slice A n c) (grM P Q O))(aP:n'≤22)(hl:HasBs n' 0 w lv σ)(ht:HasTs N 0 w vt t.args)(hB:Bnd t)(hgt:qca (grM P Q O) t)(aB:∀ m,PlA m w vt t.args):
  Calls Tryz.prog 47 #[.agg #[.map mm,.slice A n c],lv,aggT t vt] w fun e w'=>∃ u vu r S,e=.returned (.tuple #[aggT u vu,.bool r])∧(r=true→rebM (instF (grM P Q O) σ) t=some u∧qca (grM P Q O) u)∧(r=false→rebM (instF (grM P Q O) σ) t=none∧u=zT)∧OT 38 (depth u) w.heap.size w' vu u.args S∧Below w.heap.size w w':=by
 obtain ⟨G,hG⟩:=e_ (grM P Q O);have aC:GrOk G:=by rw [hG];exact qlu P Q O
 have ap:=qkr P Q O σ hσ;rw [← hG] at hn hσ hM hgt ap ⊢;obtain ⟨Al,cl,rfl,_⟩:=HasR.shape hl rfl;obtain ⟨At,ct,rfl,_⟩:=HasR.shape ht rfl;obtain ⟨W0,ai⟩:=e_ ((w.alloc (.cells #[.map mm,.slice A n c] 92)).alloc (.cells #[.slice Al σ.length cl] 48));obtain ⟨W1,ac⟩:=e_ (W0.alloc (.cells #[.int .i64 t.op,.string (bstr t.name),.int .i64 t.sort,.slice At t.args.length ct] 38));obtain ⟨W,hW⟩:=e_ (W1.alloc (.cells #[.int .i64 0,.string { data:=#[] },.int .i64 0,.slice none 0 0] 38));have aD:W0.heap.size=w.heap.size+2:=by rw [ai];simp
 have aE:W1.heap.size=w.heap.size+3:=by rw [ac];simp [aD]
 have aF:W.heap.size=w.heap.size+4:=by rw [hW];simp [aE]
 have ad:=fr1_ ac;have ae:=fr1_ hW;have af:=ad.trans (ae.mono ad.size);have aj:Below w.heap.size w W:=by
  rw [hW,ac,ai];exact v_
 have aq:W.heap[w.heap.size]? =some (.cells #[.map mm,.slice A n c] 92 (0,0)):=(af.block _ o_).trans (by rw [ai];exact tsl.qbd _ _ _);have aG:W.heap[w.heap.size+1]? =some (.cells #[.slice Al σ.length cl] 48 (0,0)):=(af.block _ o_).trans (by rw [ai];exact termt.qa5 _ _ _ (by simp));have au:W.heap[w.heap.size+2]? =some (.cells #[.int .i64 t.op,.string (bstr t.name),.int .i64 t.sort,.slice At t.args.length ct] 38 (0,0)):=(ae.block _ o_).trans (by rw [ac];exact termt.qa5 _ _ _ o_);have aH:W.heap[w.heap.size+3]? =some (.cells #[.int .i64 0,.string { data:=#[] },.int .i64 0,.slice none 0 0] 38 (0,0)):=by rw [hW];exact termt.qa5 _ _ _ o_
 obtain ⟨x0,x1,x2,x3⟩:=grami.box4 au;have ab:qhu N W ⟨w.heap.size+2,0,t,.slice At t.args.length ct,[],.slice none 0 0⟩:=⟨⟨x0,x1,x2,x3⟩,ht.below n_ aj,hB,⟨_,_,au⟩,fun m=>qgl m aj ht (aB m)⟩;have aa:qA8 97 #[] #[.pointer (some ⟨w.heap.size+1,0,none⟩),.pointer (some ⟨w.heap.size,0,none⟩)] N [w.heap.size+3] (instF G σ) (allN (qc4 G)) (qca G) W:=by
  intro S e w3 ag hS am _ aQ av hsz
  exact qwq G aC mm A n c hn σ _ aO aP w.heap.size (w.heap.size+1) S e w W w3 aj ag (fun k hk=>by
   rcases (hS k hk).1 with h1|h1
   ·simp at h1;omega
   ·omega) am aQ av hsz (hM.below aj) hl ⟨h_ W _ 0 _ _ _ aq,h_ W _ 1 _ _ _ aq⟩ (h_ W _ 0 _ _ _ aG)
 have eg:∀ args w,(callFunc 97 args).run Tryz.prog w=.ok (.enter 97 args) w:=Go.Proofs.enters_of Tryz.func97 k_ rfl;have aI:=z_ (qpt (N:=N) (Z:=60) (M:=60) 97 #[] #[.pointer (some ⟨w.heap.size+1,0,none⟩),.pointer (some ⟨w.heap.size,0,none⟩)] eg ap o_ o_ t hgt.1.1 hgt.2 (w.heap.size+2) 0 _ W [w.heap.size+3] (by intro q hq;simp at hq;omega) aa ab);have aJ:=z_ aj;have aR:=z_ aH;have aw:=z_ aF;unfold aggT;clear hM hl ht hB hgt aB x0 x1 x2 x3 ab aa eg aj aH au aG aq af ad ae aD aE aF ap hσ aC hG hn;go_enter Tryz.func47,Tryz.ntmps47
 go_upto_region 1 with fail
 rw [ai] at ac;rw [ac] at hW;rw [← hW];clear hW ac ai;go_wp2_with fail
 refine aI.out.mono ?_;rintro e w2 ⟨u,vu,r,rfl,ax,ay,aK,ak⟩;have ah:=qbh _ (qdq _ _) aK;obtain ⟨Au,cu,rfl,_⟩:=HasR.shape ah rfl;obtain ⟨W3,an⟩:=e_ (w2.alloc (.cells #[.int .i64 u.op,.string (bstr u.name),.int .i64 u.sort,.slice Au u.args.length cu] 38));have ag:=fr1_ an;have aL:=fr2_ an;obtain ⟨b0,b1,b2,b3⟩:=grami.box4 aL;have aM:size u≤1073741823:=by
  cases r with
  | true=>have:=(ay rfl).2.1.1.1;omega
  | false=>
   have h9:size zT=1:=by unfold zT;rw [qbe];rfl
   rw [(ax rfl).2];omega
 have az:=z_ (qwk u (.slice Au u.args.length cu) W3 (ah.below n_ ag) aM);have HR:=z_ (And.intro ax ay);have aN:=z_ (aJ.out.trans ((ak.trans (ag.mono ak.size)).mono aJ.out.size));have aS:=z_ ((ag.block _ (by have:=ak.size;have:=aw.out;omega)).trans ((ak.block _ (by have:=aw.out;omega)).trans aR.out));have aT:w.heap.size+4≤W3.heap.size:=by have:=ak.size;have:=ag.size;have:=aw.out;omega
 unfold aggT at az ⊢;clear ax ay aK ah ak ag aL aM aI;go_upto_region 2 with fail
 rw [← an];clear an;go_wp2_with fail
 refine az.out.mono ?_;rintro e w5 ⟨v5,S5,rfl,ao,aA⟩;obtain ⟨A5,c5,rfl⟩:∃ A c,v5=.slice A u.args.length c:=by
  rw [termro.qas] at ao;exact OT.shape ao
 have al:=(aA.block _ o_).trans aS.out;obtain ⟨z0,z1,z2,z3⟩:=grami.box4 al;have q0:=g_ w5 _ 0 _ _ al;have q1:=g_ w5 _ 1 _ _ al;have q2:=g_ w5 _ 2 _ _ al;have q3:=g_ w5 _ 3 _ _ al
 have HF:Hid (∀ u0 u1 u2 u3,∃ x vx r' S,(Ending.returned (.tuple #[.agg #[.int .i64 u.op,.string (bstr u.name),.int .i64 u.sort,.slice A5 u.args.length c5],.bool r]))=.returned (.tuple #[.agg #[.int .i64 x.op,.string (bstr x.name),.int .i64 x.sort,vx],.bool r'])∧(r'=true→rebM (instF G σ) t=some x∧qca G x)∧(r'=false→rebM (instF G σ) t=none∧x=zT)∧OT 38 (depth x) w.heap.size (set4 w5 (w.heap.size+3) u0 u1 u2 u3) vx x.args S∧Below w.heap.size w (set4 w5 (w.heap.size+3) u0 u1 u2 u3)):=z_ (fun u0 u1 u2 u3=>
  ⟨u,_,r,S5,rfl,fun h=>⟨(HR.out.2 h).1,(HR.out.2 h).2.1⟩,fun h=>HR.out.1 h,(qA9 ao (x:=w.heap.size+3) o_ u0 u1 u2 u3).mono o_,qa9 (aN.out.trans (aA.mono aN.out.size)) o_ _ _ _ _⟩)
 clear ao aA al b0 b1 b2 b3 az;go_wp2;refine bodyPost_ret (v:=.tuple #[.agg #[.int .i64 u.op,.string (bstr u.name),.int .i64 u.sort,.slice A5 u.args.length c5],.bool r]) (by simp [results,Tryz.results47,go_sem,z0,z1,z2,z3]) rfl ?_;exact HF.out _ _ _ _
end insn

namespace tmn
open dec
end tmn

namespace scan
open dec sorti rowl trm terml tmr tmf tmc tmn
theorem qCm{F:TermM→List TermM→Option TermM}{L:List TermM}{p:Nat}(hp:p<L.length){zs:List TermM}(h:rebL F (L.take p)=some zs):rebL F (L.take (p+1))=(rebM F (L.getD p default)).map fun u=>zs++[u]:=by
 rw [List.take_add_one,List.getElem?_eq_getElem hp];have e:L.getD p default=L[p]:=by simp [List.getD,hp]
 rw [e];simp only [Option.toList_some];revert h
 generalize L.take p=K
 intro h;induction K generalizing zs with
 | nil=>
  simp [rebL] at h;subst h;simp [rebL];cases rebM F L[p]<;>rfl
 | cons a K ih=>
  simp only [rebL,List.cons_append] at h ⊢;cases ha:rebM F a with
  | none=>rw [ha] at h;simp at h
  | some v=>
   rw [ha] at h;cases hk:rebL F K with
   | none=>rw [hk] at h;simp at h
   | some ks=>
    rw [hk] at h;simp at h;subst h;rw [ih hk];cases rebM F L[p]<;>simp
theorem qs4 {F:TermM→List TermM→Option TermM}:∀ {L:List TermM} {p:Nat},rebL F (L.take p)=none→rebL F L=none
 | [],p,h=>by simpa using h
 | a::L,0,h=>by simp [rebL] at h
 | a::L,p+1,h=>by
  simp only [List.take_succ_cons,rebL] at h ⊢;cases ha:rebM F a with
  | none=>simp
  | some v=>
   rw [ha] at h;cases hk:rebL F (L.take p) with
   | none=>rw [qs4 hk];simp
   | some ks=>rw [hk] at h;simp at h
theorem qBm{w:World}{x:Nat}{a b c d:Value}{T:TypeId}(h:w.heap[x]? =some (.cells #[a,b,c,d] T (0,0)))(u0 u1 u2 u3:Value):(set4 w x u0 u1 u2 u3).heap[x]? =some (.cells #[u0,u1,u2,u3] T (0,0)):=by
 have h0:=heap_setCell_same w x 0 _ T u0 h;have h1:=heap_setCell_same _ x 1 _ T u1 h0;have h2:=heap_setCell_same _ x 2 _ T u2 h1;have h3:=heap_setCell_same _ x 3 _ T u3 h2;simpa using h3
end scan
end Go.Proofs.YtiilamngcoegiaaGreat
