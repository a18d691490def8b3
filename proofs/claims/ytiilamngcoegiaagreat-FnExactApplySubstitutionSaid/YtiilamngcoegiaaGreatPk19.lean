/- parts -/
import Derived.Test.YtiilamngcoegiaaGreatRebw
import Derived.Deep.DeepCutAuto
import Derived.Deep.LoopGhost
import Derived.Test.YtiilamngcoegiaaGreatTml
import Derived.Test.YtiilamngcoegiaaGreatPk20
namespace Go.Proofs.YtiilamngcoegiaaGreat
open Go.ChangeShapes Go.WideShapes Go.ChangeAt Go.RowKit
namespace eqm
open mem sortp sorti sigm sigs rowl trm terml termb termro gram gramt grami formf formm tmr tsk tmc rebp rebn
section
variable {P:List (List UInt8)} {Q:List (Int×Int)} {O:List OpM}
theorem qpm (P:List (List UInt8))(Q:List (Int×Int))(O:List OpM):Makes (qlp (grM P Q O)) (fun _=>True) (qbx (grM P Q O)) 1:=by
 refine ⟨fun _ _=>trivial,fun {t u zs} _ hA h=>?_,fun {t u zs} _ hA h hs=>?_,fun {u} h=>?_⟩
 ·by_cases aa:qad P Q O=true
  ·have hF:∀ a∈zs,qau P Q O a:=fun a ha=>((qbl a).1 (hA a ha)).2.2
   rw [qvk aa t zs hF] at h;obtain ⟨h1,h2⟩:=qk3 aa hF h;exact (qbl u).2 ⟨aa,⟨h2.1,h2.2.1⟩,h1⟩
  ·rw [qyh aa] at h;cases h
 ·have h1:=qsx h
  have h2:=termro.qao t;omega
 ·have h1:=h.1.2.1
  have h2:=termro.qan u;omega
end
theorem qj1:∀ (m:Nat) {N:Nat} {w W:World} {v:Value} {L:List TermM},Below w.heap.size w W→HasTs N 0 w v L→PlA m w v L→PlA m W v L
 | 0,_,_,_,_,_,_,_,_=>trivial
 | m+1,N,w,W,v,L,ab,hh,hp=>by
  intro j hj g o c hv;obtain ⟨h1,h2⟩:=hp j hj g o c hv;refine ⟨h1.below ab,fun v' aa=>?_⟩;subst hv;obtain ⟨kn,g',o',B2,cx,ad,e,_,hg,_,_,_,f3,ac,_⟩:=qaj hh hj;simp only [Option.some.injEq,Addr.mk.injEq,and_true] at e;obtain ⟨rfl,rfl⟩:=e;have h3:=(ab.cell (p:=⟨g,o+j*4+3,none⟩) hg).trans f3;rw [h3] at aa;injection aa with aa
  subst aa;exact qj1 m ab ac (h2 _ f3)
end eqm

namespace insn
set_option maxRecDepth 50000
set_option maxHeartbeats 8000000
open mem setm sortp sorti sigm sigs rowl trm terml termb termt termw termx termz termro termvr frm gram gramk gramc gramn gramt grami termcy tmm tmr tsk tmf tmg tmc tmi bndl rebp rebn rebw rebc eqm inst
noncomputable def qcb (G:GrM)(σ:List BindM)(t:TermM)(zs:List TermM):Option TermM:=by
 classical
 exact if t.op=-1 then some (valM σ t) else if CanP G t.op zs∧LimT (qd1 G t.op zs) then some (qd1 G t.op zs) else none
theorem qj2 {G:GrM}{σ:List BindM}{t:TermM}(h:t.op=-1)(zs:List TermM):qcb G σ t zs=some (valM σ t):=by unfold qcb;rw [if_pos h]
theorem qj3 {G:GrM}{σ:List BindM}{t:TermM}(h:t.op≠-1){zs:List TermM}(hc:CanP G t.op zs∧LimT (qd1 G t.op zs)):qcb G σ t zs=some (qd1 G t.op zs):=by unfold qcb;rw [if_neg h,if_pos hc]
theorem qm1 {G:GrM}{σ:List BindM}{t:TermM}(h:t.op≠-1){zs:List TermM}(hc:¬ (CanP G t.op zs∧LimT (qd1 G t.op zs))):qcb G σ t zs=none:=by unfold qcb;rw [if_neg h,if_neg hc]
theorem c74_ {p:Prop}(h:p:=by
 (try dsimp only);first|(with_reducible exact an.out)|(with_reducible exact ao.out _ _ _ _)
):p:=h
theorem qwh {N n':Nat}(G:GrM)(hG:GrOk G)(mm:Option Nat)(A:Option Addr)(n c:Nat)(hn:n=G.E.length)(σ:List BindM)(lv:Value)(hσ:σ.length≤1048576)(aO:n'≤22)(gb lb:Nat)(S:List Nat)(e:rebp.Ent)(w0 wl w:World)(ae:Below w0.heap.size w0 wl)(hb:Below wl.heap.size wl w)(hS:∀ k∈S,w0.heap.size≤k)(ad:qhf N wl e)(ap:∀ x∈e.R,qbx G x.1)(ab:RowIn 21 0 (tmr.qb0 S w) w e.dv e.R)(hsz:sizes (e.R.map Prod.fst)≤1048576)(hM:HasM wl (.map mm) (.slice A n c) G)(hl:HasBs n' 0 w0 lv σ)
  (hg:wl.cell? ⟨gb,0,none⟩=some (.map mm)∧wl.cell? ⟨gb,1,none⟩=some (.slice A n c)) (aD:wl.cell? ⟨lb,0,none⟩=some lv):
  Calls Tryz.prog 97 #[.pointer (some ⟨e.g,e.o,none⟩),e.dv,.pointer (some ⟨lb,0,none⟩),.pointer (some ⟨gb,0,none⟩)] w fun ex w'=>∃ u vu r,ex=.returned (.tuple #[aggT u vu,.bool r])∧(r=false→qcb G σ e.t (e.R.map Prod.fst)=none)∧(r=true→qcb G σ e.t (e.R.map Prod.fst)=some u∧Bnd u)∧FormP 21 0 w.heap.size (tmr.qb0 S w) u w' vu∧Below w.heap.size w w':=by
 obtain ⟨g,o,t,v,R,dv⟩:=e;simp only [] at ad ap ab hsz ⊢;obtain ⟨⟨n0,n1,n2,n3⟩,aE,hB,_,_⟩:=ad;simp only [] at n0 n1 n2 n3 aE hB;obtain ⟨L,hL⟩:=e_ (R.map Prod.fst);rw [← hL] at hsz ⊢;obtain ⟨cb,ag⟩:=x_ (CanP G t.op L∧LimT (qd1 G t.op L))
 have al:Hid (∀ W,Below w.heap.size w W→Calls Tryz.prog 100 #[.agg #[.map mm,.slice A n c],.int .i64 t.op,dv] W fun e w'=>∃ t' v',e=.returned (.tuple #[aggT t' v',.bool cb])∧t'=orZ cb (qd1 G t.op L)∧FormP 21 0 W.heap.size (tmr.qb0 S w) t' w' v'∧Below W.heap.size W w'):=z_ (fun W hW=>by
  have:=qpi (N:=21) (lo:=0) G hG mm A n c t.op hB.2.1 R dv (tmr.qb0 S w) W ((qdb S w).trans (Sub.below hW)) (by rw [qeq];exact hW.size) ((hM.below hb).below (hW)) hn (ab.sub (Sub.below hW)) (fun x hx k hk ha ho=>qyz (ap x hx) ha ho) y_ (by rw [← hL];exact hsz) cb (by rw [← hL];exact ag);rw [← hL] at this
  exact this)
 have aq:=l_ n0;simp only [] at aq;have kw:∀ W,Below w.heap.size w W→∀ {b q:Nat} {x:Value},wl.cell? ⟨b,q,none⟩=some x→W.cell? ⟨b,q,none⟩=some x:=fun W hW {b q x} h=>((hb.trans (hW.mono hb.size)).cell (p:=⟨b,q,none⟩) (l_ h)).trans h
 have ac:Hid (∀ W,Below w.heap.size w W→W.cell? ⟨g,o,none⟩=some (.int .i64 t.op)∧W.cell? ⟨g,o+1,none⟩=some (.string (bstr t.name))∧W.cell? ⟨g,o+2,none⟩=some (.int .i64 t.sort)∧W.cell? ⟨lb,0,none⟩=some lv∧W.cell? ⟨gb,0,none⟩=some (.map mm)∧W.cell? ⟨gb,1,none⟩=some (.slice A n c)):=z_ (fun W hW=>⟨kw W hW n0,kw W hW n1,kw W hW n2,kw W hW aD,kw W hW hg.1,kw W hW hg.2⟩);have au:Hid (∀ W,Below w.heap.size w W→Calls Tryz.prog 99 #[lv,.pointer (some ⟨g,o,none⟩)] W fun e w'=>∃ vu,e=.returned (aggT (valM σ t) vu)∧HasTs n' 0 w0 vu (valM σ t).args∧Bnd (valM σ t)∧Below W.heap.size W w'):=z_ (fun W hW=>qpk σ lv t hB g o w0 W hl ((ae.trans (hb.mono ae.size)).trans (hW.mono (Nat.le_trans ae.size hb.size))) (kw W hW n0) (kw W hW n1) (kw W hW n2) hσ);have aF:=z_ (qnj (ae.trans (hb.mono ae.size)) hS);obtain ⟨W,hW⟩:=e_ (w.alloc (.cells #[.int .i64 0,.string { data:=#[] },.int .i64 0,.slice none 0 0] 38));have ah:=fr1_ hW;have aP:=fr3_ hW;have aG:=fr2_ hW;have af:=z_ ah
 have aH:Hid (∀ w3,Below W.heap.size W w3→w.heap.size+1≤w3.heap.size∧Below w.heap.size w w3∧(w3.cell? ⟨w.heap.size,0,none⟩=some (.int .i64 0)∧w3.cell? ⟨w.heap.size,1,none⟩=some (.string { data:=#[] })∧w3.cell? ⟨w.heap.size,2,none⟩=some (.int .i64 0)∧w3.cell? ⟨w.heap.size,3,none⟩=some (.slice none 0 0))∧
   (w3.frozen? ⟨w.heap.size,0,none⟩=false∧w3.frozen? ⟨w.heap.size,1,none⟩=false∧w3.frozen? ⟨w.heap.size,2,none⟩=false∧w3.frozen? ⟨w.heap.size,3,none⟩=false)):=z_ (fun w3 h3=>by
  have h5:=(h3.block _ o_).trans aG
  exact ⟨by have:=h3.size;omega,ah.trans (h3.mono ah.size),grami.box4 h5,⟨g_ w3 _ 0 _ _ h5,g_ w3 _ 1 _ _ h5,g_ w3 _ 2 _ _ h5,g_ w3 _ 3 _ _ h5⟩⟩)
 obtain ⟨vr,av⟩:∃ b,decide (t.op=-1)=b:=⟨_,rfl⟩;have aI:=z_ (qca g o t.op W ((ac.out W ah).1) vr av);have aJ:∀ x∈R,Bnd x.1:=fun x hx=>by obtain ⟨_,_,_,_,_,_,h4⟩:=ab;exact (h4 x hx).2
 have aK:∀ x∈R,∀ a∈x.1.args,Bnd a:=fun x hx=>by obtain ⟨_,_,_,_,_,_,h4⟩:=ab;exact qph (h4 x hx)
 have aL:Hid (cb=true→Bnd (qd1 G t.op L)):=z_ (fun h=>by
  have hc:=(ag.1 h).1;obtain ⟨aV,aW,aQ,aR⟩:=hG t.op.toNat (by have:=hc.1;omega);rw [hL];unfold qd1
  exact qm0 aR aQ (by obtain ⟨h1,h2⟩:=hB.2.1;omega) aJ aK)
 have ai:Hid (t.op=-1→∀ (vv:Value) (w3:World),HasTs n' 0 w0 vv (valM σ t).args→Bnd (valM σ t)→Below w.heap.size w w3→∀ u0 u1 u2 u3,∃ u vu r,(Ending.returned (.tuple #[.agg #[.int .i64 (valM σ t).op,.string (bstr (valM σ t).name),  .int .i64 (valM σ t).sort,vv],.bool true]))=.returned (.tuple #[aggT u vu,.bool r])∧(r=false→qcb G σ t L=none)∧(r=true→qcb G σ t L=some u∧Bnd u)∧FormP 21 0 w.heap.size (tmr.qb0 S w) u (set4 w3 w.heap.size u0 u1 u2 u3) vu∧Below w.heap.size w (set4 w3 w.heap.size u0 u1 u2 u3)):=z_ (fun hv vv w3 h1 h2 h3 u0 u1 u2 u3=>
  ⟨valM σ t,vv,true,rfl,fun h=>(by cases h),fun _=>⟨qj2 hv L,h2⟩,fun wz hz _=>(qbf _ (aF.out.trans hz) h1).up aO,qa6 h3 n_ _ _ _ _⟩)
 have aj:Hid (t.op≠-1→∀ (WA w3:World) (t':TermM) (v':Value),Below w.heap.size w w3→w.heap.size+1≤WA.heap.size→t'=orZ cb (qd1 G t.op L)→FormP 21 0 WA.heap.size (tmr.qb0 S w) t' w3 v'→∀ u0 u1 u2 u3,∃ u vu r,(Ending.returned (.tuple #[.agg #[.int .i64 t'.op,.string (bstr t'.name),.int .i64 t'.sort,v'],.bool cb]))=.returned (.tuple #[aggT u vu,.bool r])∧(r=false→qcb G σ t L=none)∧(r=true→qcb G σ t L=some u∧Bnd u)∧FormP 21 0 w.heap.size (tmr.qb0 S w) u (set4 w3 w.heap.size u0 u1 u2 u3) vu∧Below w.heap.size w (set4 w3 w.heap.size u0 u1 u2 u3)):=z_ (fun hv WA w3 t' v' h3 aX am ak u0 u1 u2 u3=>by
  refine ⟨t',v',cb,rfl,fun h=>qm1 hv (fun hq=>by rw [ag.2 hq] at h;cases h),fun h=>?_,FormP.later ak (qay o_ _ _ _ _) o_,qa6 h3 n_ _ _ _ _⟩;have e:t'=qd1 G t.op L:=by rw [am,h];rfl
  rw [e]
  exact ⟨qj3 hv (ag.1 h),aL.out h⟩)
 have aw:=z_ av;have aS:w.heap.size+1≤W.heap.size:=o_;unfold aggT at al au;obtain ⟨tO,aM⟩:=e_ (t.op);rw [← aM] at ac al ai aj aw;clear ap ab hsz hM hn hG hb hS ae hl hg aD n0 n1 n2 n3 aE hB ag hL kw aq aG ah aP aJ aK aM aF aL av;cases vr with
 | true=>
  have ax:=of_decide_eq_true aw.out;replace ai:=z_ (ai.out ax);clear aj al;go_enter Tryz.func97,Tryz.ntmps97
  go_upto_region 1 with fail
  rw [← hW];clear hW;go_wp2_with fail
  refine aI.out.mono ?_;rintro e' w1 ⟨rfl,rfl⟩;obtain ⟨_,_,_,l0,_,_⟩:=ac.out _ af.out;go_wp2_with fail
  refine (au.out _ af.out).mono ?_;rintro e' w2 ⟨vu,rfl,ay,aN,hb2⟩;obtain ⟨_,aa,⟨z0,z1,z2,z3⟩,⟨q0,q1,q2,q3⟩⟩:=aH.out _ hb2;obtain ⟨Au,cu,rfl,_⟩:=HasR.shape ay rfl;have HF:=z_ (ai.out _ w2 ay aN aa);clear l0 ay aN hb2 aa;go_wp2;refine bodyPost_ret (v:=.tuple #[.agg #[.int .i64 (valM σ t).op,.string (bstr (valM σ t).name),.int .i64 (valM σ t).sort,.slice Au (valM σ t).args.length cu],.bool true]) (by simp [results,Tryz.results97,go_sem,z0,z1,z2,z3]) rfl ?_;exact HF.out _ _ _ _
 | false=>
  have ax:=of_decide_eq_false aw.out;replace aj:=z_ (aj.out ax);clear ai au;go_enter Tryz.func97,Tryz.ntmps97
  go_upto_region 1 with fail
  rw [← hW];clear hW;go_wp2_with fail
  refine aI.out.mono ?_;rintro e' w1 ⟨rfl,rfl⟩;have aq:g<w.heap.size:=by
   have h9:=l_ (ac.out _ b_).1;simpa using h9
  have aY:gb<w.heap.size:=by
   have h9:=l_ (ac.out _ b_).2.2.2.2.1;simpa using h9
  go_wp2_with fail
  refine wp_region_noPanic ?_;refine wp_region_held_drew (S:=(fun w'=>w'.cell? ⟨gb,0,none⟩=some (.map mm)∧w'.cell? ⟨gb,1,none⟩=some (.slice A n c)∧w'.cell? ⟨g,o,none⟩=some (.int .i64 tO))) k_ ?_ (fun az=>?_)
  ·exact ⟨(ac.out W.drew (af.out.drew)).2.2.2.2.1,(ac.out W.drew (af.out.drew)).2.2.2.2.2,(ac.out W.drew (af.out.drew)).1⟩
  refine t_k 0 ?_;refine t_k 1 ?_;refine t_k 2 ?_;refine t_k 3 ?_;refine t_k 4 ?_;refine t_k 5 ?_;refine r_d [6] ?_;refine c_s (fun K hK=>?_) ?_
  ·(go_simp;refine (al.out W.drew (af.out.drew)).mono ?_;rintro e' w2 ⟨t',v',rfl,am,ak,hb2⟩;have aT:Hid (Below W.heap.size W w2):=z_ ((b_.drew).trans hb2);obtain ⟨aZ,aa,⟨z0,z1,z2,z3⟩,⟨q0,q1,q2,q3⟩⟩:=aH.out _ aT.out;obtain ⟨A5,c5,rfl,_⟩:=HasR.shape (ak w2 ((qdb S w).trans (Sub.below aa)) (Kept.refl _ _)) rfl;have aA:=z_ (And.intro am (And.intro ak aa));obtain ⟨m0,_,_,_,m4,m5⟩:=ac.out _ aa;have an:Hid ((fun w'=>w'.cell? ⟨gb,0,none⟩=some (.map mm)∧w'.cell? ⟨gb,1,none⟩=some (.slice A n c)∧w'.cell? ⟨g,o,none⟩=some (.int .i64 tO)) w2):=z_ ⟨m4,m5,m0⟩;have ao:Hid (∀ u0 u1 u2 u3,(fun w'=>w'.cell? ⟨gb,0,none⟩=some (.map mm)∧w'.cell? ⟨gb,1,none⟩=some (.slice A n c)∧w'.cell? ⟨g,o,none⟩=some (.int .i64 tO)) (set4 w2 w.heap.size u0 u1 u2 u3)):=z_ (fun u0 u1 u2 u3=>⟨(qiz o_ _ _ _ _).trans m4,(qiz o_ _ _ _ _).trans m5,(qiz o_ _ _ _ _).trans m0⟩);clear am ak hb2 aa m0 m4 m5;(try dsimp only))
   refine k_o hK ?_ (fun aB=>?_)
   ·exact c74_
   clear hK K az;refine t_k 7 ?_;refine t_k 8 ?_;refine r_d [9] ?_;refine c_s (fun K hK=>?_) ?_
   ·go_simp
    refine k_o hK ?_ (fun aC=>?_)
    ·exact c74_
    clear hK K aB;refine r_d [10] ?_;refine c_s (fun K hK=>?_) ?_
    ·go_simp
     refine k_o hK ?_ (fun aU=>?_)
     ·exact c74_
     clear hK K aC;refine wpAnyH_done k_ ?_ _;refine NoPanic.normal ?_;have HF:=z_ (aj.out W.drew w2 t' _ aA.out.2.2 aS aA.out.1 aA.out.2.1);clear an ao;go_wp2;refine bodyPost_ret (v:=.tuple #[.agg #[.int .i64 t'.op,.string (bstr t'.name),.int .i64 t'.sort,.slice A5 t'.args.length c5],.bool cb]) (by simp [results,Tryz.results97,go_sem,z0,z1,z2,z3]) rfl ?_;exact HF.out _ _ _ _
    exact a_l
   exact a_l
  exact a_l
section
variable {P:List (List UInt8)} {Q:List (Int×Int)} {O:List OpM}
theorem qz2 {G:GrM}{t:TermM}(h:allN (qc0 G) t)(hv:t.op=-1):t.args=[]:=by
 have h1:=((qbn _ t).1 h).1;unfold qc0 at h1;rw [if_pos hv] at h1;have h2:=h1;simp only [varB,Bool.and_eq_true,decide_eq_true_eq] at h2;exact List.eq_nil_of_length_eq_zero h2.2
theorem qgv (P:List (List UInt8))(Q:List (Int×Int))(O:List OpM)(σ:List BindM)(hσ:∀ b∈σ,qbx (grM P Q O) b.t):Makes (qcb (grM P Q O) σ) (allN (qc0 (grM P Q O))) (qbx (grM P Q O)) 60:=by
 have aa:∀ {t u:TermM} {zs:List TermM},allN (qc0 (grM P Q O)) t→(∀ a∈zs,qbx (grM P Q O) a)→qcb (grM P Q O) σ t zs=some u→qbx (grM P Q O) u:=by
  intro t u zs hN hA h;by_cases hv:t.op=-1
  ·rw [qj2 hv] at h
   injection h with h
   subst h;unfold valM;cases hf:σ.find? (fun b=>decide (cmpN b.v t=0)) with
   | some b=>exact hσ b (List.mem_of_find?_eq_some hf)
   | none=>
    have ha:=qz2 hN hv;have e:TermM.mk t.op t.name t.sort []=t:=by
     have:=TermM.eta t;rw [ha] at this;exact this
    show qbx _ (TermM.mk t.op t.name t.sort []);rw [e];refine ⟨⟨?_,?_,?_⟩,hN⟩
    ·rw [termro.qao,ha];simp [sizes]
    ·rw [termro.qan,ha];simp [depths]
    ·rw [← e];exact (qda (k:=t.op) (ps:=[]) (by simp)).2 (by simp)
  ·by_cases hc:CanP (grM P Q O) t.op zs∧LimT (qd1 (grM P Q O) t.op zs)
   ·rw [qj3 hv hc] at h
    refine (qpm P Q O).good (t:=.mk t.op [] 0 []) trivial hA (u:=u) (zs:=zs) ?_;have h1:(TermM.mk t.op [] 0 []).op≠-1:=hv;unfold qlp;rw [if_neg h1,if_pos ⟨by simp [qd7,TermM.name,TermM.sort],hc.1,hc.2⟩];exact h
   ·rw [qm1 hv hc] at h;cases h
 refine ⟨fun {t a} h ha=>((qbn _ t).1 h).2 a ha,aa,fun {t u zs} hN hA h hs=>?_,fun {u} h=>?_⟩
 ·have h1:=(aa hN hA h).1.1
  have h2:=termro.qao t;omega
 ·have h1:=h.1.2.1
  have h2:=termro.qan u;omega
end
theorem qnw {N n':Nat}(P:List (List UInt8))(Q:List (Int×Int))(O:List OpM)(mm:Option Nat)(A:Option Addr)(n c:Nat)(hn:n=(grM P Q O).E.length)(σ:List BindM)(lv:Value)(aN:σ.length≤1048576)(hσ:∀ b∈σ,qbx (grM P Q O) b.t)(t:TermM)(vt:Value)(w:World)(hM:HasM w (.map mm) (.slice A n c) (grM P Q O))(aO:n'≤22)(hl:HasBs n' 0 w lv σ)(ht:HasTs N 0 w vt t.args)(hB:Bnd t)(hgt:qbx (grM P Q O) t)(aA:∀ m,PlA m w vt t.args):
  Calls Tryz.prog 47 #[.agg #[.map mm,.slice A n c],lv,aggT t vt] w fun e w'=>∃ u vu r S,e=.returned (.tuple #[aggT u vu,.bool r])∧(r=true→rebM (qcb (grM P Q O) σ) t=some u∧qbx (grM P Q O) u)∧(r=false→rebM (qcb (grM P Q O) σ) t=none∧u=zT)∧OT 38 (depth u) w.heap.size w' vu u.args S∧Below w.heap.size w w':=by
 obtain ⟨G,hG⟩:=e_ (grM P Q O);have aB:GrOk G:=by rw [hG];exact qp2 P Q O
 have ao:=qgv P Q O σ hσ;rw [← hG] at hn hσ hM hgt ao ⊢;obtain ⟨Al,cl,rfl,_⟩:=HasR.shape hl rfl;obtain ⟨At,ct,rfl,_⟩:=HasR.shape ht rfl;obtain ⟨W0,ai⟩:=e_ ((w.alloc (.cells #[.map mm,.slice A n c] 92)).alloc (.cells #[.slice Al σ.length cl] 48));obtain ⟨W1,ac⟩:=e_ (W0.alloc (.cells #[.int .i64 t.op,.string (bstr t.name),.int .i64 t.sort,.slice At t.args.length ct] 38));obtain ⟨W,hW⟩:=e_ (W1.alloc (.cells #[.int .i64 0,.string { data:=#[] },.int .i64 0,.slice none 0 0] 38));have aC:W0.heap.size=w.heap.size+2:=by rw [ai];simp
 have aD:W1.heap.size=w.heap.size+3:=by rw [ac];simp [aC]
 have aE:W.heap.size=w.heap.size+4:=by rw [hW];simp [aD]
 have ad:=fr1_ ac;have ae:=fr1_ hW;have af:=ad.trans (ae.mono ad.size);have aj:Below w.heap.size w W:=by
  rw [hW,ac,ai];exact v_
 have ap:W.heap[w.heap.size]? =some (.cells #[.map mm,.slice A n c] 92 (0,0)):=(af.block _ o_).trans (by rw [ai];exact tsl.qbh _ _ _);have aF:W.heap[w.heap.size+1]? =some (.cells #[.slice Al σ.length cl] 48 (0,0)):=(af.block _ o_).trans (by rw [ai];exact termt.qa5 _ _ _ (by simp));have aq:W.heap[w.heap.size+2]? =some (.cells #[.int .i64 t.op,.string (bstr t.name),.int .i64 t.sort,.slice At t.args.length ct] 38 (0,0)):=(ae.block _ o_).trans (by rw [ac];exact termt.qa5 _ _ _ o_);have aG:W.heap[w.heap.size+3]? =some (.cells #[.int .i64 0,.string { data:=#[] },.int .i64 0,.slice none 0 0] 38 (0,0)):=by rw [hW];exact termt.qa5 _ _ _ o_
 obtain ⟨x0,x1,x2,x3⟩:=grami.box4 aq;have ab:qhf N W ⟨w.heap.size+2,0,t,.slice At t.args.length ct,[],.slice none 0 0⟩:=⟨⟨x0,x1,x2,x3⟩,ht.below n_ aj,hB,⟨_,_,aq⟩,fun m=>qj1 m aj ht (aA m)⟩;have aa:qzz 97 #[] #[.pointer (some ⟨w.heap.size+1,0,none⟩),.pointer (some ⟨w.heap.size,0,none⟩)] N [w.heap.size+3] (qcb G σ) (allN (qc0 G)) (qbx G) W:=by
  intro S e w3 ag hS al _ aP au hsz
  exact qwh G aB mm A n c hn σ _ aN aO w.heap.size (w.heap.size+1) S e w W w3 aj ag (fun k hk=>by
   rcases (hS k hk).1 with h1|h1
   ·simp at h1;omega
   ·omega) al aP au hsz (hM.below aj) hl ⟨h_ W _ 0 _ _ _ ap,h_ W _ 1 _ _ _ ap⟩ (h_ W _ 0 _ _ _ aF)
 have eg:∀ args w,(callFunc 97 args).run Tryz.prog w=.ok (.enter 97 args) w:=Go.Proofs.enters_of Tryz.func97 k_ rfl;have aH:=z_ (qpl (N:=N) (Z:=60) (M:=60) 97 #[] #[.pointer (some ⟨w.heap.size+1,0,none⟩),.pointer (some ⟨w.heap.size,0,none⟩)] eg ao o_ o_ t hgt.1.1 hgt.2 (w.heap.size+2) 0 _ W [w.heap.size+3] (by intro q hq;simp at hq;omega) aa ab);have aI:=z_ aj;have aQ:=z_ aG;have av:=z_ aE;unfold aggT;clear hM hl ht hB hgt aA x0 x1 x2 x3 ab aa eg aj aG aq aF ap af ad ae aC aD aE ao hσ aB hG hn;go_enter Tryz.func47,Tryz.ntmps47
 go_upto_region 1 with fail
 rw [ai] at ac;rw [ac] at hW;rw [← hW];clear hW ac ai;go_wp2_with fail
 refine aH.out.mono ?_;rintro e w2 ⟨u,vu,r,rfl,aw,ax,aJ,hb2⟩;have ah:=qbf _ (qdb _ _) aJ;obtain ⟨Au,cu,rfl,_⟩:=HasR.shape ah rfl;obtain ⟨W3,am⟩:=e_ (w2.alloc (.cells #[.int .i64 u.op,.string (bstr u.name),.int .i64 u.sort,.slice Au u.args.length cu] 38));have ag:=fr1_ am;have aK:=fr2_ am;obtain ⟨b0,b1,b2,b3⟩:=grami.box4 aK;have aL:size u≤1073741823:=by
  cases r with
  | true=>have:=(ax rfl).2.1.1.1;omega
  | false=>
   have h9:size zT=1:=by unfold zT;rw [qb7];rfl
   rw [(aw rfl).2];omega
 have ay:=z_ (qwb u (.slice Au u.args.length cu) W3 (ah.below n_ ag) aL);have HR:=z_ (And.intro aw ax);have aM:=z_ (aI.out.trans ((hb2.trans (ag.mono hb2.size)).mono aI.out.size));have aR:=z_ ((ag.block _ (by have:=hb2.size;have:=av.out;omega)).trans ((hb2.block _ (by have:=av.out;omega)).trans aQ.out));have aS:w.heap.size+4≤W3.heap.size:=by have:=hb2.size;have:=ag.size;have:=av.out;omega
 unfold aggT at ay ⊢;clear aw ax aJ ah hb2 ag aK aL aH;go_upto_region 2 with fail
 rw [← am];clear am;go_wp2_with fail
 refine ay.out.mono ?_;rintro e w5 ⟨v5,S5,rfl,an,az⟩;obtain ⟨A5,c5,rfl⟩:∃ A c,v5=.slice A u.args.length c:=by
  rw [termro.qan] at an;exact OT.shape an
 have ak:=(az.block _ o_).trans aR.out;obtain ⟨z0,z1,z2,z3⟩:=grami.box4 ak;have q0:=g_ w5 _ 0 _ _ ak;have q1:=g_ w5 _ 1 _ _ ak;have q2:=g_ w5 _ 2 _ _ ak;have q3:=g_ w5 _ 3 _ _ ak
 have HF:Hid (∀ u0 u1 u2 u3,∃ x vx r' S,(Ending.returned (.tuple #[.agg #[.int .i64 u.op,.string (bstr u.name),.int .i64 u.sort,.slice A5 u.args.length c5],.bool r]))=.returned (.tuple #[.agg #[.int .i64 x.op,.string (bstr x.name),.int .i64 x.sort,vx],.bool r'])∧(r'=true→rebM (qcb G σ) t=some x∧qbx G x)∧(r'=false→rebM (qcb G σ) t=none∧x=zT)∧OT 38 (depth x) w.heap.size (set4 w5 (w.heap.size+3) u0 u1 u2 u3) vx x.args S∧Below w.heap.size w (set4 w5 (w.heap.size+3) u0 u1 u2 u3)):=z_ (fun u0 u1 u2 u3=>
  ⟨u,_,r,S5,rfl,fun h=>⟨(HR.out.2 h).1,(HR.out.2 h).2.1⟩,fun h=>HR.out.1 h,(qwa an (x:=w.heap.size+3) o_ u0 u1 u2 u3).mono o_,qa6 (aM.out.trans (az.mono aM.out.size)) o_ _ _ _ _⟩)
 clear an az ak b0 b1 b2 b3 ay;go_wp2;refine bodyPost_ret (v:=.tuple #[.agg #[.int .i64 u.op,.string (bstr u.name),.int .i64 u.sort,.slice A5 u.args.length c5],.bool r]) (by simp [results,Tryz.results47,go_sem,z0,z1,z2,z3]) rfl ?_;exact HF.out _ _ _ _
end insn

namespace tmn

end tmn

namespace scan
open sorti rowl trm terml tmr tmf tmc tmn
theorem qCd {F:TermM→List TermM→Option TermM}{L:List TermM}{p:Nat}(hp:p<L.length){zs:List TermM}(h:rebL F (L.take p)=some zs):rebL F (L.take (p+1))=(rebM F (L.getD p default)).map fun u=>zs++[u]:=by
 rw [List.take_add_one,List.getElem?_eq_getElem hp];have e:L.getD p default=L[p]:=by simp [List.getD,hp]
 rw [e];simp only [Option.toList_some];revert h
 generalize L.take p=K
 intro h;induction K generalizing zs with
 | nil=>
  simp [rebL] at h;subst h;simp [rebL];cases rebM F L[p]<;>rfl
 | cons a K ih=>
  simp only [rebL,List.cons_append] at h ⊢;cases ha:rebM F a with
  | none=>rw [ha] at h;simp at h
  | some v=>
   rw [ha] at h;cases hk:rebL F K with
   | none=>rw [hk] at h;simp at h
   | some ks=>
    rw [hk] at h;simp at h;subst h;rw [ih hk];cases rebM F L[p]<;>simp
theorem qry {F:TermM→List TermM→Option TermM}:∀ {L:List TermM} {p:Nat},rebL F (L.take p)=none→rebL F L=none
 | [],p,h=>by simpa using h
 | a::L,0,h=>by simp [rebL] at h
 | a::L,p+1,h=>by
  simp only [List.take_succ_cons,rebL] at h ⊢;cases ha:rebM F a with
  | none=>simp
  | some v=>
   rw [ha] at h;cases hk:rebL F (L.take p) with
   | none=>rw [qry hk];simp
   | some ks=>rw [hk] at h;simp at h
theorem qdq {w:World}{x:Nat}{a b c d:Value}{T:TypeId}(h:w.heap[x]? =some (.cells #[a,b,c,d] T (0,0)))(u0 u1 u2 u3:Value):(set4 w x u0 u1 u2 u3).heap[x]? =some (.cells #[u0,u1,u2,u3] T (0,0)):=by
 have h0:=heap_setCell_same w x 0 _ T u0 h;have h1:=heap_setCell_same _ x 1 _ T u1 h0;have h2:=heap_setCell_same _ x 2 _ T u2 h1;have h3:=heap_setCell_same _ x 3 _ T u3 h2;simpa using h3
end scan
end Go.Proofs.YtiilamngcoegiaaGreat
