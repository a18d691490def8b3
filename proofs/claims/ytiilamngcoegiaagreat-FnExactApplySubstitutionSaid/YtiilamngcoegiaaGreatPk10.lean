/- parts -/
import Derived.Test.YtiilamngcoegiaaGreatPk09
import Derived.Test.YtiilamngcoegiaaGreatPk11
namespace Go.Proofs.YtiilamngcoegiaaGreat
open Go.ChangeShapes Go.WideShapes Go.ChangeAt Go.RowKit
namespace termev
set_option maxRecDepth 50000
open mem rowl trm terml termb termt termx termz termro termsd
def EntO (N lo:Nat)(W0 W1:World)(F:List Nat)(e:Ent)(p:TermM×Nat):Prop:=e.2.2=p.2∧p.2+depth p.1≤1073741824∧e.1<W1.heap.size∧e.1 ∉ F∧W1.cell? ⟨e.1,e.2.1,none⟩=some (.int .i64 p.1.op)∧W1.cell? ⟨e.1,e.2.1+1,none⟩=some (.string (bstr p.1.name))∧
 W1.cell? ⟨e.1,e.2.1+2,none⟩=some (.int .i64 p.1.sort)∧∃ v,W1.cell? ⟨e.1,e.2.1+3,none⟩=some v∧HasTs N lo W0 v p.1.args∧Bnd p.1
theorem qr1 {Q Q':Ent→TermM×Nat→Prop}(h:∀ e p,Q e p→Q' e p):∀ {L:List Ent} {T:Pend},AllE Q L T→AllE Q' L T
 | [],[],_=>trivial
 | _::_,_::_,⟨a,b⟩=>⟨h _ _ a,qr1 h b⟩
 | [],_::_,h'=>h'.elim
 | _::_,[],h'=>h'.elim
theorem qC3 {N lo:Nat}{W0 W1:World}{F:List Nat}(hb:Below W0.heap.size W0 W1)(hF:∀ k∈F,W0.heap.size≤k)(e:Ent)(p:TermM×Nat)(h:qAs N lo W0 e p):EntO N lo W0 W1 F e p:=by
 obtain ⟨h1,h2,h3,c0,c1,c2,v,c3,h4,h5⟩:=h;have k:∀ y,W1.cell? ⟨e.1,y,none⟩=W0.cell? ⟨e.1,y,none⟩:=fun y=>hb.cell (p:=⟨e.1,y,none⟩) h3
 exact ⟨h1,h2,w_ h3 hb.size,fun hm=>by have:=hF _ hm;omega,(k _).trans c0,(k _).trans c1,(k _).trans c2,v,(k _).trans c3,h4,h5⟩
theorem qn6 {F G:List Nat}{a b c:World}(h:Chg F a b)(k:Chg G b c)(hG:∀ x∈G,x∈F∨a.heap.size≤x):Chg F a c:=
 ⟨k.os.trans h.os,k.tape.trans h.tape,k.output.trans h.output,Nat.le_trans h.size k.size,fun i hi hn=>(k.block i (w_ hi h.size) (fun hm=>by rcases hG i hm with h'|h';exact hn h';omega)).trans (h.block i hi hn)⟩
def ROE (W0 W1:World)(N lo:Nat)(F:List Nat)(J:Pend→World→Prop)(n:Nat)(S:List Nat)(L:List Ent)(w:World):Prop:=
 ∃ T:Pend,AllE (EntO N lo W0 W1 F) L T∧qd0 T≤n∧n≤1073741824∧(∀ k∈S,W1.heap.size≤k∧k<w.heap.size)∧Chg F W1 w∧J T w
theorem qsr {W0 W1:World}{N lo:Nat}{F:List Nat}{J:Pend→World→Prop}(hb:Below W0.heap.size W0 W1)(hF:∀ k∈F,W0.heap.size≤k∧k<W1.heap.size)(hJ:∀ {T:Pend} {w w':World},J T w→(∀ k∈F,w'.heap[k]? =w.heap[k]?)→J T w')(vf:Nat)(cb:Array Value)
  (hv:∀ (e:Ent) (t:TermM) (d:Nat) (T:Pend) (w:World),EntO N lo W0 W1 F e (t,d)→Chg F W1 w→J ((t,d)::T) w→Calls Tryz.prog vf (#[qez e]++cb) w fun ex w'=>∃ b,ex=.returned (.bool b)∧Chg F w w'∧J (if b then kidsP t d++T else T) w'):Visits vf cb (ROE W0 W1 N lo F J) where
 keep:=by
  rintro n S S' L w w' ⟨T,h1,h2,h3,h4,h5,h6⟩ hc hS;refine ⟨T,h1,h2,h3,fun k hk=>⟨?_,(hS k hk).2⟩,qn6 h5 hc (fun k hk=>.inr (h4 k hk).1),hJ h6 (fun k hk=>hc.block k (w_ (hF k hk).2 h5.size) (fun hm=>by have:=(hF k hk).2;have:=(h4 k hm).1;omega))⟩;rcases (hS k hk).1 with h|h
  ·exact (h4 k h).1
  ·exact Nat.le_trans h5.size h
 ent:=by
  rintro n S e L w ⟨T,h1,h2,h3,h4,h5,h6⟩;cases T with
  | nil=>exact h1.elim
  | cons p T=>
   obtain ⟨⟨a1,a2,a3,_⟩,hL⟩:=h1;have h8:=qea T;have h9:=AllE.len hL;have ag:qd0 (p::T)=size p.1+qd0 T:=rfl;refine ⟨w_ a3 h5.size,fun hm=>by have:=(h4 _ hm).1;omega,by omega,h3,by omega⟩
 visit:=by
  rintro n S e L w ⟨T,h1,h2,h3,h4,h5,h6⟩;cases T with
  | nil=>exact h1.elim
  | cons p T=>
   obtain ⟨t,d⟩:=p;obtain ⟨hE,hL⟩:=h1;have af:=hE;obtain ⟨a1,a2,a3,a4,c0,c1,c2,v,c3,hh,ah⟩:=af;have hsz:qd0 ((t,d)::T)=1+sizes t.args+qd0 T:=by rw [← qao];rfl
   refine ⟨n-1,by omega,(hv e t d T w hE h5 h6).mono ?_⟩;rintro ex w' ⟨b,rfl,hc,ac⟩;have aa:Chg F W1 w':=qn6 h5 hc (fun k hk=>.inl hk);have ad:∀ k∈S,W1.heap.size≤k∧k<w'.heap.size:=fun k hk=>⟨(h4 k hk).1,w_ (h4 k hk).2 hc.size⟩
   refine ⟨b,rfl,hc.size,fun k hk ab=>hc.block k ab (fun hm=>by have:=(hF k hm).2;have:=(h4 k hk).1;omega),?_⟩;cases b with
   | false=>exact .inl ⟨rfl,T,hL,by omega,by omega,ad,aa,ac⟩
   | true=>
    right
    obtain ⟨A,c,rfl,ae⟩:=HasR.shape hh rfl;have ai:=qan t;have aj:d+depth t≤1073741824:=a2;obtain ⟨g,o,hA,hK⟩:=qux (d:=d) ae (show d+1+depths t.args≤1073741824 by omega);have hcell:w'.cell? ⟨e.1,e.2.1+3,none⟩=some (.slice A t.args.length c):=(World.cell?_of_block (a:=⟨e.1,e.2.1+3,none⟩) (aa.block _ a3 a4)).trans c3;refine ⟨rfl,A,t.args.length,c,hcell,by have:=qaq t.args;omega,ae.len.2.2,g,o,hA,kidsP t d++T,?_,?_,by omega,ad,aa,ac⟩
    ·rw [a1];exact AllE.append (qr1 (qC3 hb (fun k hk=>(hF k hk).1)) hK) hL
    ·rw [qcw,qjr];omega
def JE (c hb:Nat)(fv:Value)(J:Pend→World→Prop)(Ans:Bool→Prop)(T:Pend)(w:World):Prop:=∃ a:Bool,w.cell? ⟨c,0,none⟩=some (.bool a)∧w.frozen? ⟨c,0,none⟩=false∧w.cell? ⟨hb,0,none⟩=some fv∧(a=true→J T w)∧(a=false→Ans false)
set_option maxHeartbeats 4000000 in
theorem qy8 (f:Nat)(ab cap:Array Value)(eg:∀ args w,(callFunc f args).run Tryz.prog w=.ok (.enter f args) w)(c hb g o d:Nat)(a:Bool)(w:World)
  (h:w.cell? ⟨c,0,none⟩=some (.bool a)) (hf:w.frozen? ⟨c,0,none⟩=false) (hh:w.cell? ⟨hb,0,none⟩=some (.func (.func f) ab cap)) (F0:List Nat) (Q:Bool→World→Prop)
  (hv:a=true→∀ W,Below w.heap.size w W→Calls Tryz.prog f (ab.push (qez (g,o,d))++cap) W fun ex w'=>∃ b,ex=.returned (.bool b)∧Chg F0 W w'∧Q b w') (ac:c ∉ F0∧hb ∉ F0) (ae:c≠hb):
  Calls Tryz.prog 155 (#[qez (g,o,d)]++#[.pointer (some ⟨c,0,none⟩),.pointer (some ⟨hb,0,none⟩)]) w fun ex w'=>∃ b,ex=.returned (.bool b)∧Chg (c::F0) w w'∧w'.cell? ⟨c,0,none⟩=some (.bool b)∧w'.frozen? ⟨c,0,none⟩=false∧w'.cell? ⟨hb,0,none⟩=some (.func (.func f) ab cap)∧(a=false→b=false)∧(a=true→∃ w1,Q b w1∧∀ k,k≠c→w'.heap[k]? =w1.heap[k]?):=by
 have hc:=l_ h;have ad:=l_ hh;simp only [] at hc ad;unfold qez ptr at hv ⊢;show Calls _ _ #[.agg #[.pointer (some ⟨g,o,none⟩),.int .i64 d],.pointer (some ⟨c,0,none⟩),.pointer (some ⟨hb,0,none⟩)] _ _;cases a with
 | false=>
  clear hv;go_enter Tryz.func155,Tryz.ntmps155
  go_wp2;go_ret;refine ⟨false,rfl,?_,?_,?_,?_,fun _=>rfl,fun e=>by cases e⟩
  ·exact (Chg.set (S:=c::F0) (w:=w) (by simp) (.bool false)).trans (Chg.of_below (b_.alloc n_ _))
  ·rw [((Below.refl (w.setCell ⟨c,0,none⟩ (.bool false)).heap.size _).alloc n_ _).cell (p:=⟨c,0,none⟩) (by show c<_;simpa [World.setCell] using hc)]
   exact World.cell?_setCell_same _ _ _ h
  ·rw [((Below.refl (w.setCell ⟨c,0,none⟩ (.bool false)).heap.size _).alloc n_ _).frozen (p:=⟨c,0,none⟩) (by show c<_;simpa [World.setCell] using hc),World.frozen?_setCell]
   exact hf
  ·rw [((Below.refl (w.setCell ⟨c,0,none⟩ (.bool false)).heap.size _).alloc n_ _).cell (p:=⟨hb,0,none⟩) (by show hb<_;simpa [World.setCell] using ad)]
   exact (World.cell?_setCell_other w ⟨c,0,none⟩ ⟨hb,0,none⟩ _ (fun e=>ae (congrArg Addr.block e))).trans hh
 | true=>
  have HV:=z_ (hv rfl);clear hv;go_enter Tryz.func155,Tryz.ntmps155
  go_wp2_with fail
  have af:Below w.heap.size w (w.alloc (.cells #[.pointer (some ⟨g,o,none⟩),.int .i64 d] 164)):=b_.alloc n_ _;refine (HV.out _ af).mono ?_;rintro e w1 ⟨b,rfl,ag,hq⟩;have aa:=(Chg.of_below af).trans ag;have k1:w1.cell? ⟨c,0,none⟩=some (.bool true):=(World.cell?_of_block (a:=⟨c,0,none⟩) (aa.block c hc ac.1)).trans h;have k2:w1.frozen? ⟨c,0,none⟩=false:=(World.frozen?_of_block (a:=⟨c,0,none⟩) (aa.block c hc ac.1)).trans hf;have k3:w1.cell? ⟨hb,0,none⟩=some (.func (.func f) ab cap):=(World.cell?_of_block (a:=⟨hb,0,none⟩) (aa.block hb ad ac.2)).trans hh
  have HF:Hid (Chg (c::F0) w (w1.setCell ⟨c,0,none⟩ (.bool b))∧(w1.setCell ⟨c,0,none⟩ (.bool b)).cell? ⟨c,0,none⟩=some (.bool b)∧(w1.setCell ⟨c,0,none⟩ (.bool b)).frozen? ⟨c,0,none⟩=false∧(w1.setCell ⟨c,0,none⟩ (.bool b)).cell? ⟨hb,0,none⟩=some (.func (.func f) ab cap)∧∃ w2,Q b w2∧∀ k,k≠c→(w1.setCell ⟨c,0,none⟩ (.bool b)).heap[k]? =w2.heap[k]?):=z_
   ⟨(aa.mono (fun k hk=>by simp [hk])).trans (Chg.set (by simp) _),World.cell?_setCell_same _ _ _ k1,by rw [World.frozen?_setCell];exact k2,(World.cell?_setCell_other w1 ⟨c,0,none⟩ ⟨hb,0,none⟩ _ (fun e=>ae (congrArg Addr.block e))).trans k3,w1,hq,fun k hk=>Below.heap_setCell w1 ⟨c,0,none⟩ _ k hk⟩
  clear ag hq aa k3 hh HV h hf;go_wp2;go_ret;obtain ⟨f1,f2,f3,f4,f5⟩:=HF.out;exact ⟨b,rfl,f1,f2,f3,f4,(fun e=>by cases e),fun _=>f5⟩
def qy9 (f:Nat)(aa cap:Array Value)(W0 W1:World)(N lo:Nat)(F F0:List Nat)(J:Pend→World→Prop)(Ans:Bool→Prop):Prop:=
 ∀ (e:Ent) (t:TermM) (d:Nat) (T:Pend) (w:World),EntO N lo W0 W1 F e (t,d)→Chg F W1 w→J ((t,d)::T) w→Calls Tryz.prog f (aa.push (qez e)++cap) w fun ex w'=>∃ b,ex=.returned (.bool b)∧Chg F0 w w'∧(b=true→J (kidsP t d++T) w')∧(b=false→Ans false)
theorem qn7 (f:Nat)(aa cap:Array Value)(eg:∀ args w,(callFunc f args).run Tryz.prog w=.ok (.enter f args) w){W0 W1:World}{N lo c hb:Nat}{F0:List Nat}{J:Pend→World→Prop}{Ans:Bool→Prop}(ad:Below W0.heap.size W0 W1)(hF:∀ k∈F0,W0.heap.size≤k∧k<W1.heap.size)(ab:c ∉ F0∧hb ∉ F0)(ae:c≠hb)
  (hc:W0.heap.size≤c∧c<W1.heap.size) (af:W0.heap.size≤hb∧hb<W1.heap.size) (hJ:∀ {T:Pend} {w w':World},J T w→(∀ k∈F0,w'.heap[k]? =w.heap[k]?)→J T w') (hv:qy9 f aa cap W0 W1 N lo (c::hb::F0) F0 J Ans):
  Visits 155 #[.pointer (some ⟨c,0,none⟩),.pointer (some ⟨hb,0,none⟩)] (ROE W0 W1 N lo (c::hb::F0) (JE c hb (.func (.func f) aa cap) J Ans)):=
 qsr ad (fun k hk=>by
  simp only [List.mem_cons] at hk;rcases hk with rfl|rfl|hk
  ·exact hc
  ·exact af
  ·exact hF k hk) (by
  rintro T w w' ⟨a,h1,h2,h3,h4,h5⟩ hs;exact ⟨a,qij h1 (hs c (by simp)),qik h2 (hs c (by simp)),qij h3 (hs hb (by simp)),fun ha=>hJ (h4 ha) (fun k hk=>hs k (by simp [hk])),h5⟩) _ _ (by
  rintro ⟨g,o,d'⟩ t d T w hE ac ⟨a,h1,h2,h3,h4,h5⟩;refine (qy8 f aa cap eg c hb g o d' a w h1 h2 h3 F0 (fun b w'=>(b=true→J (kidsP t d++T) w')∧(b=false→Ans false)) (fun ha W hW=>?_) ab ae).mono ?_
  ·refine (hv (g,o,d') t d T W hE (ac.trans (Chg.of_below hW)) (hJ (h4 ha) (fun k hk=>hW.block k (w_ (hF k hk).2 ac.size)))).mono ?_
   rintro ex w' ⟨b,rfl,q1,q2,q3⟩;exact ⟨b,rfl,q1,q2,q3⟩
  ·rintro ex w' ⟨b,rfl,q1,q2,q3,q4,q5,q6⟩
   refine ⟨b,rfl,q1.mono (fun k hk=>by simp only [List.mem_cons] at hk ⊢;rcases hk with h|h;exact .inl h;exact .inr (.inr h)),?_⟩;cases a with
   | false=>
    obtain rfl:=q5 rfl;exact ⟨false,q2,q3,q4,(fun e=>by cases e),fun _=>h5 rfl⟩
   | true=>
    obtain ⟨w1,⟨r1,r2⟩,r3⟩:=q6 rfl;refine ⟨b,q2,q3,q4,fun ag=>?_,r2⟩;subst ag
    exact hJ (r1 rfl) (fun k hk=>r3 k (fun e=>ab.1 (by rw [← e];exact hk))))
theorem qjt (w:World)(o1 o2 o3:Obj):(((w.alloc o1).alloc o2).alloc o3).heap[w.heap.size]? =some o1:=by
 show (((w.heap.push o1).push o2).push o3)[w.heap.size]? =some o1;rw [Array.getElem?_push,if_neg (by simp;try omega),Array.getElem?_push,if_neg (by simp;try omega),Array.getElem?_push,if_pos rfl]
theorem quz (w:World)(o1 o2 o3:Obj):(((w.alloc o1).alloc o2).alloc o3).heap[w.heap.size+1]? =some o2:=by
 show (((w.heap.push o1).push o2).push o3)[w.heap.size+1]? =some o2;rw [Array.getElem?_push,if_neg (by simp;try omega),Array.getElem?_push,if_pos (by simp;try omega)]
theorem qn8 {N lo f:Nat}{ad cap:Array Value}(eg:∀ args w,(callFunc f args).run Tryz.prog w=.ok (.enter f args) w){W0 w:World}(t:TermM)(va:Value)(h:HasTs N lo W0 va t.args)(hB:Bnd t)(hsz:sizes t.args≤1048576)(hb:Below W0.heap.size W0 w)
  {F0:List Nat} {J:Pend→World→Prop} {Ans:Bool→Prop} (hF:∀ k∈F0,W0.heap.size≤k∧k<w.heap.size) (hJ:∀ {T:Pend} {w w':World},J T w→(∀ k∈F0,w'.heap[k]? =w.heap[k]?)→J T w')
  (hv:∀ (W1:World) (c hb:Nat),Below w.heap.size w W1→w.heap.size≤c→w.heap.size≤hb→qy9 f ad cap W0 W1 N lo (c::hb::F0) F0 J Ans) (af:J [(t,1)] w) (ac:∀ w,J [] w→Ans true):
  Calls Tryz.prog 94 #[aggT t va,.func (.func f) ad cap] w fun e w'=>∃ r,e=.returned (.bool r)∧Ans r∧Chg F0 w w':=by
 obtain ⟨A,ca,rfl,_⟩:=HasR.shape h rfl;have HH:=z_ h;have ak:=z_ hB;have al:=qao t;have am:=qlg t;have ag:=hb.size;have an:∀ args w,(callFunc 155 args).run Tryz.prog w=.ok (.enter 155 args) w:=Go.Proofs.enters_of Tryz.func155 k_ rfl
 have HC:Hid (∀ W1,Below w.heap.size w W1→W1.heap.size=w.heap.size+3→
   W1.cell? ⟨w.heap.size,0,none⟩=some (.int .i64 t.op)→W1.cell? ⟨w.heap.size,1,none⟩=some (.string (bstr t.name))→W1.cell? ⟨w.heap.size,2,none⟩=some (.int .i64 t.sort)→W1.cell? ⟨w.heap.size,3,none⟩=some (.slice A t.args.length ca)→
   W1.cell? ⟨w.heap.size+1,0,none⟩=some (.func (.func f) ad cap)→W1.cell? ⟨w.heap.size+1+1,0,none⟩=some (.bool true)→W1.frozen? ⟨w.heap.size+1+1,0,none⟩=false→
   Calls Tryz.prog 111 #[.pointer (some ⟨w.heap.size,0,none⟩),.func (.func 155) #[] #[.pointer (some ⟨w.heap.size+1+1,0,none⟩),.pointer (some ⟨w.heap.size+1,0,none⟩)]] W1 fun e w'=>e=.returned (.tuple #[])∧∃ r,w'.cell? ⟨w.heap.size+1+1,0,none⟩=some (.bool r)∧Ans r∧Chg F0 w w'):=z_ (by
  intro W1 aa ap c0 c1 c2 c3 x0 z0 zf;have ao:=hb.trans (aa.mono ag);refine (qqz _ _ an _ (qn7 f ad cap eg (N:=N) (lo:=lo) (J:=J) (Ans:=Ans) (c:=w.heap.size+1+1) (hb:=w.heap.size+1) ao (fun k hk=>⟨(hF k hk).1,by have:=(hF k hk).2;omega⟩) ⟨fun hm=>by have:=(hF _ hm).2;omega,fun hm=>by have:=(hF _ hm).2;omega⟩ o_ ⟨by omega,by omega⟩ ⟨by omega,by omega⟩ hJ (hv W1 _ _ aa o_ o_)) (size t) w.heap.size 0 W1 ⟨[(t,1)],⟨⟨rfl,by show 1+depth t≤_;omega,by show w.heap.size<_;omega,?_,c0,c1,c2,_,c3,HH.out,ak.out⟩,trivial⟩,by simp [qd0],by omega,fun k hk=>by simp at hk,Chg.refl _ _,true,z0,zf,x0,fun _=>hJ af (fun k hk=>aa.block k (hF k hk).2),fun e=>by cases e⟩).mono ?_
  ·intro hm
   simp only [List.mem_cons] at hm;rcases hm with hm|hm|hm
   ·omega
   ·omega
   ·have:=(hF _ hm).2
    omega
  ·rintro e w' ⟨rfl,n',S,T,hA,_,_,_,ab,⟨a,q1,q2,q3,q4,q5⟩⟩
   cases T with
   | cons p T=>exact hA.elim
   | nil=>
    refine ⟨rfl,a,q1,?_,?_⟩
    ·cases a with
     | false=>exact q5 rfl
     | true=>exact ac _ (q4 rfl)
    ·refine ⟨ab.os.trans aa.os,ab.tape.trans aa.tape,ab.output.trans aa.output,by have:=ab.size;omega,fun k hk hn=>?_⟩
     rw [ab.block k o_ (by simp only [List.mem_cons];intro hm;rcases hm with hm|hm|hm;omega;omega;exact hn hm)]
     exact aa.block k hk)
 unfold aggT;obtain ⟨q,hq⟩:=e_ (t.args.length);rw [← hq] at HC ⊢;obtain ⟨to,ah⟩:=e_ (t.op);obtain ⟨tn,ai⟩:=e_ (t.name);obtain ⟨ts,aj⟩:=e_ (t.sort);rw [← ah,← ai,← aj] at HC ⊢;clear h hB hsz hb al am ag hF hJ hv af ac hq ah ai aj;go_enter Tryz.func94,Tryz.ntmps94
 go_wp2_with fail
 refine (HC.out _ ?_ ?_ ?_ ?_ ?_ ?_ ?_ ?_ ?_).mono ?_;rotate_left 1
 ·simp
 ·exact h_ _ _ 0 _ _ _ (qjt _ _ _ _)
 ·exact h_ _ _ 1 _ _ _ (qjt _ _ _ _)
 ·exact h_ _ _ 2 _ _ _ (qjt _ _ _ _)
 ·exact h_ _ _ 3 _ _ _ (qjt _ _ _ _)
 ·exact h_ _ _ 0 _ _ _ (quz _ _ _ _)
 rotate_left 3
 ·exact v_
 ·exact h_ _ _ 0 _ _ _ (qa5 _ _ _ (by simp))
 ·exact g_ _ _ 0 _ _ (qa5 _ _ _ (by simp))
 rintro e w1 ⟨rfl,r,hr,ae,ab⟩;go_wp2;go_ret;exact ⟨r,rfl,ae,ab⟩
end termev

namespace termlm
set_option maxRecDepth 50000
open mem rowl trm terml termb termt termx termz termro termsd termev frm
def LimV (cs k:Nat)(b:Bool)(w:World)(ex:Ending)(w':World):Prop:=ex=.returned (.bool b)∧Chg [cs] w w'∧w'.cell? ⟨cs,0,none⟩=some (.int .i64 ((k:Int)+1))∧w'.frozen? ⟨cs,0,none⟩=false
theorem c41_ {p:Prop}(h:p:=by
 clear hb hk hd hm;go_enter Tryz.func154,Tryz.ntmps154
 go_wp2;go_ret;exact aa.out false _ HB.out
):p:=h
set_option maxHeartbeats 4000000 in
theorem qC4 (cs g o d k:Nat)(m c:Nat)(A:Option Addr)(w:World)(hk:k≤60)(hd:d≤1073741824)(hm:m≤1073741824)(h:w.cell? ⟨cs,0,none⟩=some (.int .i64 k))(hf:w.frozen? ⟨cs,0,none⟩=false)
  (t3:w.cell? ⟨g,o+3,none⟩=some (.slice A m c)) (ab:g≠cs) (b:Bool) (hb:decide (k+1≤60∧d≤20∧m≤7)=b):
  Calls Tryz.prog 154 #[qez (g,o,d),.pointer (some ⟨cs,0,none⟩)] w (LimV cs k b w):=by
 have hc:=l_ h;have hg:=l_ t3;simp only [] at hc hg
 have aa:Hid (∀ (b':Bool) (ob:Obj),b=b'→LimV cs k b w (.returned (.bool b')) ((w.setCell ⟨cs,0,none⟩ (.int .i64 ((k:Int)+1))).alloc ob)):=z_ (fun b' ob ac=>by
  subst ac;have hW:Below w.heap.size (w.setCell ⟨cs,0,none⟩ (.int .i64 ((k:Int)+1))) ((w.setCell ⟨cs,0,none⟩ (.int .i64 ((k:Int)+1))).alloc ob):=b_.alloc (by simp [World.setCell]) _;refine ⟨rfl,(Chg.set (S:=[cs]) (w:=w) (by simp) _).trans (Chg.of_below (b_.alloc n_ _)),?_,?_⟩
  ·rw [hW.cell (p:=⟨cs,0,none⟩) hc];exact World.cell?_setCell_same _ _ _ h
  ·rw [hW.frozen (p:=⟨cs,0,none⟩) hc,World.frozen?_setCell];exact hf)
 unfold qez ptr;have hw:IntKind.i64.wrap ((k:Int)+1)=(k:Int)+1:=IntWalk.i64_in _ o_;have hgc:¬ cs=g:=fun e=>ab e.symm
 have ad:¬ w.heap.size=cs:=o_;by_cases h1:k+1≤60
 ·have d1:decide ((k:Int)+1≤60)=true:=d_
  by_cases h2:d≤20
  ·have d2:decide ((d:Int)≤20)=true:=d_
   by_cases h3:m≤7
   ·have HB:Hid (b=true):=z_ (by rw [← hb];exact decide_eq_true ⟨h1,h2,h3⟩)
    have d3:decide ((m:Int)≤7)=true:=d_;clear hb hk hd hm;go_enter Tryz.func154,Tryz.ntmps154
    go_wp2;go_ret;exact aa.out true _ HB.out
   ·have HB:Hid (b=false):=z_ (by rw [← hb];exact decide_eq_false (fun e=>h3 e.2.2))
    have d3:decide ((m:Int)≤7)=false:=f_;exact c41_
  ·have HB:Hid (b=false):=z_ (by rw [← hb];exact decide_eq_false (fun e=>h2 e.2.1))
   have d2:decide ((d:Int)≤20)=false:=f_;exact c41_
 ·have HB:Hid (b=false):=z_ (by rw [← hb];exact decide_eq_false (fun e=>h1 e.1))
  have d1:decide ((k:Int)+1≤60)=false:=f_;exact c41_
def LimJ (cs:Nat)(t0:TermM)(T:Pend)(w:World):Prop:=∃ k:Nat,w.cell? ⟨cs,0,none⟩=some (.int .i64 k)∧w.frozen? ⟨cs,0,none⟩=false∧k+qd0 T=size t0∧k≤60∧(depth t0≤20∧wide t0↔LimP T)∧∀ p∈T,1≤p.2
theorem qv0 (cs:Nat)(t0:TermM)(ac:size t0≤1073741824)(W0 W1:World)(N lo:Nat)(F:List Nat)(hcs:cs∈F):
  qy9 154 #[] #[.pointer (some ⟨cs,0,none⟩)] W0 W1 N lo F [cs] (LimJ cs t0) (fun r=>r=true↔LimT t0):=by
 rintro ⟨g,o,d'⟩ t d T w ⟨a1,a2,a3,a4,c0,c1,c2,v,c3,hh,ad⟩ aa ⟨k,h1,h2,h3,h4,h5,h6⟩;simp only [] at a1 a2 a3 a4 c3;subst a1;obtain ⟨A,c,rfl,_⟩:=HasR.shape hh rfl;have hsz:qd0 ((t,d')::T)=size t+qd0 T:=rfl;have ae:=qao t;have af:=qaq t.args;have ab:1≤d':=h6 (t,d') (by simp);have hg:g≠cs:=fun e=>a4 (by rw [e];exact hcs)
 have t3:w.cell? ⟨g,o+3,none⟩=some (.slice A t.args.length c):=(World.cell?_of_block (a:=⟨g,o+3,none⟩) (aa.block g a3 a4)).trans c3;refine (qC4 cs g o d' k t.args.length c A w h4 o_ o_ h1 h2 t3 hg _ rfl).mono ?_;rintro ex w' ⟨rfl,q1,q2,q3⟩;refine ⟨_,rfl,q1,fun hb=>?_,fun hb=>?_⟩
 ·obtain ⟨b1,b2,b3⟩:=of_decide_eq_true hb
  refine ⟨k+1,q2,q3,?_,b1,h5.trans (quy ab b2 b3),fun p hp=>?_⟩
  ·rw [qcw,qjr];omega
  ·rcases List.mem_append.1 hp with hp|hp
   ·unfold kidsP at hp
    simp only [List.mem_reverse,List.mem_map] at hp;obtain ⟨a,_,rfl⟩:=hp;show 1≤d'+1;omega
   ·exact h6 p (by simp [hp])
 ·have hb:=of_decide_eq_false hb
  constructor
  ·intro e;cases e
  ·rintro ⟨l1,l2⟩
   exfalso
   have hp:=h5.1 l2;by_cases hk:k+1≤60
   ·exact qAt (fun hx=>hb ⟨hk,hx.1,hx.2⟩) hp
   ·omega
theorem qju {N lo:Nat}{W0 w:World}(t:TermM)(va:Value)(h:HasTs N lo W0 va t.args)(hB:Bnd t)(hsz:sizes t.args≤1048576)(hb:Below W0.heap.size W0 w):
  Calls Tryz.prog 93 #[aggT t va] w fun e w'=>∃ r,e=.returned (.bool r)∧(r=true↔LimT t)∧Below w.heap.size w w':=by
 obtain ⟨A,ca,rfl,_⟩:=HasR.shape h rfl;have af:=qao t;have aa:=hb.size;have eg:∀ args w,(callFunc 154 args).run Tryz.prog w=.ok (.enter 154 args) w:=Go.Proofs.enters_of Tryz.func154 k_ rfl
 have HC:Hid (∀ W,Below w.heap.size w W→W.heap.size=w.heap.size+2→W.cell? ⟨w.heap.size+1,0,none⟩=some (.int .i64 0)→W.frozen? ⟨w.heap.size+1,0,none⟩=false→
   Calls Tryz.prog 94 #[aggT t (.slice A t.args.length ca),.func (.func 154) #[] #[.pointer (some ⟨w.heap.size+1,0,none⟩)]] W fun e w'=>∃ r,e=.returned (.bool r)∧(r=true↔LimT t)∧Below w.heap.size w w'):=z_ (by
  intro W hW hs z0 zf;refine (qn8 eg (W0:=W0) t _ h hB hsz (hb.trans (hW.mono aa)) (F0:=[w.heap.size+1]) (J:=LimJ (w.heap.size+1) t) (Ans:=fun r=>r=true↔LimT t) (fun k hk=>?_) ?_ (fun W1 c ai _ _ _=>qv0 _ t o_ W0 W1 N lo _ (by simp)) ⟨0,z0,zf,by simp [qd0],by omega,?_,fun p hp=>?_⟩ ?_).mono ?_
  ·simp at hk;omega
  ·rintro T w1 w2 ⟨k,q1,q2,q3⟩ ab
   exact ⟨k,qij q1 (ab _ (by simp)),qik q2 (ab _ (by simp)),q3⟩
  ·unfold LimP
   simp
  ·simp at hp;subst hp;show 1≤1;omega
  ·rintro w1 ⟨k,_,_,q3,q4,q5,_⟩
   simp only [qd0] at q3;exact ⟨fun _=>⟨by omega,q5.2 (fun p hp=>by simp at hp)⟩,fun _=>rfl⟩
  ·rintro e w' ⟨r,rfl,hr,ag⟩
   exact ⟨r,rfl,hr,hW.trans (ag.below o_ (fun k hk=>by simp at hk;omega))⟩)
 unfold aggT at HC ⊢;obtain ⟨q,hq⟩:=e_ (t.args.length);rw [← hq] at HC ⊢;obtain ⟨to,ac⟩:=e_ (t.op);obtain ⟨tn,ad⟩:=e_ (t.name);obtain ⟨ts,ae⟩:=e_ (t.sort);rw [← ac,← ad,← ae] at HC ⊢;clear h hB hsz hb af aa hq ac ad ae;go_enter Tryz.func93,Tryz.ntmps93
 go_wp2_with fail
 refine (HC.out _ ?_ ?_ ?_ ?_).mono ?_
 ·exact v_
 ·simp
 ·exact h_ _ _ 0 _ _ _ (qa5 _ _ _ (by simp))
 ·exact g_ _ _ 0 _ _ (qa5 _ _ _ (by simp))
 rintro e w1 ⟨r,rfl,hr,ah⟩;have HR:=z_ hr;clear hr;go_wp2;go_ret;exact ⟨r,rfl,HR.out,ah⟩
end termlm

namespace gramt
open mem dec setm sets sortm sortn sortp sorti rowl trm trmv terml termb termt termx termz termro termsd termvr termev frm termlm sigi gram gramo graml gramk gramc gramn
theorem qim:∀ {l:List TermM} {a:TermM},a∈l→size a≤sizes l
 | b::l,a,h=>by
  have e:sizes (b::l)=size b+sizes l:=rfl;rcases List.mem_cons.1 h with rfl|h
  ·omega
  ·have:=qim h
   omega
def qbx (G:GrM)(t:TermM):Prop:=LimT t∧allN (qc0 G) t
def NodJ (G:GrM)(t0:TermM)(T:Pend)(_:World):Prop:=(∀ p∈T,sizes p.1.args≤1048576)∧(allN (qc0 G) t0↔∀ p∈T,allN (qc0 G) p.1)
theorem qss {N lo:Nat}(G:GrM)(hG:GrOk G)(mv:Value)(A:Option Addr)(n c:Nat)(t0:TermM)(W0 W1:World)(hM:HasM W0 mv (.slice A n c) G)(hn:n=G.E.length)(hb:Below W0.heap.size W0 W1)(F:List Nat)(hF:∀ k∈F,W0.heap.size≤k):
  qy9 95 #[.agg #[mv,.slice A n c]] #[] W0 W1 N lo F [] (NodJ G t0) (fun r=>r=true↔allN (qc0 G) t0):=by
 rintro ⟨g,o,d'⟩ t d T w ⟨a1,a2,a3,a4,c0,c1,c2,v,c3,hh,ab⟩ ac ⟨h1,h2⟩;simp only [] at a1 a2 a3 a4 c0 c1 c2 c3 hh ab;subst a1;obtain ⟨B,cb,rfl,_⟩:=HasR.shape hh rfl;have ad:=hb.trans (ac.below hb.size hF);have kc:∀ y,w.cell? ⟨g,y,none⟩=W1.cell? ⟨g,y,none⟩:=fun y=>World.cell?_of_block (a:=⟨g,y,none⟩) (ac.block g a3 a4)
 obtain ⟨r,hr⟩:=x_ (qc0 G t);refine (qsq G hG mv A n c t g o d' B cb w (hM.below ad) hn ((kc _).trans c0) ((kc _).trans c1) ((kc _).trans c2) ((kc _).trans c3) (hh.below n_ ad) ab (by have:=h1 (t,d') (by simp);simp only [] at this;omega) r hr).mono ?_;rintro ex w' ⟨rfl,ae⟩;have aa:allN (qc0 G) t↔qc0 G t∧∀ a∈t.args,allN (qc0 G) a:=qbn _ t;refine ⟨r,rfl,Chg.of_below ae,fun af=>⟨fun p hp=>?_,?_⟩,fun ag=>?_⟩
 ·rcases List.mem_append.1 hp with hp|hp
  ·unfold kidsP at hp
   simp only [List.mem_reverse,List.mem_map] at hp;obtain ⟨a,ha,rfl⟩:=hp;have q1:=h1 (t,d') (by simp);simp only [] at q1;have q2:=qim ha;have q3:=qao a;show sizes a.args≤_;omega
  ·exact h1 p (by simp [hp])
 ·rw [h2,List.forall_mem_cons,List.forall_mem_append]
  refine and_congr ?_ Iff.rfl;have e:(∀ p∈kidsP t d',allN (qc0 G) p.1)↔∀ a∈t.args,allN (qc0 G) a:=by
   unfold kidsP;simp only [List.mem_reverse,List.mem_map];constructor
   ·intro h a ha;exact h _ ⟨a,ha,rfl⟩
   ·rintro h _ ⟨a,ha,rfl⟩;exact h a ha
  rw [e];show allN (qc0 G) t↔_;rw [aa];exact ⟨fun q=>q.2,fun q=>⟨hr.1 af,q⟩⟩
 ·constructor
  ·intro e;cases e
  ·intro q
   exfalso
   have:=((h2.1 q) (t,d') (by simp));have q2:=hr.2 (aa.1 this).1;rw [ag] at q2;cases q2
set_option maxRecDepth 50000 in
set_option maxHeartbeats 4000000 in
theorem qjv {N lo:Nat}(G:GrM)(hG:GrOk G)(mv:Value)(A:Option Addr)(n c:Nat)(t:TermM)(va:Value)(w:World)(hM:HasM w mv (.slice A n c) G)(hn:n=G.E.length)(h:HasTs N lo w va t.args)(hB:Bnd t)(hsz:sizes t.args≤1048576):
  Calls Tryz.prog 46 #[.agg #[mv,.slice A n c],aggT t va] w fun e w'=>∃ r,e=.returned (.bool r)∧(r=true↔qbx G t)∧Below w.heap.size w w':=by
 obtain ⟨mm,rfl⟩:=qd6 hM.m;obtain ⟨B,cb,rfl,_⟩:=HasR.shape h rfl;have eg:∀ args w,(callFunc 95 args).run Tryz.prog w=.ok (.enter 95 args) w:=Go.Proofs.enters_of Tryz.func95 k_ rfl;have HW:Hid (∀ W,Below w.heap.size w W→Calls Tryz.prog 93 #[aggT t (.slice B t.args.length cb)] W fun e w'=>∃ r,e=.returned (.bool r)∧(r=true↔LimT t)∧Below W.heap.size W w'):=z_ (fun W hW=>qju t _ h hB hsz hW)
 have HE:Hid (∀ W,Below w.heap.size w W→Calls Tryz.prog 94 #[aggT t (.slice B t.args.length cb),.func (.func 95) #[.agg #[.map mm,.slice A n c]] #[]] W fun e w'=>∃ r,e=.returned (.bool r)∧(r=true↔allN (qc0 G) t)∧Below w.heap.size w w'):=z_ (fun W hW=>by
  refine (qn8 eg (W0:=w) (lo:=lo) (N:=N) t _ h hB hsz hW (F0:=[]) (J:=NodJ G t) (Ans:=fun r=>r=true↔allN (qc0 G) t) (fun k hk=>by simp at hk) (fun q _=>q) (fun W1 c' al q1 q2 q3=>qss G hG _ A n c t w W1 hM hn (hW.trans (q1.mono hW.size)) _ (fun k hk=>?_)) ⟨fun p hp=>?_,?_⟩ ?_).mono ?_
  ·have:=hW.size
   simp at hk;omega
  ·simp at hp;subst hp;exact hsz
  ·simp
  ·rintro w1 ⟨_,q⟩
   exact ⟨fun _=>q.2 (fun p hp=>by simp at hp),fun _=>rfl⟩
  ·rintro e w' ⟨r,rfl,hr,aj⟩
   exact ⟨r,rfl,hr,hW.trans (aj.below hW.size (fun k hk=>by simp at hk))⟩)
 unfold aggT at HW HE ⊢;obtain ⟨q,hq⟩:=e_ (t.args.length);rw [← hq] at HW HE ⊢;obtain ⟨to,ad⟩:=e_ (t.op);obtain ⟨tn,ae⟩:=e_ (t.name);obtain ⟨ts,af⟩:=e_ (t.sort);rw [← ad,← ae,← af] at HW HE ⊢;clear hM hn h hB hsz hq ad ae af eg hG;have ag:Below w.heap.size w ((w.alloc (.cells #[.map mm,.slice A n c] 92)).alloc (.cells #[.int .i64 to,.string (bstr tn),.int .i64 ts,.slice B q cb] 38)):=by
  exact v_
 have ab:=z_ ag;clear ag;go_enter Tryz.func46,Tryz.ntmps46
 go_wp2_with fail
 refine (HW.out _ ab.out).mono ?_;rintro e w1 ⟨r,rfl,hr,ac⟩;have HR:=z_ hr;have aa:=ab.out.trans (ac.mono ab.out.size);have HX:w1.heap[w.heap.size]? =some (.cells #[.map mm,.slice A n c] 92 (0,0)):=(ac.block _ (by first|(simp;done)|(simp;omega))).trans (qbh _ _ _);have HY:w1.heap[w.heap.size+1]? =some (.cells #[.int .i64 to,.string (bstr tn),.int .i64 ts,.slice B q cb] 38 (0,0)):=(ac.block _ (by first|(simp;done)|(simp;omega))).trans (qa5 _ _ _ (by simp));have x0:=h_ _ _ 0 _ _ _ HX;have x1:=h_ _ _ 1 _ _ _ HX;have y0:=h_ _ _ 0 _ _ _ HY;have y1:=h_ _ _ 1 _ _ _ HY;have y2:=h_ _ _ 2 _ _ _ HY;have y3:=h_ _ _ 3 _ _ _ HY;have ah:=z_ aa;clear hr ac aa HX HY HW ab;cases r with
 | false=>
  go_wp2;go_ret;exact ⟨false,rfl,⟨(fun e=>by cases e),(fun e=>absurd (HR.out.2 e.1) (by simp))⟩,ah.out⟩
 | true=>
  go_wp2_with fail
  refine (HE.out _ ah.out).mono ?_;rintro e w2 ⟨r,rfl,hr,hb2⟩;have ai:=z_ hr;have ak:=z_ hb2;clear hr hb2 x0 x1 y0 y1 y2 y3;go_wp2;go_ret;exact ⟨r,rfl,⟨fun e=>⟨HR.out.1 (by first|rfl|trivial),ai.out.1 e⟩,fun e=>ai.out.2 e.2⟩,ak.out⟩
end gramt

namespace grami
open mem sortp sorti sigm sigs rowl trm terml termb sigk gram gramc
theorem box3 {w:World}{x:Nat}{v0 v1 v2:Value}{t:TypeId}(h:w.heap[x]? =some (.cells #[v0,v1,v2] t (0,0))):w.cell? ⟨x,0,none⟩=some v0∧w.cell? ⟨x,1,none⟩=some v1∧w.cell? ⟨x,2,none⟩=some v2:=
 ⟨h_ w x 0 _ _ _ h,h_ w x 1 _ _ _ h,h_ w x 2 _ _ _ h⟩
theorem box4 {w:World}{x:Nat}{v0 v1 v2 v3:Value}{t:TypeId}(h:w.heap[x]? =some (.cells #[v0,v1,v2,v3] t (0,0))):w.cell? ⟨x,0,none⟩=some v0∧w.cell? ⟨x,1,none⟩=some v1∧w.cell? ⟨x,2,none⟩=some v2∧w.cell? ⟨x,3,none⟩=some v3:=
 ⟨h_ w x 0 _ _ _ h,h_ w x 1 _ _ _ h,h_ w x 2 _ _ _ h,h_ w x 3 _ _ _ h⟩
abbrev Box34 (x y:Nat)(v0 v1 v2 u0 u1 u2 u3:Value)(w:World):Prop:=(w.cell? ⟨x,0,none⟩=some v0∧w.cell? ⟨x,1,none⟩=some v1∧w.cell? ⟨x,2,none⟩=some v2)∧(w.cell? ⟨y,0,none⟩=some u0∧w.cell? ⟨y,1,none⟩=some u1∧w.cell? ⟨y,2,none⟩=some u2∧w.cell? ⟨y,3,none⟩=some u3)
theorem Box34.below {x y:Nat}{v0 v1 v2 u0 u1 u2 u3:Value}{w w':World}(h:Box34 x y v0 v1 v2 u0 u1 u2 u3 w)(hb:Below w.heap.size w w'):Box34 x y v0 v1 v2 u0 u1 u2 u3 w':=by
 obtain ⟨⟨h0,h1,h2⟩,k0,k1,k2,k3⟩:=h;have k:∀ {a:Addr} {v:Value},w.cell? a=some v→w'.cell? a=some v:=fun {a v} h=>(hb.cell (p:=a) (l_ h)).trans h
 exact ⟨⟨k h0,k h1,k h2⟩,k k0,k k1,k k2,k k3⟩
theorem qp2 (P:List (List UInt8))(Q:List (Int×Int))(O:List OpM):GrOk (grM P Q O):=by
 unfold grM;split
 ·rename_i ab
  obtain ⟨_,ac,_,hd,hx⟩:=qa9 ab;intro j hj;have aa:j<O.length:=by simpa [opsE] using hj
  have hm:O.getD j default∈O:=by rw [List.getD_eq_getElem?_getD,List.getElem?_eq_getElem aa];exact List.getElem_mem _
  rw [qox O _ aa,qfw _ O j aa];have h1:=qak (hd _ hm);have h2:=qaf h1.2.2.2;have h3:=hx _ hm;refine ⟨rfl,h2.1,?_⟩;simp only [axOk,qds,Bool.and_eq_true,Bool.or_eq_true,decide_eq_true_eq] at h3;show 0≤(O.getD j default).unt∧I64 (O.getD j default).unt;have h4:=h3.2;unfold I64;rcases h4 with h4|h4
  ·omega
  ·have:=h4.1.1
   omega
 ·intro j hj
  exact absurd hj (Nat.not_lt_zero _)
end grami

namespace formnd
open mem sets sortn sortp sorti sigm sigs sigl rowl trm terml termb termt termx gram gramk gramn grami
def qbu (P:List (List UInt8))(O:List OpM)(t:TermM):Prop:=if t.op=-1 then qaz t.name=true∧(0≤t.sort∧t.sort<P.length)∧t.args.length=0
 else (0≤t.op∧t.op<O.length)∧t.name=[]∧t.sort=0∧if (O.getD t.op.toNat default).ass=true then 2≤t.args.length∧t.args.length≤7 else t.args.length=ar (O.getD t.op.toNat default)
theorem c54_ {p:Prop}(h:p:=by
 go_enter Tryz.func138,Tryz.ntmps138
 go_wp2_with fail
 rw [← hW];clear hW;refine (HI.out _ true ad.out).mono ?_;rintro e w1 ⟨rfl,rfl⟩;go_wp2_with fail
 have ab:Below w.heap.size w (W.alloc (.cells #[.string (bstr nm),.slice A4 dl c4,.bool false,.bool b,.int .i64 u] 124)):=aa.out.alloc aa.out.size _;refine (aC.out _ ab).mono ?_;rintro e w1 ⟨rfl,ac⟩;have b2:w1.cell? ⟨w.heap.size+2,2,none⟩=some (.bool false):=by rw [← af];exact h_ _ _ 2 _ _ _ ((ac.block W.heap.size (by simp)).trans (qa5 _ _ _ rfl))
 have aJ:=z_ (ab.trans (ac.mono ab.size));clear af ac ab x0 x1 x2 y0 y1 y2 y3 al ai am an ao;go_wp2;go_ret;exact ⟨qa0 (by rw [HG.out];first|done|rfl|(simp [ae];done)|(simp at ae ⊢;omega)|(simp at ae ⊢;exact ae)),aJ.out⟩
):p:=h
theorem c55_ {p:Prop}(h:p:=by
 go_enter Tryz.func138,Tryz.ntmps138
 go_wp2_with fail
 rw [← hW];clear hW;refine (HI.out _ true ad.out).mono ?_;rintro e w1 ⟨rfl,rfl⟩;go_wp2_with fail
 have ab:Below w.heap.size w (W.alloc (.cells #[.string (bstr nm),.slice A4 dl c4,.bool true,.bool b,.int .i64 u] 124)):=aa.out.alloc aa.out.size _;have aK:=z_ ab;clear ab;refine (aP.out _ _ HZ.out).mono ?_;rintro e w1 ⟨rfl,rfl⟩;go_wp2;go_ret;exact ⟨qa0 (by rw [HG.out]),aK.out⟩
):p:=h
theorem j16_ {p:Prop}(h:p:=by
 rintro e w1 ⟨rfl,rfl⟩;go_wp2;go_ret;exact ⟨qa0 HG.out.symm,aa.out⟩
):p:=h
theorem c56_ {p:Prop}(h:p:=by
 clear ag aD;go_enter Tryz.func138,Tryz.ntmps138
 go_wp2_with fail
 rw [← hW];clear hW;refine (HI.out _ true ad.out).mono ?_;exact j16_
):p:=h
theorem c57_ {p:Prop}(h:p:=by
 refine (HI.out _ false ad.out).mono ?_;exact j16_
):p:=h
set_option maxRecDepth 50000 in
set_option maxHeartbeats 8000000 in
theorem qv7 {N lo:Nat}(P:List (List UInt8))(Q:List (Int×Int))(O:List OpM)(aL:qad P Q O=true)(va vb vc:Value)(t:TermM)(ve:Value)(w:World)(h:HasG w va vb vc P Q O)(ht:HasTs N lo w ve t.args)(hB:Bnd t)(aR:t.args.length≤1048576)(r:Bool)(hr:r=true↔qbu P O t):
  Calls Tryz.prog 138 #[.agg #[va,vb,vc],aggT t ve] w fun e w'=>e=.returned (.bool r)∧Below w.heap.size w w':=by
 obtain ⟨hS,aS,_,hd,_⟩:=qa9 aL;have hP:=(qax hS).2.1;obtain ⟨B,cb,rfl,_⟩:=HasR.shape ht rfl;obtain ⟨A1,c1,A2,c2,A3,c3,rfl,rfl,rfl,_,_,_,h'⟩:=h.shape;unfold aggT;unfold qbu at hr;obtain ⟨q,hq⟩:=e_ (t.args.length);obtain ⟨to,av⟩:=e_ (t.op);obtain ⟨tn,aw⟩:=e_ (t.name);obtain ⟨ts,ax⟩:=e_ (t.sort);obtain ⟨m1,ay⟩:=e_ (P.length);obtain ⟨m2,aM⟩:=e_ (Q.length);obtain ⟨m3,ah⟩:=e_ (O.length);obtain ⟨ac,hb2,aF⟩:=hB;rw [← av] at hb2;rw [← aw] at ac;rw [← ax] at aF;rw [← hq] at aR;rw [← ah] at aS;rw [← ay] at hP;rw [← hq,← av,← aw,← ax,← ay,← aM,← ah];rw [← hq,← av,← aw,← ax,← ay,← ah] at hr;have HO:Hid (HasO 0 w (.slice A3 m3 c3) O):=z_ (by rw [ah];exact h'.o);have HD:=z_ hd;have aG:=z_ ah;have HR:=z_ hr;clear h h' ht hq av aw ax ay aM ah aL hS hd;obtain ⟨W,hW⟩:=e_ ((w.alloc (.cells #[.slice A1 m1 c1,.slice A2 m2 c2,.slice A3 m3 c3] 46)).alloc (.cells #[.int .i64 to,.string (bstr tn),.int .i64 ts,.slice B q cb] 38));have aN:Below w.heap.size w W:=by
  rw [hW];exact v_
 obtain ⟨⟨x0,x1,x2⟩,y0,y1,y2,y3⟩:Box34 w.heap.size (w.heap.size+1) (.slice A1 m1 c1) (.slice A2 m2 c2) (.slice A3 m3 c3) (.int .i64 to) (.string (bstr tn)) (.int .i64 ts) (.slice B q cb) W:=by
  rw [hW];exact ⟨box3 (qbh _ _ _),box4 (qa5 _ _ _ (by simp))⟩
 have af:W.heap.size=w.heap.size+2:=by rw [hW];simp
 have aa:=z_ aN;have w1:IntKind.i64.wrap ((m1:Int)-1)=(m1:Int)-1:=IntWalk.i64_in _ o_;have w3:IntKind.i64.wrap ((m3:Int)-1)=(m3:Int)-1:=IntWalk.i64_in _ o_;clear aN;by_cases hv:to=-1
 ·have HF:Hid (r=true↔qaz tn=true∧(0≤ts∧ts<m1)∧q=0):=z_ (by rw [if_pos hv] at hr;exact hr)
  have HN:=z_ (fun W r hr=>qfl tn ac r hr W);have HI:=z_ (fun W r hr=>qc6 ts 0 ((m1:Int)-1) r hr W);subst hv;obtain ⟨nb,az⟩:∃ b,qaz tn=b:=⟨_,rfl⟩;obtain ⟨ib,aH⟩:∃ b,inI ts 0 ((m1:Int)-1)=b:=⟨_,rfl⟩;have aO:ib=true↔0≤ts∧ts<m1:=by rw [← aH,inI,decide_eq_true_iff];omega
  have ak:=z_ az;have ad:=z_ aH;have HQ:=z_ aO;clear aH aO ac hb2 aF;cases nb with
  | false=>
   have HG:Hid (r=false):=z_ (by cases hq:r with
    | false=>rfl
    | true=>exact absurd (HF.out.1 hq).1 (by rw [ak.out];simp))
   clear hr az af HF;go_enter Tryz.func138,Tryz.ntmps138
   go_wp2_with fail
   rw [← hW];clear hW;refine (HN.out _ false ak.out).mono ?_;exact j16_
  | true=>
   cases ib with
   | false=>
    have HG:Hid (r=false):=z_ (by cases hq:r with
     | false=>rfl
     | true=>exact absurd (HQ.out.2 (HF.out.1 hq).2.1) (by simp))
    clear hr az af HF;go_enter Tryz.func138,Tryz.ntmps138
    go_wp2_with fail
    rw [← hW];clear hW;refine (HN.out _ true ak.out).mono ?_;rintro e w1 ⟨rfl,rfl⟩;go_wp2_with fail
    exact c57_
   | true=>
    have HG:Hid (r=decide (q=0)):=z_ (by rw [Bool.eq_iff_iff,HF.out,decide_eq_true_iff];exact ⟨fun e=>e.2.2,fun e=>⟨ak.out,HQ.out.1 rfl,e⟩⟩);have ae:((q:Int)==0)=decide (q=0):=by rw [Bool.eq_iff_iff];simp
    clear hr az af HF;go_enter Tryz.func138,Tryz.ntmps138
    go_wp2_with fail
    rw [← hW];clear hW;refine (HN.out _ true ak.out).mono ?_;rintro e w1 ⟨rfl,rfl⟩;go_wp2_with fail
    refine (HI.out _ true ad.out).mono ?_;rintro e w1 ⟨rfl,rfl⟩;go_wp2;go_ret;exact ⟨qa0 (by rw [HG.out]),aa.out⟩
 ·have HF:Hid (r=true↔(0≤to∧to<m3)∧tn=[]∧ts=0∧if (O.getD to.toNat default).ass=true then 2≤q∧q≤7 else q=ar (O.getD to.toNat default)):=z_ (by rw [if_neg hv] at hr;exact hr)
  have HI:=z_ (fun W r hr=>qc6 to 0 ((m3:Int)-1) r hr W);have v1:(to==-1)=false:=by simp [hv]
  have v2:decide (to=-1)=false:=decide_eq_false hv;by_cases aA:0≤to∧to<m3
  ·obtain ⟨k,rfl⟩:∃ k:Nat,to=(k:Int):=⟨to.toNat,by omega⟩
   have aT:k<m3:=o_;have ad:Hid (inI (k:Int) 0 ((m3:Int)-1)=true):=z_ (by rw [inI,decide_eq_true_iff];omega);obtain ⟨g,o,A4,c4,hA,_,hg,al,ai,am,an,ao,hh,_,_⟩:=qcg HO.out aT;have ap:O.getD k default∈O:=by
    rw [List.getD_eq_getElem?_getD,List.getElem?_eq_getElem (by have:=aG.out;omega)];exact List.getElem_mem _
   have aB:=(qak (HD.out _ ap)).1
   have ag:Hid (r=true↔tn=[]∧ts=0∧if (O.getD k default).ass=true then 2≤q∧q≤7 else q=ar (O.getD k default)):=z_ (by
    have h1:=HF.out;rw [Int.toNat_natCast] at h1;rw [h1]
    exact ⟨fun e=>e.2,fun e=>⟨aA,e⟩⟩)
   obtain ⟨⟨nm,D,a,b,u⟩,hx⟩:∃ x,x=O.getD k default:=⟨_,rfl⟩;rw [← hx] at al ai am an ao hh aB ag;simp only [] at al ai am an ao hh aB;have aj:=aa.out;rw [← aj.cell (p:=⟨g,o+k*5,none⟩) hg] at al;rw [← aj.cell (p:=⟨g,o+k*5+1,none⟩) hg] at ai;rw [← aj.cell (p:=⟨g,o+k*5+2,none⟩) hg] at am;rw [← aj.cell (p:=⟨g,o+k*5+3,none⟩) hg] at an;rw [← aj.cell (p:=⟨g,o+k*5+4,none⟩) hg] at ao;have aC:=z_ (fun V (hV:Below w.heap.size w V)=>qc4 nm D aB _ a b u V (hh.below qa7 n_ hV));obtain ⟨dl,aq⟩:=e_ (D.length);obtain ⟨ln,aI⟩:=e_ ((hd0 D).1.length);rw [← aq] at ai aC;rw [← aI] at aC;have aD:Hid (ar ⟨nm,D,a,b,u⟩=ln):=z_ aI.symm;have i1:(0:Int)≤(k:Int):=o_;have i2:(k:Int)<(m3:Int):=o_;subst hA;clear hr HF HR aA HI hb2 hx ap aB aq aI hh aj ac HO HD aG;have HI:=z_ (fun W r hr=>qc6 (k:Int) 0 ((m3:Int)-1) r hr W);have aP:=z_ (fun W r hr=>qc6 (q:Int) 2 7 r hr W);by_cases hn:tn=[]
   ·have e1:=(qen tn).2 hn
    have e2:(bstr tn).toList.isEmpty=true:=by rw [e1];rfl
    by_cases au:ts=0
    ·have aE:Hid (r=true↔if a=true then 2≤q∧q≤7 else q=ln):=z_ (by rw [ag.out,aD.out];exact ⟨fun e=>e.2.2,fun e=>⟨hn,au,e⟩⟩)
     subst au;subst hn;clear ag aD aF v1 v2;cases a with
     | false=>
      have HG:Hid (r=decide (q=ln)):=z_ (by rw [Bool.eq_iff_iff,aE.out,if_neg (by simp),decide_eq_true_iff]);have ae:((q:Int)==(ln:Int))=decide (q=ln):=by rw [Bool.eq_iff_iff];simp;omega
      have aU:(q==ln)=decide (q=ln):=by rw [Bool.eq_iff_iff];simp
      clear aE;obtain ⟨z,hz⟩:=e_ (decide (q=ln));have aQ:=hz.symm;rw [← hz] at HG ae aU;clear hz;cases z with
      | false=>
       have aV:¬ q=ln:=of_decide_eq_false aQ;have aW:¬ (q:Int)=(ln:Int):=o_;exact c54_
      | true=>
       obtain rfl:q=ln:=of_decide_eq_true aQ;exact c54_
     | true=>
      obtain ⟨z,hz⟩:∃ z,inI (q:Int) 2 7=z:=⟨_,rfl⟩;have HZ:=z_ hz;have HG:Hid (r=z):=z_ (by rw [Bool.eq_iff_iff,aE.out,if_pos rfl,← hz,inI,decide_eq_true_iff];omega);clear aE hz;cases z with
      | false=>
       exact c55_
      | true=>
       exact c55_
    ·have HG:Hid (r=false):=z_ (by cases hq:r with
      | false=>rfl
      | true=>exact absurd (ag.out.1 hq).2.1 au)
     have s1:(ts==0)=false:=by simp [au]
     have s2:decide (ts=0)=false:=decide_eq_false au;subst hn;exact c56_
   ·have HG:Hid (r=false):=z_ (by cases hq:r with
     | false=>rfl
     | true=>exact absurd (ag.out.1 hq).1 hn)
    have e1:¬ (bstr tn).toList=[]:=fun e=>hn ((qen _).1 e)
    have e2:(bstr tn).toList.isEmpty=false:=by
     cases hq:(bstr tn).toList with
     | nil=>exact absurd hq e1
     | cons _ _=>rfl
    exact c56_
  ·have ad:Hid (inI to 0 ((m3:Int)-1)=false):=z_ (by rw [inI,decide_eq_false_iff_not];omega)
   have HG:Hid (r=false):=z_ (by cases hq:r with
    | false=>rfl
    | true=>exact absurd (HF.out.1 hq).1 aA)
   clear hr HF aA HO HD aG HR;go_enter Tryz.func138,Tryz.ntmps138
   go_wp2_with fail
   rw [← hW];clear hW;exact c57_
end formnd

namespace formk
set_option maxRecDepth 50000
set_option maxHeartbeats 8000000
open mem setm sortm sortp sorti sortu sortg sigm sigs rowl trm terml termb termt termx sigk gram gramn grami
theorem qiq {P:List (List UInt8)}{Q:List (Int×Int)}{O:List OpM}(h:qad P Q O=true):1≤P.length∧P.length≤8∧PIn P.length Q∧Q.length≤32∧∀ p∈Q,p.1≠p.2:=by
 have hS:=(qa9 h).1;obtain ⟨p1,p2,p3,p4,p5⟩:=qax hS;exact ⟨p1,p2,p3,by omega,qAw hS⟩
def srtT (O:List OpM)(t:TermM):Int:=if t.op=-1 then t.sort else rs (O.getD t.op.toNat default)
def qd8 (P:List (List UInt8))(O:List OpM)(t:TermM):Prop:=if t.op=-1 then 0≤t.sort∧t.sort<P.length else 0≤t.op∧t.op<O.length
theorem c58_ {p:Prop}(h:p:=by
 go_wp2;go_ret;exact ⟨qaa (by first|(rw [HZ.out,List.getD_eq_getElem?_getD];done)|(rw [HZ.out,List.getD_eq_getElem?_getD,List.getElem?_eq_getElem o_];rfl)),an.out⟩
):p:=h
theorem qnd {N lo:Nat}(P:List (List UInt8))(Q:List (Int×Int))(O:List OpM)(ai:qad P Q O=true)(va vb vc:Value)(t:TermM)(ve:Value)(w:World)(h:HasG w va vb vc P Q O)(ht:HasTs N lo w ve t.args)(hR:qd8 P O t):
  Calls Tryz.prog 143 #[.agg #[va,vb,vc],aggT t ve] w fun e w'=>e=.returned (.int .i64 ((κK P.length Q (srtT O t):Nat):Int))∧Below w.heap.size w w':=by
 obtain ⟨p1,p2,p3,p4,p5⟩:=qiq ai;obtain ⟨_,aD,_,hd,_⟩:=qa9 ai;have ae:(kin P.length (prs Q)).length=P.length:=qia _ _;obtain ⟨B,cb,rfl,_⟩:=HasR.shape ht rfl;have af:=z_ (fun W (hW:Below w.heap.size w W)=>qcq P Q p1 p2 p4 p3 p5 va vb W (h.below n_ hW).s);obtain ⟨A1,c1,A2,c2,A3,c3,rfl,rfl,rfl,_,_,_,h'⟩:=h.shape;unfold aggT;unfold qd8 at hR;unfold srtT;obtain ⟨q,hq⟩:=e_ (t.args.length);obtain ⟨to,aj⟩:=e_ (t.op);obtain ⟨tn,aq⟩:=e_ (t.name);obtain ⟨ts,ak⟩:=e_ (t.sort);obtain ⟨n,hn⟩:=e_ (P.length);obtain ⟨m2,al⟩:=e_ (Q.length);obtain ⟨m3,ag⟩:=e_ (O.length);rw [← hn] at ae;rw [← aj,← ak,← hn,← ag] at hR;rw [← hq,← aj,← aq,← ak,← hn,← al,← ag];rw [← hn,← al] at af;obtain ⟨K,hK⟩:=e_ (kin n (prs Q));have hκ:∀ x,κK n Q x=K.getD x.toNat 0:=fun x=>by rw [κK,hK]
 rw [← hK] at af ae;have HO:Hid (HasO 0 w (.slice A3 m3 c3) O):=z_ (by rw [ag];exact h'.o)
 have HD:Hid (∀ k,k<m3→okD n (hd0 (O.getD k default).decls)=true∧1≤(O.getD k default).decls.length):=z_ (fun k hk=>by
  have h1:=qak (hd (O.getD k default) (by rw [List.getD_eq_getElem?_getD,List.getElem?_eq_getElem o_];exact List.getElem_mem _));rw [hn]
  exact ⟨h1.2.2.2,h1.1⟩)
 have au:=z_ hκ;clear h h' ht hq aj aq ak al ag ai hd hK hκ p3 p4 p5 hn p1 p2;obtain ⟨W,hW⟩:=e_ ((w.alloc (.cells #[.slice A1 n c1,.slice A2 m2 c2,.slice A3 m3 c3] 46)).alloc (.cells #[.int .i64 to,.string (bstr tn),.int .i64 ts,.slice B q cb] 38));have av:Below w.heap.size w W:=by
  rw [hW];exact v_
 have hX:Box34 w.heap.size (w.heap.size+1) (.slice A1 n c1) (.slice A2 m2 c2) (.slice A3 m3 c3) (.int .i64 to) (.string (bstr tn)) (.int .i64 ts) (.slice B q cb) W:=by
  rw [hW];exact ⟨box3 (qbh _ _ _),box4 (qa5 _ _ _ (by simp))⟩
 have HX:=z_ hX;obtain ⟨⟨x0,x1,x2⟩,y0,y1,y2,y3⟩:=hX;have ab:=z_ av;clear av;by_cases hv:to=-1
 ·rw [if_pos hv] at hR ⊢
  obtain ⟨z,rfl⟩:∃ z:Nat,ts=(z:Int):=⟨ts.toNat,by omega⟩;have HZ:Hid (κK n Q (z:Int)=K.getD z 0):=z_ (by rw [au.out,Int.toNat_natCast]);subst hv;go_enter Tryz.func143,Tryz.ntmps143
  go_wp2_with fail
  rw [← hW];clear hW;refine (af.out W ab.out).mono ?_;rintro e w2 ⟨kv,rfl,ac,hb2⟩;obtain ⟨KA,kc,rfl,ad⟩:=(Has.of_own ac).shape (n:=n) (by rw [qas,qac];exact ae);have am:=Box34.below HX.out hb2;have an:=z_ (ab.out.trans (hb2.mono ab.out.size));clear x0 x1 x2 y0 y1 y2 y3;obtain ⟨⟨x0,x1,x2⟩,y0,y1,y2,y3⟩:=am;obtain ⟨gk,ok,rfl,az,ao⟩:=ad.cellAt (j:=z) o_;rw [qag _ z (by rw [qac];omega),qat] at ao;have i1:(0:Int)≤(z:Int):=o_;have i2:(z:Int)<(n:Int):=o_;clear ac hb2 ad;exact c58_
 ·rw [if_neg hv] at hR ⊢
  obtain ⟨k,rfl⟩:∃ k:Nat,to=(k:Int):=⟨to.toNat,by omega⟩;have aw:k<m3:=o_;obtain ⟨g,o,A4,c4,hA,_,hg,_,ah,_,_,_,hh,_,_⟩:=qcg HO.out aw;obtain ⟨ap,aA⟩:=HD.out k aw;obtain ⟨gd,od,A5,c5,aB,_,aC,_,d1,_,_,_⟩:=qba hh (j:=0) o_;rw [Int.toNat_natCast]
  obtain ⟨z,hz⟩:∃ z:Nat,rs (O.getD k default)=(z:Int):=⟨(rs (O.getD k default)).toNat,by
   have:=(qaf ap).2.1;simp only [inN,decide_eq_true_eq] at this;unfold rs
   omega⟩
  have aE:z<n:=by
   have:=(qaf ap).2.1;simp only [inN,decide_eq_true_eq] at this;unfold rs at hz;omega
  have ax:((O.getD k default).decls.getD 0 default).2=(z:Int):=hz;rw [hz,show od+0*2+1=od+1 by omega] at *;rw [ax] at d1;obtain ⟨dl,ay⟩:=e_ ((O.getD k default).decls.length);rw [← ay] at ah aA;have HZ:Hid (κK n Q (z:Int)=K.getD z 0):=z_ (by rw [au.out,Int.toNat_natCast]);have i3:(0:Int)≤(k:Int):=o_;have i4:(k:Int)<(m3:Int):=o_;have i5:(0:Int)<(dl:Int):=o_;have v1:((k:Int)==-1)=false:=by first|(simp;done)|(simp;omega)
  have HC:Hid (w.cell? ⟨g,o+k*5+1,none⟩=some (.slice A4 dl c4)∧w.cell? ⟨gd,od+1,none⟩=some (.int .i64 z)):=z_ ⟨ah,d1⟩;subst hA;subst aB;clear ah d1 hh ap hz ax ay HD HO hR;go_enter Tryz.func143,Tryz.ntmps143
  go_wp2_with fail
  rw [← hW];clear hW;refine (af.out W ab.out).mono ?_;rintro e w2 ⟨kv,rfl,ac,hb2⟩;obtain ⟨KA,kc,rfl,ad⟩:=(Has.of_own ac).shape (n:=n) (by rw [qas,qac];exact ae);have am:=Box34.below HX.out hb2;have aa:=ab.out.trans (hb2.mono ab.out.size);have ah:=(aa.cell (p:=⟨g,o+k*5+1,none⟩) hg).trans HC.out.1;have d1:=(aa.cell (p:=⟨gd,od+1,none⟩) aC).trans HC.out.2;have an:=z_ aa;clear x0 x1 x2 y0 y1 y2 y3;obtain ⟨⟨x0,x1,x2⟩,y0,y1,y2,y3⟩:=am;obtain ⟨gk,ok,rfl,az,ao⟩:=ad.cellAt (j:=z) o_;rw [qag _ z (by rw [qac];omega),qat] at ao;have i1:(0:Int)≤(z:Int):=o_;have i2:(z:Int)<(n:Int):=o_;clear ac hb2 ad aa;exact c58_
theorem qne (P:List (List UInt8))(Q:List (Int×Int))(O:List OpM)(va vb vc:Value)(k:Nat)(hk:k<O.length)(_h14:O.length≤14)(hu:0≤(O.getD k default).unt∧(O.getD k default).unt≤14)(w:World)(h:HasG w va vb vc P Q O):
  Calls Tryz.prog 142 #[.agg #[va,vb,vc],.int .i64 (k:Int)] w fun e w'=>e=.returned (.tuple #[.agg #[.int .i64 (if (O.getD k default).unt=0 then 0 else (O.getD k default).unt-1),.string (bstr []),.int .i64 0,.slice none 0 0],.bool (!decide ((O.getD k default).unt=0))])∧Below w.heap.size w w':=by
 obtain ⟨A1,c1,A2,c2,A3,c3,rfl,rfl,rfl,_,_,_,h'⟩:=h.shape;obtain ⟨m1,ab⟩:=e_ (P.length);obtain ⟨m2,ac⟩:=e_ (Q.length);obtain ⟨m3,aa⟩:=e_ (O.length);have HO:HasO 0 w (.slice A3 m3 c3) O:=by rw [aa];exact h'.o
 rw [← ab,← ac,← aa];rw [← aa] at hk;obtain ⟨g,o,A4,c4,hA,_,hg,_,_,_,_,ad,_,_,_⟩:=qcg HO hk;obtain ⟨u,ae⟩:=e_ ((O.getD k default).unt);rw [← ae] at ad hu ⊢;subst hA;have i1:(0:Int)≤(k:Int):=o_;have i2:(k:Int)<(m3:Int):=o_;have hw:IntKind.i64.wrap (u-1)=u-1:=IntWalk.i64_in _ o_;have af:Below w.heap.size w (w.alloc (.cells #[.slice A1 m1 c1,.slice A2 m2 c2,.slice (some ⟨g,o,none⟩) m3 c3] 46)):=b_.alloc n_ _;have hz:=(af.cell (p:=⟨g,o+k*5+4,none⟩) hg).trans ad;clear h h' HO ab ac aa ae;by_cases h0:u=0
 ·subst h0
  go_enter Tryz.func142,Tryz.ntmps142
  go_wp2;refine bodyPost_ret (v:=.tuple #[.agg #[.int .i64 0,.string (bstr []),.int .i64 0,.slice none 0 0],.bool false]) (by simp [results,Tryz.results142,go_sem,bstr]) rfl ?_;exact ⟨rfl,by exact v_⟩
 ·have d1:(u==0)=false:=by simp [h0]
  have d2:decide (u=0)=false:=decide_eq_false h0;go_enter Tryz.func142,Tryz.ntmps142
  go_wp2;refine bodyPost_ret (v:=.tuple #[.agg #[.int .i64 (u-1),.string (bstr []),.int .i64 0,.slice none 0 0],.bool true]) (by simp [results,Tryz.results142,go_sem,bstr]) rfl ?_;exact ⟨rfl,by exact v_⟩
end formk
end Go.Proofs.YtiilamngcoegiaaGreat
