
import Derived.Test.YtiilamngcoegiaaGreatQPk02
import Derived.Deep.AppendLies
import Derived.Deep.Quiet
import Derived.Lib.QuietBelow
namespace Go.Proofs.YtiilamngcoegiaaGreat.termb
open Go.ChangeShapes Go.WideShapes Go.ChangeAt Go.RowKit
variable {w:World}{a:Act}
open mem rowl
structure GB (B:Nat) (w w':World):Prop where
 below:Below B w w'
 drawn:w.drawn≤w'.drawn
theorem GB.refl (B:Nat)(w:World):GB B w w:=⟨Below.refl _ _,Nat.le_refl _⟩
theorem GB.trans {B:Nat}{a b c:World}(h:GB B a b)(k:GB B b c):GB B a c:=⟨h.below.trans k.below,Nat.le_trans h.drawn k.drawn⟩
theorem GB.mono {B B':Nat}{w w':World}(h:GB B w w')(hB:B'≤B):GB B' w w':=⟨h.below.mono hB,h.drawn⟩
theorem GB.drew {B:Nat}{a w:World}(h:GB B a w):GB B a w.drew:=⟨h.below.drew,Nat.le_succ_of_le h.drawn⟩
theorem GB.drewN{B:Nat}{a:World}(h:GB B a w)(q:Nat):GB B a (w.drewN q):=⟨qa3 h.below q,Nat.le_trans h.drawn (Nat.le_add_right _ _)⟩
theorem GB.alloc {B:Nat}{a w:World}(h:GB B a w)(hB:B≤w.heap.size)(o:Obj):GB B a (w.alloc o):=⟨h.below.alloc hB o,h.drawn⟩
theorem GB.setCell {B:Nat}{a w:World}(h:GB B a w){p:Addr}(hp:B≤p.block)(u:Value):GB B a (w.setCell p u):=⟨h.below.setCell hp u,h.drawn⟩
theorem GB.grown {B:Nat}{a w w':World}{g:Nat}(h:GB B a w)(hg:w.grownBy w' (some g))(hd:w.drawn≤w'.drawn)(hB:B≤w.heap.size)(hr:B≤g):GB B a w':=
 ⟨h.below.grown hg hB (fun k hk=>by cases hk;exact hr),Nat.le_trans h.drawn hd⟩
theorem GB.grow {w w':World}(h:GB w.heap.size w w'):∃ q aa,w'=Go.Sort.grow (w.drewN q) aa:=by
 obtain ⟨p,hp⟩:=regrown_of_below h.below;refine ⟨w'.drawn-w.drawn,p.os,?_⟩;have hd:=h.drawn;have e:p.d=w'.drawn:=by rw [hp];rfl
 rw [hp];unfold Go.Sort.grow redrawn World.drewN;simp only [World.mk.injEq,true_and,and_true];show p.d=w.drawn+(p.d-w.drawn);omega
theorem qdu{base n m g cap size:Nat}{e:TypeId}{xs:List Value}(h:w.ownsRow base e size (.slice (some ⟨g,0,none⟩) n cap) n xs)(hm:m≤n):
  w.ownsRow base e size (.slice (some ⟨g,0,none⟩) m cap) m (xs.take (m*size)):=by
 have aa:m*size≤n*size:=Nat.mul_le_mul_right _ hm;refine ⟨by rw [List.length_take,h.1];omega,?_⟩;rcases h.2 with ⟨h',_⟩|⟨g',cap',cur,h',hb,hg,hnc,hcm,hcs,htake⟩
 ·cases h'
 ·simp only [Value.slice.injEq,Option.some.injEq,Addr.mk.injEq,and_true,true_and] at h'
  obtain ⟨rfl,rfl⟩:=h';exact .inr ⟨g,cap,cur,rfl,hb,hg,by omega,hcm,hcs,by rw [← htake,List.take_take];congr 1;omega⟩
section
variable {P:Program} {w:World}
theorem qhb (base:Nat)(t ty e:TypeId)(i:TypeInfo)(z:Value)(size ab:Nat)(ht:P.underlying t=some (.slice e))(hi:P.info? e=some i)(hz:i.zero=some z)(af:i.size=size)(aj:i.bytes=ab)(al:z.cells.size=size)(hsz:0<size)(g n cap:Nat)(xs:List Value)(hown:w.ownsRow base e size (.slice (some ⟨g,0,none⟩) n cap) n xs)(ad:Addr)(m c:Nat)(aa:List Value)(hl:aa.length=m*size)(ac:∀ j u,aa[j]? =some u→w.cell? (ad.add j)=some u)(h1:∀ u∈aa,u.oneCell'=true)(ak:n+m≤maxLen)(ae:(n+m)*ab≤140737488355328)(ah:base≤w.heap.size):
  ∃ g' cap' w',(Builtin.append_ #[t,t] ty #[.slice (some ⟨g,0,none⟩) n cap,.slice (some ad) m c]).run P w=.ok (.slice (some ⟨g',0,none⟩) (n+m) cap') w'∧w'.ownsRow base e size (.slice (some ⟨g',0,none⟩) (n+m) cap') (n+m) (xs++aa)∧
   w.grownBy w' (some g)∧(g'=g∨g'=w.heap.size)∧g'<w'.heap.size∧w.drawn≤w'.drawn:=by
 obtain ⟨v',w',hr,h2,h3,h4,h5⟩:=run_append_own_at (P:=P) (w:=w) base t ty e i z size ab ht hi hz af aj al hsz _ n xs hown ad m c aa hl ac h1 ak ae ah;have hd:w.drawn≤w'.drawn:=by
  rcases hown.2 with ⟨h',_⟩|⟨g',cap',cur,h',hb,hg,hnc,hcm,hcs,htake⟩
  ·cases h'
  ·simp only [Value.slice.injEq,Option.some.injEq,Addr.mk.injEq,and_true,true_and] at h'
   obtain ⟨rfl,rfl⟩:=h';subst af aj;by_cases ag:n+m≤cap
   ·have ai:=run_append_room (P:=P) w t ty e i ht hi g n cap cur hg ad m c aa hl ac h1 ag (by rw [hl,hcs,← Nat.add_mul];exact Nat.mul_le_mul_right _ ag)
    rw [hr] at ai;injection ai with _ e2
    rw [e2];exact Nat.le_refl _
   ·have ai:=run_append_grow (P:=P) w t ty e i z ht hi hz ⟨g,0,none⟩ n cap xs hown.1 (hown.cells (g:=g) rfl) ad m c aa hl ac o_ (by unfold maxLen at ak;omega) (growslice_fits o_ ae)
    rw [hr] at ai;injection ai with _ e2
    rw [e2];exact Nat.le_succ _
 have am:v'≠.slice none 0 0:=fun e=>by have:=(h4.1 e).1;cases this
 rcases h2.2 with ⟨h',_⟩|⟨g',cap',cur,h',hb,hg,hnc,hcm,hcs,htake⟩
 ·exact absurd h' am
 ·subst h'
  refine ⟨g',cap',w',hr,h2,h3,?_,(q_ hg),hd⟩;simpa [Value.ownBlock] using h5
theorem step_append_d{ah:Array Oper}{o:Oper}{K:Act→World→Prop}{Q:Exit→Act→World→Prop}{E:Prop}(ai:o.guard=none)(s x:Operand)(t:TypeId)(ho:o.op=.call { callee:=.builtin .append,args:=#[s,x],argTypes:=#[t,t] })(base:Nat)(e:TypeId)(i:TypeInfo)(z:Value)(size aa:Nat)(ht:P.underlying t=some (.slice e))(hi:P.info? e=some i)(hz:i.zero=some z)(ae:i.size=size)(aj:i.bytes=aa)(ak:z.cells.size=size)(hsz:0<size)(g n cap:Nat)(xs:List Value)(hs:a.eval s=.slice (some ⟨g,0,none⟩) n cap)(hown:w.ownsRow base e size (.slice (some ⟨g,0,none⟩) n cap) n xs)(ad:Addr)(m c:Nat)(ab:List Value)(hx:a.eval x=.slice (some ad) m c)(hl:ab.length=m*size)(af:∀ j u,ab[j]? =some u→w.cell? (ad.add j)=some u)(h1:∀ u∈ab,u.oneCell'=true)(al:n+m≤maxLen)(ac:(n+m)*aa≤140737488355328)(ag:base≤w.heap.size)(h:∀ g' cap' w',w'.ownsRow base e size (.slice (some ⟨g',0,none⟩) (n+m) cap') (n+m) (xs++ab)→w.grownBy w' (some g)→(g'=g∨g'=w.heap.size)→g'<w'.heap.size→w.drawn≤w'.drawn→K (a.put o.dst (.slice (some ⟨g',0,none⟩) (n+m) cap')) w'):
  if Region.wanted o (yielded ah a.tmps)=true then Oper.wp P o a w K Q else E:=by
 have hw:Region.wanted o (yielded ah a.tmps)=true:=by simp [Region.wanted,ai]
 rw [if_pos hw];obtain ⟨g',cap',w',hr,h2,h3,h4,h5,h6⟩:=qhb (P:=P) (w:=w) base t o.type e i z size aa ht hi hz ae aj ak hsz g n cap xs hown ad m c ab hl af h1 al ac ag;unfold Oper.wp execOp;simp only [ho,resolve,invoke,builtin,Sem.run_bind,Sem.run_pure,Result.andThen_ok,List.map_toArray,List.map_cons,List.map_nil,hs,hx,hr];exact h _ _ _ h2 h3 h4 h5 h6
theorem wpList_append_d{ah:Array Oper}{rest:List Oper}{o:Oper}{Q:Exit→Act→World→Prop}(ai:o.guard=none)(s x:Operand)(t:TypeId)(ho:o.op=.call { callee:=.builtin .append,args:=#[s,x],argTypes:=#[t,t] })(base:Nat)(e:TypeId)(i:TypeInfo)(z:Value)(size aa:Nat)(ht:P.underlying t=some (.slice e))(hi:P.info? e=some i)(hz:i.zero=some z)(ae:i.size=size)(aj:i.bytes=aa)(ak:z.cells.size=size)(hsz:0<size)(g n cap:Nat)(xs:List Value)(hs:a.eval s=.slice (some ⟨g,0,none⟩) n cap)(hown:w.ownsRow base e size (.slice (some ⟨g,0,none⟩) n cap) n xs)(ad:Addr)(m c:Nat)(ab:List Value)(hx:a.eval x=.slice (some ad) m c)(hl:ab.length=m*size)(af:∀ j u,ab[j]? =some u→w.cell? (ad.add j)=some u)(h1:∀ u∈ab,u.oneCell'=true)(al:n+m≤maxLen)(ac:(n+m)*aa≤140737488355328)(ag:base≤w.heap.size)(h:∀ g' cap' w',w'.ownsRow base e size (.slice (some ⟨g',0,none⟩) (n+m) cap') (n+m) (xs++ab)→w.grownBy w' (some g)→(g'=g∨g'=w.heap.size)→g'<w'.heap.size→w.drawn≤w'.drawn→wpList P ah Q rest (a.put o.dst (.slice (some ⟨g',0,none⟩) (n+m) cap')) w'):
  wpList P ah Q (o::rest) a w:=by
 refine wpList_plain ai fun K hK=>?_
 obtain ⟨g',cap',w',hr,h2,h3,h4,h5,h6⟩:=qhb (P:=P) (w:=w) base t o.type e i z size aa ht hi hz ae aj ak hsz g n cap xs hown ad m c ab hl af h1 al ac ag;unfold Oper.wp execOp;simp only [ho,resolve,invoke,builtin,Sem.run_bind,Sem.run_pure,Result.andThen_ok,List.map_toArray,List.map_cons,List.map_nil,hs,hx,hr];exact hK _ _ (h _ _ _ h2 h3 h4 h5 h6)
end
structure BoxC (C:World→Prop) where
 W:World
 h:C W
theorem qa1{P:Program}{C:World→Prop}{id:Nat}{Q:Exit→Act→World→Prop}{l:List Oper}(hm:P.follows .mixedOrders=true)(hB:Region.lexB .any l.toArray=true)(hC:C w.drew)(h:wpQuiet P l.toArray (fun w'=>∃ t:BoxC C,w'=t.W) (fun a'=>∀ w',(∃ t:BoxC C,w'=t.W)→Q .normal a' w') l a):(Code.region id l.toArray true).wp P Q a w:=
 wp_region_quiet (C:=fun w'=>∃ t:BoxC C,w'=t.W) hm hB ⟨⟨_,hC⟩,rfl⟩ Bg_
theorem BoxC.cell {W:World}(t:BoxC (Below W.heap.size W)){g o:Nat}{v:Value}(h:W.cell? ⟨g,o,none⟩=some v)(hg:g<W.heap.size):t.W.cell? ⟨g,o,none⟩=some v:=(t.h.cell (p:=⟨g,o,none⟩) hg).trans h
theorem BoxC.step{W0:World}(t:BoxC (Below W0.heap.size W0)){w':World}(h:Below t.W.heap.size t.W w'):∃ t':BoxC (Below W0.heap.size W0),w'=t'.W:=⟨⟨w',t.h.trans (h.mono t.h.size)⟩,rfl⟩
theorem qig (a b:List UInt8):Op.bytesLess (bstr a).toList (bstr b).toList=trm.qbp a b:=by
 have h:∀ l,(bstr l).toList=l:=fun l=>by rw [ByteArray.toList_eq];exact qfb l
 rw [h,h];induction a generalizing b with
 | nil=>cases b<;>simp [Op.bytesLess,trm.qbp]
 | cons x l ih=>
  cases b with
  | nil=>simp [Op.bytesLess,trm.qbp]
  | cons y m=>
   simp only [Op.bytesLess,trm.qbp,ih];by_cases e:x=y
   ·subst e;simp
   ·simp [e]
end Go.Proofs.YtiilamngcoegiaaGreat.termb
