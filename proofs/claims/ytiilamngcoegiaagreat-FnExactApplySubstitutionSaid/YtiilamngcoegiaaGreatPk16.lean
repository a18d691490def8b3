/- parts -/
import Derived.Test.YtiilamngcoegiaaGreatTermsl
import Derived.Sort.OwnSorted
import Derived.Test.YtiilamngcoegiaaGreatPk09
import Derived.Deep.RegionLaw
namespace Go.Proofs.YtiilamngcoegiaaGreat
open Go.ChangeShapes Go.WideShapes Go.ChangeAt Go.RowKit
namespace termso
open mem rowl trm trmv terml termb termt
theorem qym {w:World}{g n:Nat}{os:Array Obj}{cur:Array Value}{e:TypeId}{fr:Nat×Nat}(F:Array Value)(hb:w.heap[g]? =some (.cells cur e fr)):
  (Sort.grow (Sort.putRow id (Sort.ahead w n) g 0 F) os).heap[g]? =some (.cells (Sort.putCells id 0 F cur) e fr):=by
 have hg:g<w.heap.size:=(q_ hb);show ((Sort.putRow id (Sort.ahead w n) g 0 F).heap++os)[g]? =_;rw [Array.getElem?_append_left (by simpa using hg)];simp [Sort.putRow,Sort.mapBlock,Sort.ahead,Array.getElem?_modify,hb,Sort.onCells]
theorem qnk {w:World}{g n:Nat}{os:Array Obj}(F:Array Value):Chg [g] w (Sort.grow (Sort.putRow id (Sort.ahead w n) g 0 F) os):=by
 refine ⟨rfl,rfl,rfl,by simp,fun k hk aa=>?_⟩;show ((Sort.putRow id (Sort.ahead w n) g 0 F).heap++os)[k]? =_;rw [Array.getElem?_append_left (by simpa using hk)];have:g≠k:=fun e=>aa (by rw [e];simp)
 simp [Sort.putRow,Sort.mapBlock,Sort.ahead,Array.getElem?_modify,this]
theorem qyn (cur F:Array Value)(h:F.size≤cur.size):(Sort.putCells id 0 F cur).toList.take F.size=F.toList:=by
 apply List.ext_getElem?
 intro j;by_cases hj:j<F.size
 ·rw [List.getElem?_take_of_lt hj,Array.getElem?_toList]
  simp [Sort.putCells,hj,show j<cur.size by omega]
 ·rw [List.getElem?_take_eq_none o_,List.getElem?_eq_none (by simp;omega)]
structure Elt (N lo:Nat) (w:World) where
 t:TermM
 v:Value
 h:HasTs N lo w v t.args
 b:Bnd t
 s:sizes t.args≤2097152
instance (N lo:Nat) (w:World):Inhabited (Elt N lo w):=⟨⟨.mk 0 [] 0 [],.slice none 0 0,HasR.nil _ _ _ (by unfold maxLen;omega) _,⟨by show ([]:List UInt8).length≤_;simp,by show I64 0;unfold I64;omega,by show I64 0;unfold I64;omega⟩,by show sizes []≤_;simp [sizes]⟩⟩
def encT {N lo:Nat}{w:World}(x:Elt N lo w):List Value:=[.int .i64 x.t.op,.string (bstr x.t.name),.int .i64 x.t.sort,x.v]
noncomputable def cfT {N lo:Nat}{w:World}(x y:Elt N lo w):Int:=cmp x.t y.t
theorem swoT (N lo:Nat)(w:World):Sort.SWO (ltOf (cfT (N:=N) (lo:=lo) (w:=w))) where
 irrefl x:=decide_eq_false (by rw [cfT,qxb];omega)
 trans x y z h1 h2:=by
  have aa:cmp x.t y.t<0:=of_decide_eq_true h1;have ab:cmp y.t z.t<0:=of_decide_eq_true h2;exact decide_eq_true (qm9 aa ab)
 ntrans x y z h1 h2:=by
  have aa:¬ cmp x.t y.t<0:=of_decide_eq_false h1;have ab:¬ cmp y.t z.t<0:=of_decide_eq_false h2;have a:=qbs x.t y.t;have b:=qbs y.t z.t;have c:=qbs x.t z.t;have d:=qdy z.t y.t x.t o_ o_;exact decide_eq_false (by rw [cfT];omega)
end termso

namespace termvx
open trm
theorem qlq {w:World}{base base' n:Nat}{e:TypeId}{size:Nat}{v:Value}{xs:List Value}(h:w.ownsRow base e size v n xs)(hb:base'≤base):w.ownsRow base' e size v n xs:=by
 refine ⟨h.1,?_⟩;rcases h.2 with h2|⟨g,cap,cur,hv,hg,r⟩
 ·exact .inl h2
 ·exact .inr ⟨g,cap,cur,hv,Nat.le_trans hb hg,r⟩
end termvx

namespace termin
open mem rowl trm terml termb
abbrev S4 (W:World)(x:Nat)(a:Int)(l:List UInt8)(s:Int)(w':World):Prop:=(w'.cell? ⟨x,0,none⟩=some (.int .i64 a)∧w'.cell? ⟨x,1,none⟩=some (.string (bstr l))∧w'.cell? ⟨x,2,none⟩=some (.int .i64 s)∧w'.cell? ⟨x,3,none⟩=some (.slice none 0 0))∧Below W.heap.size W w'
theorem S4.next {W w0 w1:World}{x:Nat}{a:Int}{l:List UInt8}{s:Int}(h:S4 W x a l s w0)(hx:x<W.heap.size)(hb:Below W.heap.size w0 w1):S4 W x a l s w1:=by
 have k:∀ y,w1.cell? ⟨x,y,none⟩=w0.cell? ⟨x,y,none⟩:=fun y=>hb.cell (p:=⟨x,y,none⟩) hx
 unfold S4;rw [k,k,k,k];exact ⟨h.1,h.2.trans hb⟩
theorem S4.al {W w0:World}{x:Nat}{a:Int}{l:List UInt8}{s:Int}(h:S4 W x a l s w0)(hx:x<W.heap.size){o:Obj}:S4 W x a l s (w0.alloc o):=h.next hx (b_.alloc h.2.size _)
theorem S4.ald {W w0:World}{x:Nat}{a:Int}{l:List UInt8}{s:Int}(h:S4 W x a l s w0.drew)(hx:x<W.heap.size){o:Obj}:S4 W x a l s (w0.alloc o).drew:=h.next hx ((Below.refl _ w0.drew).alloc h.2.size o)
theorem S4.grown {W w0 w1:World}{x g:Nat}{a:Int}{l:List UInt8}{s:Int}(h:S4 W x a l s w0)(hx:x<W.heap.size)(hg:w0.grownBy w1 (some g))(aa:W.heap.size≤g):S4 W x a l s w1:=
 h.next hx (b_.grown hg h.2.size (by intro k hk;cases hk;exact aa))
end termin
end Go.Proofs.YtiilamngcoegiaaGreat
