/- parts -/
import Derived.Test.YtiilamngcoegiaaGreatQZa
import Derived.Test.YtiilamngcoegiaaGreatRows
import Derived.WalkKit
import Derived.WalkLawsBesides
import Derived.WalkSpells
import Derived.ProofKit
import Derived.Lib.Hide
import Derived.Laws.BitsLemmas
import Derived.OwnWalk
namespace Go.Proofs.YtiilamngcoegiaaGreat
open Go.ChangeShapes Go.WideShapes Go.ChangeAt Go.RowKit
variable {n lo base i j k g c B s cap lo' r:Nat}{w w':World}{P:List (Nat×Nat)}{xs ys:List Value}{v a b d:Value}{e:TypeId}{p q:Nat×Nat}{A:Option Addr}{U:List Nat}
namespace mem
open Go.RowKit
theorem qan{k:IntKind}{a b:Int}(h:a=b):Ending.returned (.int k a)=.returned (.int k b):=by rw [h]
theorem qa0{a b:Bool}(h:a=b):Ending.returned (.bool a)=.returned (.bool b):=by rw [h]
def bstr (l:List UInt8):ByteArray:=⟨l.toArray⟩
theorem qbj (l:List UInt8):(bstr l).size=l.length:=by simp [bstr,ByteArray.size]
theorem qfb (l:List UInt8):(bstr l).data.toList=l:=by simp [bstr]
theorem qbk (s:ByteArray):bstr s.data.toList=s:=by cases s;simp [bstr]
theorem qxg{a b:List UInt8}(h:bstr a=bstr b):a=b:=by simpa [bstr] using h
theorem qa4{size:Nat}(h:w.ownsRow base e size (.slice (some ⟨g,0,none⟩) n cap) n xs)(j:Nat)(u:Value):
  (w.setCell ⟨g,j,none⟩ u).ownsRow base e size (.slice (some ⟨g,0,none⟩) n cap) n (xs.set j u):=(h.stored j u).1
theorem qbt{P:Program}(w:World){t:TypeId}{k:IntKind}(h:P.underlying t=some .string){l:List UInt8}(hi:i<l.length):
  (Instr.index t (.string (bstr l)) (.int k (i:Int))).run P w=.ok (.int .u8 ((l.getD i 0).toNat:Int)) w:=by
 rw [run_index_string w t _ k _ h];have h1:i<(bstr l).size:=by rw [qbj];exact hi
 simp [h1,hi];rfl
theorem qfc{a b:List UInt8}:((bstr a).toList==(bstr b).toList)=decide (a=b):=by
 have h:∀ l,(bstr l).toList=l:=fun l=>by rw [ByteArray.toList_eq];exact qfb l
 rw [h,h,Bool.eq_iff_iff];simp
theorem qfn (w:World)(u:Value)(t:TypeId):∀ (j:Nat) (x:Value),[u][j]? =some x→(w.alloc (.cells #[u] t)).cell? ((⟨w.heap.size,0,none⟩:Addr).add j)=some x:=by
 intro j x hj;match j,hj with
 | 0,hj=>simp at hj;subst hj;simp [Addr.add]
theorem qgn (u:Value)(h:u.oneCell'=true):∀ x∈[u],x.oneCell'=true:=by
 intro x hx;simp at hx;subst hx;exact h
def Has (w:World)(v:Value)(xs:List Value):Prop:=
 ∃ A c,v=.slice A xs.length c∧xs.length≤c∧c≤maxLen∧∀ j u,xs[j]? =some u→∃ g o,A=some ⟨g,o,none⟩∧g<w.heap.size∧w.cell? ⟨g,o+j,none⟩=some u
theorem Has.below (h:Has w v xs)(hB:w.heap.size≤B)(hb:Below B w w'):Has w' v xs:=by
 obtain ⟨A,c,rfl,h1,h2,h3⟩:=h;refine ⟨A,c,rfl,h1,h2,fun j u hu=>?_⟩;obtain ⟨g,o,e,hg,hc⟩:=h3 j u hu;exact ⟨g,o,e,w_ hg hb.size,(hb.cell (p:=⟨g,o+j,none⟩) (by show g<B;omega)).trans hc⟩
theorem Has.of_own (h:w.ownsRow base e 1 v n xs):Has w v xs:=by
 have hl:xs.length=n:=by have:=h.1;omega
 rcases h.2 with ⟨rfl,rfl⟩|⟨g,cap,cur,rfl,hb,hg,hnc,hcm,hcs,htake⟩
 ·have:xs=[]:=List.eq_nil_of_length_eq_zero hl
  subst this;exact ⟨none,0,rfl,Nat.le_refl _,by unfold maxLen;omega,fun j u hu=>by simp at hu⟩
 ·refine ⟨_,cap,by rw [hl],by omega,hcm,fun j u hu=>⟨g,0,rfl,?_,?_⟩⟩
  ·exact (q_ hg)
  ·have hj:j<n:=by have:=(List.getElem?_eq_some_iff.1 hu).1;omega
   rw [Nat.zero_add,h.cellAt j o_,hu]
theorem Has.cellAt (h:Has w (.slice A n c) xs)(hj:j<n):∃ g o,A=some ⟨g,o,none⟩∧g<w.heap.size∧w.cell? ⟨g,o+j,none⟩=some (xs.getD j undef):=by
 obtain ⟨A',c',e,h1,h2,h3⟩:=h;simp only [Value.slice.injEq] at e;obtain ⟨rfl,rfl,rfl⟩:=e;obtain ⟨g,o,e,hg,hc⟩:=h3 j _ (List.getElem?_eq_getElem hj);exact ⟨g,o,e,hg,by rw [hc];simp [List.getD,List.getElem?_eq_getElem hj]⟩
theorem Has.len (h:Has w (.slice A n c) xs):n=xs.length∧n≤9223372036854775807:=by
 obtain ⟨A',c',e,h1,h2,_⟩:=h;simp only [Value.slice.injEq] at e;obtain ⟨rfl,rfl,rfl⟩:=e;unfold maxLen at h2;exact ⟨rfl,by omega⟩
theorem Has.shape (h:Has w v xs)(hn:xs.length=n):∃ A c,v=.slice A n c∧Has w (.slice A n c) xs:=by
 subst hn;obtain ⟨A,c,rfl,h'⟩:=h;exact ⟨A,c,rfl,A,c,rfl,h'⟩
theorem own_below{size:Nat}(h:w.ownsRow base e size v n xs)(hb:Below w.heap.size w w'):w'.ownsRow base e size v n xs:=by
 refine ⟨h.1,?_⟩;rcases h.2 with h2|⟨g,cap,cur,hv,hg,hh,r⟩
 ·exact .inl h2
 ·exact .inr ⟨g,cap,cur,hv,hg,by rw [hb.block g (q_ hh)];exact hh,r⟩
theorem qax{a:World}(h:a.grownBy w (some g))(j:Nat)(u:Value):a.grownBy (w.setCell ⟨g,j,none⟩ u) (some g):=
 ⟨h.os,h.tape,h.output,by simpa [World.setCell] using h.size,fun k hk aa=>(Below.heap_setCell w ⟨g,j,none⟩ u k (fun e=>aa (by rw [e]))).trans (h.block k hk aa)⟩
theorem qa3{a:World}(h:Below B a w)(n:Nat):Below B a (w.drewN n):=⟨h.os,h.tape,h.output,h.size,h.block⟩
theorem qb7{size:Nat}(h:w.ownsRow base e size v n xs):∀ k,v.ownBlock=some k→base≤k:=by
 rcases h.2 with ⟨rfl,_⟩|⟨g,cap,cur,rfl,hb,_⟩
 ·intro k hk;simp [Value.ownBlock] at hk
 ·intro k hk;simp [Value.ownBlock] at hk;omega
theorem qce{size:Nat}(h:w.ownsRow base e size v n xs)(hn:xs≠[]):
  ∃ g cap,v=.slice (some ⟨g,0,none⟩) n cap∧base≤g∧g<w.heap.size:=by
 rcases h.2 with ⟨_,hx⟩|⟨g,cap,cur,hv,hg,hh,r⟩
 ·exact absurd (List.eq_nil_of_length_eq_zero (by rw [h.1,hx,Nat.zero_mul])) hn
 ·exact ⟨g,cap,hv,hg,(q_ hh)⟩
theorem qb8{size:Nat}(h:w.ownsRow base e size v n xs)(hg:w.grownBy w' (some g))(aa:g<base):w'.ownsRow base e size v n xs:=by
 refine ⟨h.1,?_⟩;rcases h.2 with h2|⟨k,cap,cur,hv,hk,hh,r⟩
 ·exact .inl h2
 ·exact .inr ⟨k,cap,cur,hv,hk,by rw [hg.block k (q_ hh) (fun e=>by injection e;omega)];exact hh,r⟩
theorem qaz{size:Nat}(h:w.ownsRow base e size v n xs):∃ A cap,v=.slice A n cap∧n≤cap:=by
 rcases h.2 with ⟨hv,hx⟩|⟨g,cap,cur,hv,hg,hh,hc,r⟩
 ·subst hx;exact ⟨_,_,hv,Nat.le_refl _⟩
 ·exact ⟨_,_,hv,hc⟩
end mem

namespace rowl
open mem
def I64 (x:Int):Prop:=-9223372036854775808≤x∧x≤9223372036854775807
def Kept (lo:Nat)(w w':World):Prop:=w.heap.size≤w'.heap.size∧∀ k,lo≤k→k<w.heap.size→w'.heap[k]? =w.heap[k]?
theorem Kept.refl (lo:Nat)(w:World):Kept lo w w:=⟨Nat.le_refl _,fun _ _ _=>rfl⟩
theorem Kept.trans {lo:Nat}{w w' aa:World}(h:Kept lo w w')(h':Kept lo w' aa):Kept lo w aa:=
 ⟨Nat.le_trans h.1 h'.1,fun k hk ab=>(h'.2 k hk (w_ ab h.1)).trans (h.2 k hk ab)⟩
theorem Kept.mono (h:Kept lo w w')(hl:lo≤lo'):Kept lo' w w':=⟨h.1,fun k hk=>h.2 k (Nat.le_trans hl hk)⟩
theorem Kept.below (hb:Below B w w')(hB:w.heap.size≤B):Kept lo w w':=⟨hb.size,fun k _ aa=>hb.block k (w_ aa hB)⟩
theorem Kept.set{p:Addr}(hp:p.block<lo)(u:Value):Kept lo w (w.setCell p u):=
 ⟨by simp [World.setCell],fun k hk _=>Below.heap_setCell w p u k o_⟩
theorem Kept.grown (h:w.grownBy w' (some g))(hg:g<lo):Kept lo w w':=⟨h.size,fun k hk aa=>h.block k aa (fun e=>by injection e;omega)⟩
theorem Kept.cell {lo:Nat}{w w':World}(h:Kept lo w w'){g o:Nat}(hg:lo≤g)(aa:g<w.heap.size):w'.cell? ⟨g,o,none⟩=w.cell? ⟨g,o,none⟩:=
 World.cell?_of_block (w:=w) (h.2 g hg aa)
def HasL (lo:Nat)(w:World)(v:Value)(xs:List Value):Prop:=
 ∃ A c,v=.slice A xs.length c∧xs.length≤c∧c≤maxLen∧∀ j u,xs[j]? =some u→∃ g o,A=some ⟨g,o,none⟩∧lo≤g∧g<w.heap.size∧w.cell? ⟨g,o+j,none⟩=some u
theorem HasL.has (h:HasL lo w v xs):Has w v xs:=by
 obtain ⟨A,c,rfl,h1,h2,h3⟩:=h;exact ⟨A,c,rfl,h1,h2,fun j u hu=>by obtain ⟨g,o,e,_,hg,hc⟩:=h3 j u hu;exact ⟨g,o,e,hg,hc⟩⟩
theorem HasL.kept (h:HasL lo w v xs)(hk:Kept lo w w'):HasL lo w' v xs:=by
 obtain ⟨A,c,rfl,h1,h2,h3⟩:=h;refine ⟨A,c,rfl,h1,h2,fun j u hu=>?_⟩;obtain ⟨g,o,e,hl,hg,hc⟩:=h3 j u hu;exact ⟨g,o,e,hl,w_ hg hk.1,(hk.cell hl hg).trans hc⟩
theorem HasL.mono (h:HasL lo w v xs)(hl:lo'≤lo):HasL lo' w v xs:=by
 obtain ⟨A,c,rfl,h1,h2,h3⟩:=h;exact ⟨A,c,rfl,h1,h2,fun j u hu=>by obtain ⟨g,o,e,h4,hg,hc⟩:=h3 j u hu;exact ⟨g,o,e,Nat.le_trans hl h4,hg,hc⟩⟩
theorem HasL.of_own (h:w.ownsRow base e 1 v n xs):HasL base w v xs:=by
 have hl:xs.length=n:=by have:=h.1;omega
 rcases h.2 with ⟨rfl,rfl⟩|⟨g,cap,cur,rfl,hb,hg,hnc,hcm,hcs,htake⟩
 ·have:xs=[]:=List.eq_nil_of_length_eq_zero hl
  subst this;exact ⟨none,0,rfl,Nat.le_refl _,by unfold maxLen;omega,fun j u hu=>by simp at hu⟩
 ·refine ⟨_,cap,by rw [hl],by omega,hcm,fun j u hu=>⟨g,0,rfl,hb,(q_ hg),?_⟩⟩
  have hj:j<n:=by have:=(List.getElem?_eq_some_iff.1 hu).1;omega
  rw [Nat.zero_add,h.cellAt j o_,hu]
section
variable {α:Type} [Inhabited α]
abbrev qhq (α:Type):=Nat→World→List Value→α→Prop
def HasR (R:qhq α)(k:Nat)(lo:Nat)(w:World)(v:Value)(L:List α):Prop:=
 ∃ A c,v=.slice A L.length c∧L.length≤c∧c≤maxLen∧∀ j,j<L.length→∃ g o cs,A=some ⟨g,o,none⟩∧lo≤g∧g<w.heap.size∧
  (∀ i,i<k→w.cell? ⟨g,o+j*k+i,none⟩=some (cs.getD i undef))∧R lo w cs (L.getD j default)
structure Steady (R:qhq α):Prop where
 kept:∀ {lo w w' cs x},R lo w cs x→Kept lo w w'→R lo w' cs x
 mono:∀ {lo lo' w cs x},R lo w cs x→lo'≤lo→R lo' w cs x
variable {R:qhq α} {k:Nat}
theorem HasR.kept (hR:Steady R){lo:Nat}{w w':World}{v:Value}{L:List α}(h:HasR R k lo w v L)(hk:Kept lo w w'):HasR R k lo w' v L:=by
 obtain ⟨A,c,rfl,h1,h2,h3⟩:=h;refine ⟨A,c,rfl,h1,h2,fun j hj=>?_⟩;obtain ⟨g,o,cs,e,hl,hg,hc,hr⟩:=h3 j hj;exact ⟨g,o,cs,e,hl,w_ hg hk.1,fun i hi=>(hk.cell hl hg).trans (hc i hi),hR.kept hr hk⟩
theorem HasR.mono (hR:Steady R){lo lo':Nat}{w:World}{v:Value}{L:List α}(h:HasR R k lo w v L)(hl:lo'≤lo):HasR R k lo' w v L:=by
 obtain ⟨A,c,rfl,h1,h2,h3⟩:=h;refine ⟨A,c,rfl,h1,h2,fun j hj=>?_⟩;obtain ⟨g,o,cs,e,h4,hg,hc,hr⟩:=h3 j hj;exact ⟨g,o,cs,e,Nat.le_trans hl h4,hg,hc,hR.mono hr hl⟩
theorem HasR.below (hR:Steady R){lo:Nat}{w w':World}{v:Value}{L:List α}(h:HasR R k lo w v L){B:Nat}(hB:w.heap.size≤B)(hb:Below B w w'):HasR R k lo w' v L:=h.kept hR (Kept.below hb hB)
theorem HasR.shape{L:List α}(h:HasR R k lo w v L)(hn:L.length=n):∃ A c,v=.slice A n c∧HasR R k lo w (.slice A n c) L:=by
 subst hn;obtain ⟨A,c,rfl,h'⟩:=h;exact ⟨A,c,rfl,A,c,rfl,h'⟩
theorem HasR.len{L:List α}(h:HasR R k lo w (.slice A n c) L):n=L.length∧n≤9223372036854775807∧n≤c:=by
 obtain ⟨A',c',e,h1,h2,_⟩:=h;simp only [Value.slice.injEq] at e;obtain ⟨rfl,rfl,rfl⟩:=e;unfold maxLen at h2;exact ⟨rfl,by omega,h1⟩
theorem HasR.get{L:List α}(h:HasR R k lo w (.slice A n c) L)(hj:j<n):
  ∃ g o cs,A=some ⟨g,o,none⟩∧lo≤g∧g<w.heap.size∧(∀ i,i<k→w.cell? ⟨g,o+j*k+i,none⟩=some (cs.getD i undef))∧R lo w cs (L.getD j default):=by
 obtain ⟨A',c',e,h1,h2,h3⟩:=h;simp only [Value.slice.injEq] at e;obtain ⟨rfl,rfl,rfl⟩:=e;exact h3 j hj
theorem HasR.tail {lo:Nat}{w:World}{g o n c:Nat}{L:List α}(h:HasR R k lo w (.slice (some ⟨g,o,none⟩) n c) L)(hn:1≤n):
  HasR R k lo w (.slice (some ⟨g,o+k,none⟩) (n-1) (c-1)) L.tail:=by
 obtain ⟨hl,_,hc⟩:=h.len;obtain ⟨A',c',e,h1,h2,h3⟩:=h;simp only [Value.slice.injEq] at e;obtain ⟨rfl,rfl,rfl⟩:=e;refine ⟨_,_,by rw [List.length_tail],by rw [List.length_tail];omega,by omega,fun j hj=>?_⟩;rw [List.length_tail] at hj;obtain ⟨g',o',cs,e,aa,hg,hc,hr⟩:=h3 (j+1) o_;simp only [Option.some.injEq,Addr.mk.injEq,and_true] at e;obtain ⟨rfl,rfl⟩:=e;refine ⟨g,o+k,cs,rfl,aa,hg,fun i hi=>?_,?_⟩
 ·rw [← hc i hi,show o+k+j*k+i=o+(j+1)*k+i by rw [Nat.add_mul];omega]
 ·have:L.tail.getD j default=L.getD (j+1) default:=by cases L<;>simp
  rw [this];exact hr
theorem HasR.nil (lo:Nat)(w:World)(c:Nat)(hc:c≤maxLen)(A:Option Addr):HasR R k lo w (.slice A 0 c) ([]:List α):=⟨A,c,rfl,y_,hc,fun j hj=>by simp at hj⟩
theorem HasR.of_own{L:List α}(h:w.ownsRow base e k v n xs)(hL:L.length=n)(hx:∀ j,j<n→∃ cs,(∀ i,i<k→xs[j*k+i]? =some (cs.getD i undef))∧R base w cs (L.getD j default)):HasR R k base w v L:=by
 rcases h.2 with ⟨rfl,rfl⟩|⟨g,cap,cur,rfl,hb,hg,hnc,hcm,hcs,htake⟩
 ·have:L=[]:=List.eq_nil_of_length_eq_zero hL
  subst this;exact HasR.nil _ _ _ Aa_ _
 ·refine ⟨_,cap,by rw [hL],by omega,hcm,fun j hj=>?_⟩
  obtain ⟨cs,h1,h2⟩:=hx j o_;refine ⟨g,0,cs,rfl,hb,(q_ hg),fun i hi=>?_,h2⟩;have aa:(j+1)*k≤n*k:=Nat.mul_le_mul_right k o_;rw [Nat.add_mul] at aa;rw [Nat.zero_add,h.cellAt (j*k+i) o_];exact h1 i hi
theorem HasR.map{R':qhq α}(hR:∀ {lo w cs x},R lo w cs x→R' lo w cs x){L:List α}(h:HasR R k lo w v L):HasR R' k lo w v L:=by
 obtain ⟨A,c,rfl,h1,h2,h3⟩:=h;refine ⟨A,c,rfl,h1,h2,fun j hj=>?_⟩;obtain ⟨g,o,cs,e,h4,hg,hc,hr⟩:=h3 j hj;exact ⟨g,o,cs,e,h4,hg,hc,hR hr⟩
end
theorem qxh{p:Nat}{c e:Value}(h:i<p∨p+5≤i):(((((ys.set p a).set (p+1) b).set (p+2) c).set (p+3) d).set (p+4) e)[i]? =ys[i]? := by
 rw [List.getElem?_set_ne o_,List.getElem?_set_ne o_,List.getElem?_set_ne o_,List.getElem?_set_ne o_,List.getElem?_set_ne o_]
theorem qxi{p:Nat}{c e:Value}(h:p+5≤ys.length):∀ i,i<5→(((((ys.set p a).set (p+1) b).set (p+2) c).set (p+3) d).set (p+4) e)[p+i]? =some ([a,b,c,d,e].getD i undef):=by
 intro i hi;match i,hi with
 | 0,_=>rw [List.getElem?_set_ne o_,List.getElem?_set_ne o_,List.getElem?_set_ne o_,List.getElem?_set_ne o_,Nat.add_zero,List.getElem?_set_self o_];rfl
 | 1,_=>rw [List.getElem?_set_ne o_,List.getElem?_set_ne o_,List.getElem?_set_ne o_,List.getElem?_set_self (by simp;omega)];rfl
 | 2,_=>rw [List.getElem?_set_ne o_,List.getElem?_set_ne o_,List.getElem?_set_self (by simp;omega)];rfl
 | 3,_=>rw [List.getElem?_set_ne o_,List.getElem?_set_self (by simp;omega)];rfl
 | 4,_=>rw [List.getElem?_set_self (by simp;omega)];rfl
theorem qxj{p:Nat}(h:i<p∨p+2≤i):((ys.set p a).set (p+1) b)[i]? =ys[i]? := by
 rw [List.getElem?_set_ne o_,List.getElem?_set_ne o_]
theorem qxk{p:Nat}(h:p+2≤ys.length):∀ i,i<2→((ys.set p a).set (p+1) b)[p+i]? =some ([a,b].getD i undef):=by
 intro i hi;match i,hi with
 | 0,_=>rw [List.getElem?_set_ne o_,Nat.add_zero,List.getElem?_set_self o_];rfl
 | 1,_=>rw [List.getElem?_set_self (by simp;omega)];rfl
theorem qaa{size:Nat}(h:w.ownsRow base e size (.slice (some ⟨g,0,none⟩) n cap) n xs)(hi:i<n*size):
  (∃ v,w.cell? ⟨g,i,none⟩=some v)∧w.frozen? ⟨g,i,none⟩=false:=by
 refine ⟨?_,h.frozenAt _⟩;rw [h.cellAt i hi];exact ⟨_,List.getElem?_eq_getElem (by have:=h.1;omega)⟩
end rowl

namespace trm
inductive TermM where
 | mk (op:Int) (name:List UInt8) (sort:Int) (args:List TermM)
instance:Inhabited TermM:=⟨.mk 0 [] 0 []⟩
def TermM.op:TermM→Int | .mk o _ _ _=>o
def TermM.name:TermM→List UInt8 | .mk _ n _ _=>n
def TermM.sort:TermM→Int | .mk _ _ s _=>s
def TermM.args:TermM→List TermM | .mk _ _ _ l=>l
theorem TermM.eta (t:TermM):TermM.mk t.op t.name t.sort t.args=t:=by cases t;rfl
theorem TermM.ind{P:TermM→Prop}(h:∀ o n s l,(∀ t∈l,P t)→P (.mk o n s l)):∀ t,P t:=
 fun t=>TermM.rec (motive_1:=P) (motive_2:=fun l=>∀ t∈l,P t) h (fun t ht=>by simp at ht) (fun a l ha hl t ht=>by
  rcases List.mem_cons.1 ht with rfl|ht
  ·exact ha
  ·exact hl t ht) t
noncomputable def size (t:TermM):Nat:=TermM.rec (motive_1:=fun _=>Nat) (motive_2:=fun _=>Nat) (fun _ _ _ _ k=>1+k) 0 (fun _ _ a b=>a+b) t
noncomputable def qa2 (l:List TermM):Nat:=(l.map size).sum
theorem qbe (o:Int)(n:List UInt8)(s:Int)(l:List TermM):size (.mk o n s l)=1+qa2 l:=by
 have:∀ l:List TermM,(TermM.rec_1 (motive_1:=fun _=>Nat) (motive_2:=fun _=>Nat) (fun _ _ _ _ k=>1+k) 0 (fun _ _ a b=>a+b) l:Nat)=qa2 l:=by
  intro l;induction l with
  | nil=>rfl
  | cons a l ih=>simp only [qa2,List.map_cons,List.sum_cons];rw [qa2] at ih;rw [← ih];rfl
 show 1+_=_;rw [this]
noncomputable def depth (t:TermM):Nat:=TermM.rec (motive_1:=fun _=>Nat) (motive_2:=fun _=>Nat) (fun _ _ _ _ k=>k+1) 0 (fun _ _ a b=>max a b) t
noncomputable def depths (l:List TermM):Nat:=l.foldr (fun t k=>max (depth t) k) 0
theorem qeo (o:Int)(n:List UInt8)(s:Int)(l:List TermM):depth (.mk o n s l)=depths l+1:=by
 have:∀ l:List TermM,(TermM.rec_1 (motive_1:=fun _=>Nat) (motive_2:=fun _=>Nat) (fun _ _ _ _ k=>k+1) 0 (fun _ _ a b=>max a b) l:Nat)=depths l:=by
  intro l;induction l with
  | nil=>rfl
  | cons a l ih=>simp only [depths,List.foldr_cons];rw [depths] at ih;rw [← ih];rfl
 show _+1=_;rw [this]
def qbp:List UInt8→List UInt8→Bool
 | _,[]=>false
 | [],_::_=>true
 | a::l,b::m=>if a=b then qbp l m else decide (a<b)
def cmpB (a b:List UInt8):Int:=if a=b then 0 else if qbp a b then -1 else 1
def cmpI (a b:Int):Int:=if a=b then 0 else if a<b then -1 else 1
noncomputable def cmp (t:TermM):TermM→Int:=
 TermM.rec (motive_1:=fun _=>TermM→Int) (motive_2:=fun _=>List TermM→Int)
  (fun o n s _ f u=>if cmpI o u.op≠0 then cmpI o u.op else if cmpB n u.name≠0 then cmpB n u.name else if cmpI s u.sort≠0 then cmpI s u.sort else f u.args)
  (fun m=>match m with | []=>0|_::_=>-1)
  (fun _ _ fa fl m=>match m with | []=>1|b::m=>if fa b≠0 then fa b else fl m) t
noncomputable def cmpL:List TermM→List TermM→Int
 | [],[]=>0
 | [],_::_=>-1
 | _::_,[]=>1
 | a::l,b::m=>if cmp a b≠0 then cmp a b else cmpL l m
theorem qtt (o:Int)(n:List UInt8)(s:Int)(l:List TermM)(u:TermM):
  cmp (.mk o n s l) u=if cmpI o u.op≠0 then cmpI o u.op else if cmpB n u.name≠0 then cmpB n u.name else if cmpI s u.sort≠0 then cmpI s u.sort else cmpL l u.args:=by
 have:∀ (l m:List TermM),(TermM.rec_1 (motive_1:=fun _=>TermM→Int) (motive_2:=fun _=>List TermM→Int)
   (fun o n s _ f u=>if cmpI o u.op≠0 then cmpI o u.op else if cmpB n u.name≠0 then cmpB n u.name else if cmpI s u.sort≠0 then cmpI s u.sort else f u.args)
   (fun m=>match m with | []=>0|_::_=>-1)
   (fun _ _ fa fl m=>match m with | []=>1|b::m=>if fa b≠0 then fa b else fl m) l:List TermM→Int) m=cmpL l m:=by
  intro l;induction l with
  | nil=>intro m;cases m<;>rfl
  | cons a l ih=>
   intro m;cases m with
   | nil=>rfl
   | cons b m=>rw [cmpL,← ih m];rfl
 rw [← this];rfl
theorem qfd (o:Int)(n:List UInt8)(s:Int)(l:List TermM)(o':Int)(n':List UInt8)(s':Int)(m:List TermM):
  cmp (.mk o n s l) (.mk o' n' s' m)=if cmpI o o'≠0 then cmpI o o' else if cmpB n n'≠0 then cmpB n n' else if cmpI s s'≠0 then cmpI s s' else cmpL l m:=qtt o n s l _
theorem qi9:∀ (k:Nat) (l m:List TermM),k≤l.length→k≤m.length→(∀ j,j<k→cmp (l.getD j default) (m.getD j default)=0)→cmpL l m=cmpL (l.drop k) (m.drop k)
 | 0,_,_,_,_,_=>by simp
 | k+1,[],_,h,_,_=>by simp at h
 | k+1,_::_,[],_,h,_=>by simp at h
 | k+1,a::l,b::m,h1,h2,h=>by
  have h0:cmp a b=0:=by simpa using h 0 o_
  rw [cmpL,if_neg (by simp [h0]),List.drop_succ_cons,List.drop_succ_cons];exact qi9 k l m (by simpa using h1) (by simpa using h2) (fun j hj=>by simpa using h (j+1) o_)
theorem qxl{l m:List TermM}(h1:k<l.length)(h2:k<m.length)(h:∀ j,j<k→cmp (l.getD j default) (m.getD j default)=0)(hk:cmp (l.getD k default) (m.getD k default)≠0):cmpL l m=cmp (l.getD k default) (m.getD k default):=by
 rw [qi9 k l m o_ o_ h,List.drop_eq_getElem_cons h1,List.drop_eq_getElem_cons h2,cmpL];have e1:l.getD k default=l[k]:=by simp [List.getD,List.getElem?_eq_getElem h1]
 have e2:m.getD k default=m[k]:=by simp [List.getD,List.getElem?_eq_getElem h2]
 rw [e1,e2] at hk ⊢;rw [if_pos hk]
theorem qq6{l m:List TermM}(h:∀ j,j<l.length→j<m.length→cmp (l.getD j default) (m.getD j default)=0):cmpL l m=cmpI l.length m.length:=by
 rw [qi9 (min l.length m.length) l m (Nat.min_le_left _ _) (Nat.min_le_right _ _) (fun j hj=>h j o_ o_)];rcases Nat.lt_trichotomy l.length m.length with aa|heq|hgt
 ·have e1:l.drop (min l.length m.length)=[]:=List.drop_eq_nil_of_le o_
  have hl:(m.drop (min l.length m.length)).length=m.length-min l.length m.length:=List.length_drop;rw [e1];cases hm:m.drop (min l.length m.length) with
  | nil=>rw [hm] at hl;simp at hl;omega
  | cons b r=>rw [cmpL,cmpI,if_neg o_,if_pos o_]
 ·have e1:l.drop (min l.length m.length)=[]:=List.drop_eq_nil_of_le o_
  have e2:m.drop (min l.length m.length)=[]:=List.drop_eq_nil_of_le o_;rw [e1,e2,cmpL,cmpI,if_pos o_]
 ·have e2:m.drop (min l.length m.length)=[]:=List.drop_eq_nil_of_le o_
  have hl:(l.drop (min l.length m.length)).length=l.length-min l.length m.length:=List.length_drop;rw [e2];cases hm:l.drop (min l.length m.length) with
  | nil=>rw [hm] at hl;simp at hl;omega
  | cons b r=>rw [cmpL,cmpI,if_neg o_,if_neg o_]
theorem qia:∀ l,qbp l l=false
 | []=>rfl
 | a::l=>by simp [qbp,qia l]
theorem qib:∀ l m,l≠m→qbp l m=false→qbp m l=true
 | [],[],h,_=>absurd rfl h
 | [],_::_,_,h=>by simp [qbp] at h
 | _::_,[],_,_=>by simp [qbp]
 | a::l,b::m,aa,h=>by
  simp only [qbp] at h ⊢;by_cases e:a=b
  ·subst e
   simp only [if_true] at h ⊢;exact qib l m (fun e=>aa (by rw [e])) h
  ·rw [if_neg e] at h
   rw [if_neg (fun e2=>e e2.symm)];simp only [decide_eq_false_iff_not,decide_eq_true_eq] at h ⊢;have h1:a.toNat≠b.toNat:=fun e2=>e (UInt8.toNat_inj.1 e2)
   rw [UInt8.lt_iff_toNat_lt] at h ⊢;omega
theorem qic:∀ l m,qbp l m=true→qbp m l=false
 | [],[],h=>by simp [qbp] at h
 | [],_::_,_=>by simp [qbp]
 | _::_,[],h=>by simp [qbp] at h
 | a::l,b::m,h=>by
  simp only [qbp] at h ⊢;by_cases e:a=b
  ·subst e
   simp only [if_true] at h ⊢;exact qic l m h
  ·rw [if_neg e] at h
   rw [if_neg (fun e2=>e e2.symm)];simp only [decide_eq_false_iff_not,decide_eq_true_eq] at h ⊢;rw [UInt8.lt_iff_toNat_lt] at h ⊢;omega
theorem qid:∀ l m r,qbp l m=true→qbp m r=true→qbp l r=true
 | _,_,[],_,h=>by simp [qbp] at h
 | [],_,_::_,_,_=>by simp [qbp]
 | _::_,[],_,h,_=>by simp [qbp] at h
 | a::l,b::m,c::r,h1,h2=>by
  simp only [qbp] at h1 h2 ⊢;by_cases e:a=b
  ·subst e
   simp only [if_true] at h1;by_cases e2:a=c
   ·subst e2
    simp only [if_true] at h2 ⊢;exact qid l m r h1 h2
   ·rw [if_neg e2] at h2 ⊢;exact h2
  ·rw [if_neg e] at h1
   by_cases e2:b=c
   ·subst e2
    rw [if_neg e];exact h1
   ·rw [if_neg e2] at h2
    simp only [decide_eq_true_eq] at h1 h2;rw [UInt8.lt_iff_toNat_lt] at h1 h2;have:a≠c:=fun e3=>by subst e3;omega
    rw [if_neg this];simp only [decide_eq_true_eq];rw [UInt8.lt_iff_toNat_lt];omega
theorem qmh (a b:Int):cmpI b a=- cmpI a b:=by unfold cmpI;(repeat' split)<;>omega
theorem qtu (a b:List UInt8):cmpB b a=- cmpB a b:=by
 unfold cmpB;by_cases e:a=b
 ·subst e;simp
 ·rw [if_neg e,if_neg (fun e2=>e e2.symm)]
  cases h:qbp a b with
  | true=>rw [qic a b h];simp
  | false=>rw [qib a b e h];simp
theorem qmi{a b:Int}:cmpI a b=0↔a=b:=by unfold cmpI;(repeat' split)<;>simp_all
theorem qtv{a b:List UInt8}:cmpB a b=0↔a=b:=by unfold cmpB;(repeat' split)<;>simp_all
theorem qb6:∀ t u,cmp u t=- cmp t u:=by
 refine TermM.ind (fun o n s l ih u=>?_);obtain ⟨o',n',s',m⟩:=u;rw [qfd,qfd];rw [qmh o o',qtu n n',qmh s s'];have hL:∀ l:List TermM,(∀ t∈l,∀ u,cmp u t=- cmp t u)→∀ m,cmpL m l=- cmpL l m:=by
  intro l;induction l with
  | nil=>intro _ m;cases m<;>simp [cmpL]
  | cons a l aa=>
   intro h m;cases m with
   | nil=>simp [cmpL]
   | cons b m=>
    rw [cmpL,cmpL,h a (by simp) b,aa (fun t ht=>h t (by simp [ht])) m];by_cases e:cmp a b=0
    ·simp [e]
    ·have:¬ - cmp a b=0:=o_
     simp [e,this]
 rw [hL l ih m];by_cases h1:cmpI o o'=0
 ·by_cases h2:cmpB n n'=0
  ·by_cases h3:cmpI s s'=0
   ·simp [h1,h2,h3]
   ·have:¬ - cmpI s s'=0:=o_
    simp [h1,h2,h3,this]
  ·have:¬ - cmpB n n'=0:=o_
   simp [h1,h2,this]
 ·have:¬ - cmpI o o'=0:=o_
  simp [h1,this]
theorem qb0:∀ t u,cmp t u=0↔t=u:=by
 refine TermM.ind (fun o n s l ih u=>?_);obtain ⟨o',n',s',m⟩:=u;rw [qfd];simp only [TermM.mk.injEq];have hL:∀ l:List TermM,(∀ t∈l,∀ u,cmp t u=0↔t=u)→∀ m,cmpL l m=0↔l=m:=by
  intro l;induction l with
  | nil=>intro _ m;cases m<;>simp [cmpL]
  | cons a l aa=>
   intro h m;cases m with
   | nil=>simp [cmpL]
   | cons b m=>
    rw [cmpL,List.cons.injEq,← h a (by simp) b,← aa (fun t ht=>h t (by simp [ht])) m];by_cases e:cmp a b=0<;>simp [e]
 rw [← qmi (a:=o),← qtv (a:=n),← qmi (a:=s),← hL l ih m];by_cases h1:cmpI o o'=0
 ·by_cases h2:cmpB n n'=0
  ·by_cases h3:cmpI s s'=0
   ·simp [h1,h2,h3]
   ·simp [h1,h2,h3]
  ·simp [h1,h2]
 ·simp [h1]
theorem qhv (t:TermM):cmp t t=0:=(qb0 t t).2 rfl
theorem qct:∀ t u v,cmp t u≤0→cmp u v≤0→cmp t v≤0:=by
 have hI:∀ a b c:Int,cmpI a b≤0→cmpI b c≤0→(cmpI a c≤0∧(cmpI a c=0→cmpI a b=0∧cmpI b c=0)):=by
  intro a b c h1 h2;unfold cmpI at *
  (repeat' split at h1)<;>(repeat' split at h2)<;>(repeat' split)<;>simp_all<;>omega
 have hB:∀ a b c:List UInt8,cmpB a b≤0→cmpB b c≤0→(cmpB a c≤0∧(cmpB a c=0→cmpB a b=0∧cmpB b c=0)):=by
  intro a b c h1 h2;by_cases e1:a=b
  ·subst e1
   exact ⟨h2,fun h=>⟨by simp [cmpB],h⟩⟩
  ·by_cases e2:b=c
   ·subst e2
    exact ⟨h1,fun h=>⟨h,by simp [cmpB]⟩⟩
   ·have l1:qbp a b=true:=by
     unfold cmpB at h1;rw [if_neg e1] at h1;cases h:qbp a b with
     | true=>rfl
     | false=>simp [h] at h1
    have l2:qbp b c=true:=by
     unfold cmpB at h2;rw [if_neg e2] at h2;cases h:qbp b c with
     | true=>rfl
     | false=>simp [h] at h2
    have l3:=qid a b c l1 l2;have e3:a≠c:=fun e=>by subst e;rw [qia] at l3;cases l3
    have:cmpB a c=-1:=by rw [cmpB,if_neg e3,if_pos l3]
    exact ⟨by omega,fun h=>by omega⟩
 refine TermM.ind (fun o n s l ih u v=>?_);obtain ⟨o2,n2,s2,m⟩:=u;obtain ⟨o3,n3,s3,r⟩:=v;rw [qfd,qfd,qfd];have hL:∀ l:List TermM,(∀ t∈l,∀ u v,cmp t u≤0→cmp u v≤0→cmp t v≤0)→∀ m r,cmpL l m≤0→cmpL m r≤0→cmpL l r≤0:=by
  intro l;induction l with
  | nil=>intro _ m r _ _;cases r<;>simp [cmpL]
  | cons a l ac=>
   intro h m r h1 h2;cases m with
   | nil=>simp [cmpL] at h1
   | cons b m=>
    cases r with
    | nil=>simp [cmpL] at h2
    | cons c r=>
     rw [cmpL] at h1 h2 ⊢;have ad:cmp a b≤0:=by
      by_cases e:cmp a b=0
      ·omega
      ·simpa [e] using h1
     have aa:cmp b c≤0:=by
      by_cases e:cmp b c=0
      ·omega
      ·simpa [e] using h2
     have ae:=h a (by simp) b c ad aa;by_cases e:cmp a c=0
     ·have ab:=(qb0 a c).1 e
      have e1:cmp a b=0:=by
       have:=qb6 b c;rw [← ab] at this aa;have:=qb6 a b;omega
      have e2:cmp b c=0:=by
       rw [← ab,qb6 a b,e1];rfl
      simp only [e1,e2,ne_eq,not_true_eq_false,if_false] at h1 h2;simp only [e,ne_eq,not_true_eq_false,if_false];exact ac (fun t ht=>h t (by simp [ht])) m r h1 h2
     ·simp only [e,ne_eq,not_false_eq_true,if_true];exact ae
 intro h1 h2;have k1:cmpI o o2≤0:=by
  by_cases e:cmpI o o2=0
  ·omega
  ·simpa [e] using h1
 have k2:cmpI o2 o3≤0:=by
  by_cases e:cmpI o2 o3=0
  ·omega
  ·simpa [e] using h2
 obtain ⟨k3,k4⟩:=hI o o2 o3 k1 k2;by_cases e:cmpI o o3=0
 ·obtain ⟨z1,z2⟩:=k4 e
  simp only [z1,z2,e,ne_eq,not_true_eq_false,if_false] at h1 h2 ⊢;have q1:cmpB n n2≤0:=by
   by_cases e:cmpB n n2=0
   ·omega
   ·simpa [e] using h1
  have q2:cmpB n2 n3≤0:=by
   by_cases e:cmpB n2 n3=0
   ·omega
   ·simpa [e] using h2
  obtain ⟨q3,q4⟩:=hB n n2 n3 q1 q2;by_cases e:cmpB n n3=0
  ·obtain ⟨z1,z2⟩:=q4 e
   simp only [z1,z2,e,not_true_eq_false,if_false] at h1 h2 ⊢;have r1:cmpI s s2≤0:=by
    by_cases e:cmpI s s2=0
    ·omega
    ·simpa [e] using h1
   have r2:cmpI s2 s3≤0:=by
    by_cases e:cmpI s2 s3=0
    ·omega
    ·simpa [e] using h2
   obtain ⟨r3,r4⟩:=hI s s2 s3 r1 r2;by_cases e:cmpI s s3=0
   ·obtain ⟨z1,z2⟩:=r4 e
    simp only [z1,z2,e,not_true_eq_false,if_false] at h1 h2 ⊢;exact hL l ih m r h1 h2
   ·simp only [e,not_false_eq_true,if_true];exact r3
  ·simp only [e,not_false_eq_true,if_true];exact q3
 ·simp only [e,ne_eq,not_false_eq_true,if_true];exact k3
end trm

namespace trmv
open trm
theorem qai{l:List TermM}(h:k<l.length):l.getD k default=l[k]:=by simp [List.getD,List.getElem?_eq_getElem h]
def var (n:List UInt8)(s:Int):TermM:=.mk (-1) n s []
noncomputable def insT:List TermM→TermM→List TermM
 | [],t=>[t]
 | a::l,t=>if cmp a t<0 then a::insT l t else if cmp a t=0 then a::l else t::a::l
theorem ql0:∀ (k:Nat) (l:List TermM) (t:TermM),k≤l.length→(∀ j,j<k→cmp (l.getD j default) t<0)→(k<l.length→¬ cmp (l.getD k default) t<0)→
  insT l t=if k<l.length∧cmp (l.getD k default) t=0 then l else l.take k++t::l.drop k
 | 0,[],t,_,_,_=>by simp [insT]
 | 0,a::l,t,_,_,h=>by
  have h0:¬ cmp a t<0:=by simpa using h (by simp)
  rw [insT,if_neg h0];simp
 | k+1,[],t,h,_,_=>by simp at h
 | k+1,a::l,t,h1,h2,h3=>by
  have h0:cmp a t<0:=by simpa using h2 0 o_
  rw [insT,if_pos h0,ql0 k l t (by simpa using h1) (fun j hj=>by simpa using h2 (j+1) o_) (fun hk=>by simpa using h3 (by simpa using hk))];have e:(k+1<(a::l).length∧cmp ((a::l).getD (k+1) default) t=0)↔(k<l.length∧cmp (l.getD k default) t=0):=by simp
  by_cases hc:k<l.length∧cmp (l.getD k default) t=0
  ·rw [if_pos hc,if_pos (e.2 hc)]
  ·rw [if_neg hc,if_neg (fun h=>hc (e.1 h))];simp
def Asc (l:List TermM):Prop:=l.Pairwise fun a b=>cmp a b<0
theorem qh9{a b c:TermM}(h1:cmp a b<0)(h2:cmp b c<0):cmp a c<0:=by
 have h:=qct a b c o_ o_
 have aa:cmp a c≠0:=fun e=>by
  have e2:=(qb0 a c).1 e;subst e2;have:=qb6 a b;omega
 omega
theorem c1_{p:Prop}(h:p:=by
 rintro (h|h|h)
 ·exact .inr (.inl h)
 ·exact .inl h
 ·exact .inr (.inr h)
):p:=h
theorem ql1 {x:TermM}:∀ (l:List TermM) (t:TermM),x∈insT l t↔x=t∨x∈l
 | [],t=>by simp [insT]
 | a::l,t=>by
  rw [insT];split
  ·rw [List.mem_cons,ql1 l t,List.mem_cons]
   constructor
   ·exact c1_
   ·exact c1_
  ·split
   ·rename_i h1 h2
    have e:=(qb0 a t).1 h2;subst e;simp
   ·simp
theorem qq7:∀ (l:List TermM) (t:TermM),Asc l→Asc (insT l t)
 | [],t,_=>by simp [insT,Asc]
 | a::l,t,h=>by
  obtain ⟨h1,h2⟩:=List.pairwise_cons.1 h;rw [insT];split
  ·rename_i h3
   refine List.pairwise_cons.2 ⟨fun b hb=>?_,qq7 l t h2⟩;rcases (ql1 l t).1 hb with rfl|hb
   ·exact h3
   ·exact h1 b hb
  ·split
   ·exact h
   ·rename_i h3 h4
    have aa:cmp t a<0:=by have:=qb6 a t;omega
    refine List.pairwise_cons.2 ⟨fun b hb=>?_,h⟩;rcases List.mem_cons.1 hb with rfl|hb
    ·exact aa
    ·exact qh9 aa (h1 b hb)
theorem qju:∀ (l m:List TermM),Asc l→Asc m→(∀ x,x∈l↔x∈m)→l=m
 | [],[],_,_,_=>rfl
 | [],b::m,_,_,h=>absurd ((h b).2 (by simp)) (by simp)
 | a::l,[],_,_,h=>absurd ((h a).1 (by simp)) (by simp)
 | a::l,b::m,hl,hm,h=>by
  obtain ⟨l1,l2⟩:=List.pairwise_cons.1 hl;obtain ⟨m1,m2⟩:=List.pairwise_cons.1 hm;have aa:a=b:=by
   rcases List.mem_cons.1 ((h a).1 (by simp)) with e|ha
   ·exact e
   ·rcases List.mem_cons.1 ((h b).2 (by simp)) with e|hb
    ·exact e.symm
    ·have h1:=m1 a ha
     have h2:=l1 b hb;have:=qb6 a b;omega
  subst aa;have ha:∀ x,x∈l→x≠a:=fun x hx e=>by subst e;have:=l1 _ hx;rw [qhv] at this;omega
  have hb:∀ x,x∈m→x≠a:=fun x hx e=>by subst e;have:=m1 _ hx;rw [qhv] at this;omega
  rw [qju l m l2 m2 (fun x=>?_)];constructor
  ·intro hx
   rcases List.mem_cons.1 ((h x).1 (List.mem_cons_of_mem _ hx)) with e|e
   ·exact absurd e (ha x hx)
   ·exact e
  ·intro hx
   rcases List.mem_cons.1 ((h x).2 (List.mem_cons_of_mem _ hx)) with e|e
   ·exact absurd e (hb x hx)
   ·exact e
noncomputable def colT (t:TermM):List TermM→List TermM:=
 TermM.rec (motive_1:=fun _=>List TermM→List TermM) (motive_2:=fun _=>List TermM→List TermM)
  (fun o n s _ f aa=>if o=-1 then insT aa (var n s) else f aa) (fun aa=>aa) (fun _ _ fa fl aa=>fl (fa aa)) t
noncomputable def cols (l:List TermM)(aa:List TermM):List TermM:=l.foldl (fun aa a=>colT a aa) aa
theorem ql2 (o:Int)(n:List UInt8)(s:Int)(l aa:List TermM):colT (.mk o n s l) aa=if o=-1 then insT aa (var n s) else cols l aa:=by
 have:∀ (l aa:List TermM),(TermM.rec_1 (motive_1:=fun _=>List TermM→List TermM) (motive_2:=fun _=>List TermM→List TermM)
   (fun o n s _ f aa=>if o=-1 then insT aa (var n s) else f aa) (fun aa=>aa) (fun _ _ fa fl aa=>fl (fa aa)) l:List TermM→List TermM) aa=cols l aa:=by
  intro l;induction l with
  | nil=>intro aa;rfl
  | cons a l ih=>intro aa;rw [cols,List.foldl_cons];exact ih (colT a aa)
 rw [← this];rfl
theorem qtw (l:List TermM)(aa:List TermM)(k:Nat)(h:k<l.length):cols (l.take (k+1)) aa=colT (l.getD k default) (cols (l.take k) aa):=by
 rw [cols,List.take_succ_eq_append_getElem h,List.foldl_append,qai h];rfl
noncomputable def varsT (t:TermM):List TermM:=colT t []
def vin (x:TermM)(t:TermM):Prop:=
 TermM.rec (motive_1:=fun _=>Prop) (motive_2:=fun _=>Prop) (fun o n s _ p=>(o=-1∧x=var n s)∨(o≠-1∧p)) False (fun _ _ p q=>p∨q) t
theorem qtx (x:TermM)(o:Int)(n:List UInt8)(s:Int)(l:List TermM):vin x (.mk o n s l)↔(o=-1∧x=var n s)∨(o≠-1∧∃ a∈l,vin x a):=by
 have:∀ l:List TermM,(TermM.rec_1 (motive_1:=fun _=>Prop) (motive_2:=fun _=>Prop) (fun o n s _ p=>(o=-1∧x=var n s)∨(o≠-1∧p)) False (fun _ _ p q=>p∨q) l:Prop)↔∃ a∈l,vin x a:=by
  intro l;induction l with
  | nil=>simp
  | cons a l ih=>
   simp only [List.mem_cons,exists_eq_or_imp];exact or_congr Iff.rfl ih
 rw [← this];rfl
theorem qq8 (x:TermM):∀ (t:TermM) (aa:List TermM),x∈colT t aa↔x∈aa∨vin x t:=by
 refine TermM.ind (fun o n s l ih aa=>?_);rw [ql2,qtx];split
 ·rename_i h
  rw [ql1];simp only [h,true_and,ne_eq,not_true_eq_false,false_and,or_false];exact or_comm
 ·rename_i h
  have hL:∀ (l:List TermM),(∀ t∈l,∀ aa,x∈colT t aa↔x∈aa∨vin x t)→∀ aa,x∈cols l aa↔x∈aa∨∃ a∈l,vin x a:=by
   intro l;induction l with
   | nil=>intro _ aa;simp [cols]
   | cons a l ab=>
    intro h aa;have e:cols (a::l) aa=cols l (colT a aa):=rfl;rw [e,ab (fun t ht=>h t (by simp [ht])),h a (by simp)];simp only [List.mem_cons,exists_eq_or_imp,or_assoc]
  rw [hL l ih aa];simp only [h,false_and,ne_eq,not_false_eq_true,true_and,false_or]
theorem qxm:∀ (t:TermM) (aa:List TermM),Asc aa→Asc (colT t aa):=by
 refine TermM.ind (fun o n s l ih aa ab=>?_);rw [ql2];split
 ·exact qq7 _ _ ab
 ·have hL:∀ (l:List TermM),(∀ t∈l,∀ aa,Asc aa→Asc (colT t aa))→∀ aa,Asc aa→Asc (cols l aa):=by
   intro l;induction l with
   | nil=>intro _ aa h;exact h
   | cons a l ac=>
    intro h aa ab;exact ac (fun t ht=>h t (by simp [ht])) _ (h a (by simp) aa ab)
  exact hL l ih aa ab
theorem qie{x t:TermM}:x∈varsT t↔vin x t:=by rw [varsT,qq8];simp
theorem qty (t:TermM):Asc (varsT t):=qxm t [] List.Pairwise.nil
theorem qon{l:List TermM}{t:TermM}(h1:Asc l)(h2:∀ x,x∈l↔vin x t):l=varsT t:=qju _ _ h1 (qty t) (fun x=>by rw [h2,qie])
def Srt (l:List TermM):Prop:=l.Pairwise fun a b=>cmp a b≤0
theorem qjv:∀ (l m:List TermM),Srt l→Srt m→l.Perm m→l=m
 | [],m,_,_,h=>(List.Perm.nil_eq h)
 | a::l,[],_,_,h=>absurd h.length_eq (by simp)
 | a::l,b::m,hl,hm,h=>by
  obtain ⟨l1,l2⟩:=List.pairwise_cons.1 hl;obtain ⟨m1,m2⟩:=List.pairwise_cons.1 hm;have aa:a=b:=by
   rcases List.mem_cons.1 (h.mem_iff.1 (show a∈a::l by simp)) with e|ha
   ·exact e
   ·rcases List.mem_cons.1 (h.mem_iff.2 (show b∈b::m by simp)) with e|hb
    ·exact e.symm
    ·have h1:=m1 a ha
     have h2:=l1 b hb;have:=qb6 a b;exact (qb0 a b).1 o_
  subst aa;rw [qjv l m l2 m2 (List.Perm.cons_inv h)]
theorem qAe{l:List TermM}{t:TermM}(hl:Srt l)(hk:k≤l.length)(h1:∀ j,k≤j→j<l.length→0<cmp (l.getD j default) t)(h2:0<k→¬ 0<cmp (l.getD (k-1) default) t):
  Srt (l.take k++t::l.drop k)∧(l.take k++t::l.drop k).Perm (t::l):=by
 have aa:l.take k++l.drop k=l:=List.take_append_drop k l;have ae:Srt (l.take k++l.drop k):=by rw [aa];exact hl
 obtain ⟨a1,a2,a3⟩:=List.pairwise_append.1 ae;have ab:∀ b∈l.drop k,0<cmp b t:=by
  intro b hb;obtain ⟨j,hj,rfl⟩:=List.getElem_of_mem hb;have ac:k+j<l.length:=by rw [List.length_drop] at hj;omega
  have:=h1 (k+j) o_ ac;rw [qai ac] at this;rw [List.getElem_drop];exact this
 have htake:∀ b∈l.take k,cmp b t≤0:=by
  intro b hb;obtain ⟨j,hj,rfl⟩:=List.getElem_of_mem hb;have af:j<k:=by rw [List.length_take] at hj;omega
  have hp:cmp (l.getD (k-1) default) t≤0:=by have:=h2 o_;omega
  have ad:k-1<l.length:=o_;rw [qai ad] at hp;rw [List.getElem_take];by_cases e:j=k-1
  ·subst e;exact hp
  ·exact qct _ _ _ (List.pairwise_iff_getElem.1 hl j (k-1) o_ ad o_) hp
 refine ⟨List.pairwise_append.2 ⟨a1,List.pairwise_cons.2 ⟨fun b hb=>?_,a2⟩,fun b hb c hc=>?_⟩,?_⟩
 ·have:=ab b hb
  have:=qb6 b t;omega
 ·rcases List.mem_cons.1 hc with rfl|hc
  ·exact htake b hb
  ·exact a3 b hb c hc
 ·have hp:(l.take k++t::l.drop k).Perm (t::(l.take k++l.drop k)):=List.perm_middle
  rw [aa] at hp;exact hp
noncomputable def insS:List TermM→TermM→List TermM
 | [],t=>[t]
 | a::l,t=>if cmp a t≤0 then a::insS l t else t::a::l
theorem qif:∀ (l:List TermM) (t:TermM),(insS l t).Perm (t::l)
 | [],t=>List.Perm.refl _
 | a::l,t=>by
  rw [insS];split
  ·exact ((qif l t).cons a).trans (List.Perm.swap t a l)
  ·exact List.Perm.refl _
theorem qq9:∀ (l:List TermM) (t:TermM),Srt l→Srt (insS l t)
 | [],t,_=>by simp [insS,Srt]
 | a::l,t,h=>by
  obtain ⟨h1,h2⟩:=List.pairwise_cons.1 h;rw [insS];split
  ·rename_i h3
   refine List.pairwise_cons.2 ⟨fun b hb=>?_,qq9 l t h2⟩;rcases List.mem_cons.1 ((qif l t).mem_iff.1 hb) with rfl|hb
   ·exact h3
   ·exact h1 b hb
  ·rename_i h3
   have aa:cmp t a≤0:=by have:=qb6 a t;omega
   refine List.pairwise_cons.2 ⟨fun b hb=>?_,h⟩;rcases List.mem_cons.1 hb with rfl|hb
   ·exact aa
   ·exact qct _ _ _ aa (h1 b hb)
noncomputable def qcj (l:List TermM):List TermM:=l.foldl insS []
theorem qb9 (l:List TermM):Srt (qcj l)∧(qcj l).Perm l:=by
 have:∀ (l aa:List TermM),Srt aa→Srt (l.foldl insS aa)∧(l.foldl insS aa).Perm (aa++l):=by
  intro l;induction l with
  | nil=>intro aa h;exact ⟨h,by simp⟩
  | cons a l ih=>
   intro aa h;obtain ⟨h1,h2⟩:=ih (insS aa a) (qq9 aa a h);refine ⟨h1,h2.trans ?_⟩;refine ((qif aa a).append_right l).trans ?_;exact (List.perm_middle (l₁:=aa) (l₂:=l) (a:=a)).symm
 simpa [qcj] using this l [] List.Pairwise.nil
theorem qha{l m:List TermM}(h1:Srt m)(h2:m.Perm l):m=qcj l:=qjv _ _ h1 (qb9 l).1 (h2.trans (qb9 l).2.symm)
end trmv

namespace setm

theorem qbl (n:Int)(_h₀:0≤n)(h₁:n<2 ^ 16):IntKind.u16.wrap n=n:=by
 simp [IntKind.wrap,IntKind.bits,IntKind.signed];omega
theorem qcf (n:Int)(h₀:0≤n)(h₁:n<2 ^ 62):IntKind.i64.wrap n=n:=by
 rw [IntKind.wrap_i64];omega
theorem qxn (n:Int):bits .and .i64 n 1=n % 2:=by
 have h1:(BitVec.ofInt 64 1).toNat=2 ^ 1-1:=by decide
 have aa:(BitVec.ofInt 64 n &&& BitVec.ofInt 64 1).toNat=(n % ((2 ^ 64:Nat):Int)).toNat % 2 ^ 1:=by
  rw [BitVec.toNat_and,BitVec.toNat_ofInt,h1,Nat.and_two_pow_sub_one_eq_mod]
 show IntKind.i64.wrap ((BitVec.ofInt 64 n &&& BitVec.ofInt 64 1).toNat:Nat)=n % 2;rw [aa,IntKind.wrap_i64];omega
theorem ql3 (a b:Nat)(ha:a<65536)(hb:b<65536):bits .and .u16 (a:Int) (b:Int)=((a &&& b:Nat):Int):=(bits_nat .u16 16 (by decide) qbl a b ha hb).1
theorem qqa (a b:Nat)(ha:a<65536)(hb:b<65536):bits .or .u16 (a:Int) (b:Int)=((a ||| b:Nat):Int):=(bits_nat .u16 16 (by decide) qbl a b ha hb).2
theorem qtz (a b:Nat)(ha:a<65536)(hb:b<65536):bits .and .i64 (a:Int) (b:Int)=((a &&& b:Nat):Int):=
 (bits_nat .i64 62 (by decide) qcf a b o_ o_).1
theorem qjw (a b:Nat)(ha:a<65536)(hb:b<65536):bits .or .i64 (a:Int) (b:Int)=((a ||| b:Nat):Int):=
 (bits_nat .i64 62 (by decide) qcf a b o_ o_).2
theorem qsb (a b:Nat)(ha:a<65536)(hb:b<65536):bits .andNot .u16 (a:Int) (b:Int)=((a ^^^ (a &&& b):Nat):Int):=by
 have e:BitVec.ofInt 16 (a:Int) &&& ~~~ BitVec.ofInt 16 (b:Int)=BitVec.ofInt 16 (a:Int) ^^^ (BitVec.ofInt 16 (a:Int) &&& BitVec.ofInt 16 (b:Int)):=by
  ext i hi
  simp only [BitVec.getElem_and,BitVec.getElem_xor,BitVec.getElem_not];cases (BitVec.ofInt 16 (a:Int))[i]<;>cases (BitVec.ofInt 16 (b:Int))[i]<;>rfl
 have hx:a ^^^ (a &&& b)<2 ^ 16:=Nat.xor_lt_two_pow ha (Nat.and_lt_two_pow _ hb);show IntKind.u16.wrap ((BitVec.ofInt 16 (a:Int) &&& ~~~ BitVec.ofInt 16 (b:Int)).toNat:Nat)=_;rw [e];simp only [BitVec.ofInt_natCast,BitVec.toNat_and,BitVec.toNat_xor,BitVec.toNat_ofNat];rw [Nat.mod_eq_of_lt (show a<2 ^ 16 by omega),Nat.mod_eq_of_lt (show b<2 ^ 16 by omega)];exact qbl _ (Int.natCast_nonneg _) (by exact_mod_cast hx)
def sub (a b:Nat):Bool:=decide (a &&& b=a)
theorem qu0 (s k:Nat):decide ((s:Int) / 2 ^ k % 2=1)=s.testBit k:=by
 rw [Nat.testBit_eq_decide_div_mod_eq];congr 1
 rw [eq_iff_iff];have:((s:Int) / 2 ^ k % 2=((s / 2 ^ k % 2:Nat):Int)):=by simp
 rw [this];omega
theorem qqb (hk:k<16):2 ^ k<65536:=Nat.pow_lt_pow_right (by decide) hk
def qc2 (s k:Nat):List Nat:=(List.range k).filter s.testBit
def els (s:Nat):List Nat:=qc2 s 16
theorem qep (s k:Nat):qc2 s (k+1)=qc2 s k++if s.testBit k then [k] else []:=by
 unfold qc2;rw [List.range_succ,List.filter_append];congr 1
 by_cases h:s.testBit k<;>simp [h]
theorem qu1 (h:s.testBit k=true):qc2 s (k+1)=qc2 s k++[k]:=by rw [qep,if_pos h]
theorem qsc (h:s.testBit k=false):qc2 s (k+1)=qc2 s k:=by rw [qep,if_neg (by simp [h]),List.append_nil]
theorem qe9 (s k:Nat):(qc2 s k).length≤k:=by
 unfold qc2;refine Nat.le_trans (List.length_filter_le _ _) (by simp)
theorem ql4:k∈els s↔k<16∧s.testBit k=true:=by simp [els,qc2]
def ivs (L:List Int):List Value:=L.map (Value.int .i64)
theorem qau (L:List Int):(ivs L).length=L.length:=by simp [ivs]
theorem qsd (L M:List Int):ivs (L++M)=ivs L++ivs M:=by simp [ivs]
theorem qak (L:List Int)(k:Nat)(h:k<L.length):(ivs L).getD k undef=.int .i64 (L.getD k 0):=by
 simp [ivs,List.getD,List.getElem?_map,List.getElem?_eq_getElem h]
def ok (n:Int):Bool:=decide (0≤n∧n<65536)
def nats (L:List Nat):List Int:=L.map Int.ofNat
end setm

namespace split
open mem
def pre (x:List UInt8):List (List UInt8)→List (List UInt8)
 | []=>[x]
 | h::r=>(x++h)::r
def split (c:UInt8):List UInt8→List (List UInt8)
 | []=>[[]]
 | b::t=>if b=c then []::split c t else pre [b] (split c t)
def Inv (c:UInt8)(l:List UInt8)(P:List (List UInt8))(s i:Nat):Prop:=s≤i∧P.length≤i∧split c l=P++pre ((l.take i).drop s) (split c (l.drop i))
def ssv (P:List (List UInt8)):List Value:=P.map fun x=>.string (bstr x)
theorem qjy (P Q:List (List UInt8)):ssv (P++Q)=ssv P++ssv Q:=by simp [ssv]
theorem qba (P:List (List UInt8)):(ssv P).length=P.length:=by simp [ssv]
theorem qxr:(Tryz.prog.info? 9).map (fun i=>(i.zero,i.size,i.bytes))=some (some (.string .empty),1,16):=by kernel_rfl
end split

namespace sortm

def nl (P:List (Nat×Nat))(j:Nat):Nat→Nat→Bool
 | 0,i=>i==j
 | r+1,i=>nl P j r i || P.any fun p=>p.1==i&&nl P j r p.2
def rea (P:List (Nat×Nat))(n i j:Nat):Bool:=nl P j n i
def InR (n:Nat)(P:List (Nat×Nat)):Prop:=∀ p∈P,p.1<n∧p.2<n
theorem qdv:nl P j (r+1) i=true↔nl P j r i=true∨∃ p∈P,p.1=i∧nl P j r p.2=true:=by
 simp [nl]
theorem quh (h:nl P j r i=true)(s:Nat)(hs:r≤s):nl P j s i=true:=by
 induction s with
 | zero=>
           have:r=0:=o_;subst this;exact h
 | succ s ih=>
  by_cases hr:r=s+1
  ·subst hr;exact h
  ·exact qdv.2 (.inl (ih o_))
theorem qhe {p q:Nat→Bool}:∀ {l:List Nat},(∀ x,p x=true→q x=true)→l.countP p≤l.countP q
 | [],_=>by simp
 | x::l,h=>by
  have:=qhe (l:=l) h;rw [List.countP_cons,List.countP_cons];by_cases hx:p x=true
  ·rw [if_pos hx,if_pos (h x hx)];omega
  ·rw [if_neg hx];omega
theorem qhf {p q:Nat→Bool}(h:∀ x,p x=true→q x=true){a:Nat}(hp:p a=false)(hq:q a=true):∀ {l:List Nat},a∈l→l.countP p<l.countP q
 | [],ha=>by simp at ha
 | x::l,ha=>by
  rw [List.countP_cons,List.countP_cons];by_cases hx:x=a
  ·subst hx
   have:=qhe (l:=l) h;rw [if_neg (by simp [hp]),if_pos hq];omega
  ·have:=qhf h hp hq (l:=l) (by simpa [Ne.symm hx] using ha)
   by_cases aa:p x=true
   ·rw [if_pos aa,if_pos (h x aa)];omega
   ·rw [if_neg aa];omega
theorem qui (hP:InR n P)(hj:j<n):∀ p∈P,nl P j n p.2=true→nl P j n p.1=true:=by
 have ab:∀ r,(∀ p∈P,nl P j r p.2=true→nl P j r p.1=true)∨r+1≤(List.range n).countP (nl P j r):=by
  intro r;induction r with
  | zero=>
   right
   have h0:0<(List.range n).countP (nl P j 0):=List.countP_pos_iff.2 ⟨j,by simpa using hj,by simp [nl]⟩;omega
  | succ r ih=>
   rcases ih with hc|hc
   ·left
    intro p hp h;refine qdv.2 (.inl ?_);rcases qdv.1 h with h1|⟨q,hq,e,h1⟩
    ·exact hc p hp h1
    ·refine hc p hp ?_
     rw [← e];exact hc q hq h1
   ·by_cases aa:∀ p∈P,nl P j r p.2=true→nl P j r p.1=true
    ·left
     intro p hp h;refine qdv.2 (.inl ?_);rcases qdv.1 h with h1|⟨q,hq,e,h1⟩
     ·exact aa p hp h1
     ·refine aa p hp ?_
      rw [← e];exact aa q hq h1
    ·right
     simp only [Classical.not_forall] at aa;obtain ⟨p,hp,h2,h1⟩:=aa;have:=qhf (p:=nl P j r) (q:=nl P j (r+1)) (fun x hx=>quh hx _ o_) (a:=p.1) (by simpa using h1) (qdv.2 (.inr ⟨p,hp,rfl,h2⟩)) (l:=List.range n) (by simpa using (hP p hp).1);omega
 rcases ab n with h|h
 ·exact h
 ·have:=List.countP_le_length (p:=nl P j n) (l:=List.range n)
  simp at this;omega
theorem qhz (P:List (Nat×Nat))(n i:Nat):rea P n i i=true:=quh (r:=0) (by simp [nl]) n y_
theorem qft (hP:InR n P)(hj:j<n)(hp:p∈P)(h:rea P n p.2 j=true):rea P n p.1 j=true:=qui hP hj p hp h
theorem qql {P:List (Nat×Nat)}{j:Nat}{Q:Nat→Prop}(h0:Q j)(h1:∀ p∈P,Q p.2→Q p.1):∀ r i,nl P j r i=true→Q i
 | 0,i,h=>by simp [nl] at h;subst h;exact h0
 | r+1,i,h=>by
  rcases qdv.1 h with h'|⟨p,hp,rfl,h'⟩
  ·exact qql h0 h1 r i h'
  ·exact h1 p hp (qql h0 h1 r _ h')
theorem qfu (hP:InR n P)(hj:j<n)(h:rea P n i k=true)(h2:rea P n k j=true):rea P n i j=true:=
 qql (Q:=fun x=>rea P n x j=true) h2 (fun _ hp hq=>qft hP hj hp hq) n i h
def qgq (U:List Nat)(p:Nat×Nat):List Nat:=U.set p.1 (U.getD p.1 0 ||| U.getD p.2 0)
def quj (P:List (Nat×Nat))(U:List Nat):List Nat:=P.foldl qgq U
def qe6 (P:List (Nat×Nat))(U:List Nat):Nat→List Nat
 | 0=>U
 | r+1=>quj P (qe6 P U r)
def qch (n:Nat):List Nat:=(List.range n).map fun i=>2 ^ i
def clo (n:Nat)(P:List (Nat×Nat)):List Nat:=qe6 P (qch n) n
theorem qd6{a:Nat}(v i:Nat)(ha:a<U.length):(U.set a v).getD i 0=if i=a then v else U.getD i 0:=by
 by_cases h:i=a
 ·subst h;simp [List.getD,ha]
 ·rw [if_neg h];simp [List.getD,List.getElem?_set_ne (Ne.symm h)]
theorem qee (U:List Nat)(p:Nat×Nat):(qgq U p).length=U.length:=by simp [qgq]
theorem qmr (L:List (Nat×Nat)):∀ U:List Nat,(L.foldl qgq U).length=U.length:=by
 induction L with
 | nil=>intro U;rfl
 | cons p L ih=>intro U;rw [List.foldl_cons,ih,qee]
theorem qef (P:List (Nat×Nat))(U:List Nat)(r:Nat):(qe6 P U r).length=U.length:=by
 induction r with
 | zero=>rfl
 | succ r ih=>rw [qe6,quj,qmr,ih]
theorem qcw (n:Nat):(qch n).length=n:=by simp [qch]
theorem qc9 (n:Nat)(P:List (Nat×Nat)):(clo n P).length=n:=by rw [clo,qef,qcw]
theorem qms (n i:Nat)(h:i<n):(qch n).getD i 0=2 ^ i:=by simp [qch,List.getD,h]
theorem qim (hp:p.1<U.length)(i:Nat):(qgq U p).getD i 0=if i=p.1 then U.getD p.1 0 ||| U.getD p.2 0 else U.getD i 0:=qd6 _ _ hp
def Snd (n:Nat)(P:List (Nat×Nat))(U:List Nat):Prop:=∀ i j,(U.getD i 0).testBit j=true→j<n∧rea P n i j=true
theorem qxx (hP:InR n P)(hU:U.length=n)(h:Snd n P U)(hp:p∈P):Snd n P (qgq U p):=by
 intro i j hb;rw [qim (by rw [hU];exact (hP p hp).1)] at hb;by_cases hi:i=p.1
 ·rw [if_pos hi,Nat.testBit_or,Bool.or_eq_true] at hb
  subst hi;rcases hb with hb|hb
  ·exact h _ _ hb
  ·obtain ⟨hj,hr⟩:=h _ _ hb
   exact ⟨hj,qft hP hj hp hr⟩
 ·rw [if_neg hi] at hb;exact h _ _ hb
theorem qlc {n:Nat}{P:List (Nat×Nat)}(hP:InR n P):∀ (L:List (Nat×Nat)),(∀ p∈L,p∈P)→∀ U:List Nat,U.length=n→Snd n P U→Snd n P (L.foldl qgq U)
 | [],_,U,_,h=>h
 | p::L,hL,U,hU,h=>qlc hP L (fun q hq=>hL q (by simp [hq])) _ (by rw [qee,hU]) (qxx hP hU h (hL p (by simp)))
theorem qld (hP:InR n P)(r:Nat):Snd n P (qe6 P (qch n) r):=by
 induction r with
 | zero=>
  intro i j hb;by_cases hi:i<n
  ·rw [qe6,qms n i hi,Nat.testBit_two_pow] at hb
   have:i=j:=by simpa using hb
   subst this;exact ⟨hi,qhz _ _ _⟩
  ·rw [qe6,List.getD,List.getElem?_eq_none (by rw [qcw];omega)] at hb
   simp at hb
 | succ r ih=>exact qlc hP P (fun _ h=>h) _ (by rw [qef,qcw]) ih
theorem qfv {n:Nat}:∀ (L:List (Nat×Nat)),InR n L→∀ (U:List Nat),U.length=n→∀ i j,(U.getD i 0).testBit j=true→((L.foldl qgq U).getD i 0).testBit j=true
 | [],_,_,_,_,_,h=>h
 | p::L,hL,U,hU,i,j,h=>by
  refine qfv L (fun q hq=>hL q (by simp [hq])) _ (by rw [qee,hU]) i j ?_;rw [qim (by rw [hU];exact (hL p (by simp)).1)];by_cases hi:i=p.1
  ·subst hi;rw [if_pos rfl,Nat.testBit_or,h];rfl
  ·rw [if_neg hi];exact h
theorem qqm {n:Nat}:∀ (L:List (Nat×Nat)),InR n L→∀ (U:List Nat),U.length=n→∀ p∈L,∀ j,(U.getD p.2 0).testBit j=true→((L.foldl qgq U).getD p.1 0).testBit j=true
 | [],_,_,_,p,hp,_,_=>by simp at hp
 | q::L,hL,U,hU,p,hp,j,h=>by
  have hq:=hL q (by simp);have aa:InR n L:=fun x hx=>hL x (by simp [hx])
  rcases List.mem_cons.1 hp with rfl|hp'
  ·refine qfv L aa _ (by rw [qee,hU]) _ _ ?_
   rw [qim (by rw [hU];exact hq.1),if_pos rfl,Nat.testBit_or,h,Bool.or_true]
  ·refine qqm L aa _ (by rw [qee,hU]) p hp' j ?_
   have:=qfv [q] (fun x hx=>by simp at hx;subst hx;exact hq) U hU p.2 j h;simpa using this
theorem qle {n:Nat}{P:List (Nat×Nat)}(hP:InR n P)(j:Nat):∀ (r i:Nat),i<n→nl P j r i=true→((qe6 P (qch n) r).getD i 0).testBit j=true
 | 0,i,hi,h=>by
  simp [nl] at h;subst h;rw [qe6,qms n i hi,Nat.testBit_two_pow];simp
 | r+1,i,hi,h=>by
  have hl:(qe6 P (qch n) r).length=n:=by rw [qef,qcw]
  rcases qdv.1 h with h'|⟨p,hp,rfl,h'⟩
  ·exact qfv P hP _ hl _ _ (qle hP j r i hi h')
  ·exact qqm P hP _ hl p hp j (qle hP j r p.2 (hP p hp).2 h')
theorem qgr (hP:InR n P)(hi:i<n)(j:Nat):((clo n P).getD i 0).testBit j=true↔j<n∧rea P n i j=true:=
 ⟨qld hP n i j,fun h=>qle hP j n i hi h.2⟩
theorem qqn (hP:InR n P)(i:Nat):(clo n P).getD i 0<2 ^ n:=
 Nat.lt_pow_two_of_testBit _ fun j hj=>by
  cases h:((clo n P).getD i 0).testBit j with
  | false=>rfl
  | true=>have:=(qld hP n i j h).1;omega
def midU (n:Nat)(P:List (Nat×Nat))(r k:Nat):List Nat:=(P.take k).foldl qgq (qe6 P (qch n) r)
theorem qqo (n:Nat)(P:List (Nat×Nat))(r k:Nat):(midU n P r k).length=n:=by rw [midU,qmr,qef,qcw]
theorem qmt (n:Nat)(P:List (Nat×Nat))(r:Nat):midU n P r 0=qe6 P (qch n) r:=by simp [midU]
theorem qmu (n:Nat)(P:List (Nat×Nat))(r k:Nat)(h:k<P.length):midU n P r (k+1)=qgq (midU n P r k) (P.getD k (0,0)):=by
 rw [midU,List.take_succ_eq_append_getElem h,List.foldl_append];simp [midU,List.getD,List.getElem?_eq_getElem h]
theorem qmv (n:Nat)(P:List (Nat×Nat))(r:Nat):midU n P r P.length=qe6 P (qch n) (r+1):=by simp [midU,qe6,quj]
theorem qlf (hP:InR n P)(r k i:Nat):(midU n P r k).getD i 0<2 ^ n:=
 Nat.lt_pow_two_of_testBit _ fun j hj=>by
  cases h:((midU n P r k).getD i 0).testBit j with
  | false=>rfl
  | true=>
   have:=(qlc hP (P.take k) (fun p hp=>List.mem_of_mem_take hp) _ (by rw [qef,qcw]) (qld hP r) i j h).1;omega
def both (P:List (Nat×Nat)):List (Nat×Nat):=P.flatMap fun p=>[p,(p.2,p.1)]
theorem qfw:q∈both P↔q∈P∨(q.2,q.1)∈P:=by
 constructor
 ·intro h
  obtain ⟨p,hp,hq⟩:=List.mem_flatMap.1 h;simp only [List.mem_cons,List.not_mem_nil,or_false] at hq;rcases hq with rfl|rfl
  ·exact .inl hp
  ·exact .inr hp
 ·rintro (h|h)
  ·exact List.mem_flatMap.2 ⟨_,h,by simp⟩
  ·exact List.mem_flatMap.2 ⟨_,h,by simp⟩
theorem qgs (hP:InR n P):InR n (both P):=by
 intro q hq;rcases qfw.1 hq with h|h
 ·exact hP q h
 ·exact ⟨(hP _ h).2,(hP _ h).1⟩
theorem qmw (h:q∈both P):(q.2,q.1)∈both P:=qfw.2 (by
 rcases qfw.1 h with h|h
 ·exact .inr h
 ·exact .inl h)
theorem qqp (hP:InR n P)(hi:i<n)(_hj:j<n)(h:rea (both P) n i j=true):rea (both P) n j i=true:=by
 have hB:=qgs hP;have:i<n→rea (both P) n j i=true:=by
  refine qql (P:=both P) (j:=j) (Q:=fun x=>x<n→rea (both P) n j x=true) (fun _=>qhz _ _ _) (fun p hp hq aa=>?_) n i h;refine qfu hB aa (hq (hB p hp).2) ?_;exact qft hB aa (qmw hp) (qhz _ _ _)
 exact this hi
def qff (V:List Nat)(p:Nat×Nat):List Nat:=(V.set p.1 (min (V.getD p.1 0) (V.getD p.2 0))).set p.2 (min (V.getD p.1 0) (V.getD p.2 0))
def qfg (P:List (Nat×Nat))(V:List Nat):Nat→List Nat
 | 0=>V
 | r+1=>P.foldl qff (qfg P V r)
def kin (n:Nat)(P:List (Nat×Nat)):List Nat:=qfg P (List.range n) n
theorem qfx (V:List Nat)(p:Nat×Nat):(qff V p).length=V.length:=by simp [qff]
theorem qmx (L:List (Nat×Nat)):∀ V:List Nat,(L.foldl qff V).length=V.length:=by
 induction L with
 | nil=>intro U;rfl
 | cons p L ih=>intro U;rw [List.foldl_cons,ih,qfx]
theorem qeg (P:List (Nat×Nat))(V:List Nat)(r:Nat):(qfg P V r).length=V.length:=by
 induction r with
 | zero=>rfl
 | succ r ih=>rw [qfg,qmx,ih]
theorem qfy{V:List Nat}(h1:p.1<V.length)(h2:p.2<V.length)(i:Nat):(qff V p).getD i 0=if i=p.1∨i=p.2 then min (V.getD p.1 0) (V.getD p.2 0) else V.getD i 0:=by
 rw [qff,qd6 _ _ (by simpa using h2)];by_cases hi:i=p.2
 ·rw [if_pos hi,if_pos (.inr hi)]
 ·rw [if_neg hi,qd6 _ _ h1]
  by_cases hj:i=p.1
  ·rw [if_pos hj,if_pos (.inl hj)]
  ·rw [if_neg hj,if_neg (by rintro (h|h)<;>contradiction)]
def SndK (n:Nat)(P:List (Nat×Nat))(V:List Nat):Prop:=∀ i,i<n→V.getD i 0<n∧rea (both P) n i (V.getD i 0)=true
theorem quk (hP:InR n P){V:List Nat}(hV:V.length=n)(h:SndK n P V)(hp:p∈P):SndK n P (qff V p):=by
 intro i hi;obtain ⟨p1,p2⟩:=hP p hp;rw [qfy o_ o_];obtain ⟨a1,a2⟩:=h p.1 p1;obtain ⟨b1,b2⟩:=h p.2 p2;have ab:p∈both P:=qfw.2 (.inl hp);by_cases hc:i=p.1∨i=p.2
 ·rw [if_pos hc]
  rcases Nat.le_total (V.getD p.1 0) (V.getD p.2 0) with aa|aa
  ·rw [Nat.min_eq_left aa]
   refine ⟨a1,?_⟩;rcases hc with rfl|rfl
   ·exact a2
   ·exact qft (qgs hP) a1 (qmw ab) a2
  ·rw [Nat.min_eq_right aa]
   refine ⟨b1,?_⟩;rcases hc with rfl|rfl
   ·exact qft (qgs hP) b1 ab b2
   ·exact b2
 ·rw [if_neg hc];exact h i hi
theorem qin {n:Nat}{P:List (Nat×Nat)}(hP:InR n P):∀ (L:List (Nat×Nat)),(∀ p∈L,p∈P)→∀ V:List Nat,V.length=n→SndK n P V→SndK n P (L.foldl qff V)
 | [],_,V,_,h=>h
 | p::L,hL,V,hV,h=>qin hP L (fun q hq=>hL q (by simp [hq])) _ (by rw [qfx,hV]) (quk hP hV h (hL p (by simp)))
theorem qio (hP:InR n P)(r:Nat):SndK n P (qfg P (List.range n) r):=by
 induction r with
 | zero=>
  intro i hi;have:(List.range n).getD i 0=i:=by simp [List.getD,hi]
  rw [qfg,this];exact ⟨hi,qhz _ _ _⟩
 | succ r ih=>exact qin hP P (fun _ h=>h) _ (by rw [qeg];simp) ih
theorem qcq {n:Nat}:∀ (L:List (Nat×Nat)),InR n L→∀ (V:List Nat),V.length=n→∀ i,(L.foldl qff V).getD i 0≤V.getD i 0
 | [],_,_,_,_=>Nat.le_refl _
 | p::L,hL,V,hV,i=>by
  refine Nat.le_trans (qcq L (fun q hq=>hL q (by simp [hq])) _ (by rw [qfx,hV]) i) ?_;obtain ⟨p1,p2⟩:=hL p (by simp);rw [qfy o_ o_];by_cases hc:i=p.1∨i=p.2
  ·rw [if_pos hc]
   rcases hc with rfl|rfl<;>omega
  ·rw [if_neg hc];exact Nat.le_refl _
theorem qip {n:Nat}:∀ (L:List (Nat×Nat)),InR n L→∀ (V:List Nat),V.length=n→∀ p∈L,(L.foldl qff V).getD p.1 0≤V.getD p.2 0∧(L.foldl qff V).getD p.2 0≤V.getD p.1 0
 | [],_,_,_,p,hp=>by simp at hp
 | q::L,hL,V,hV,p,hp=>by
  have aa:InR n L:=fun x hx=>hL x (by simp [hx])
  obtain ⟨q1,q2⟩:=hL q (by simp);have hlen:(qff V q).length=n:=by rw [qfx,hV]
  rcases List.mem_cons.1 hp with rfl|hp'
  ·have g1:=qcq L aa _ hlen p.1
   have g2:=qcq L aa _ hlen p.2;rw [qfy o_ o_,if_pos (.inl rfl)] at g1;rw [qfy o_ o_,if_pos (.inr rfl)] at g2;rw [List.foldl_cons];omega
  ·have g:=qip L aa _ hlen p hp'
   have g1:=qcq [q] (fun x hx=>by simp at hx;subst hx;exact ⟨q1,q2⟩) V hV p.1;have g2:=qcq [q] (fun x hx=>by simp at hx;subst hx;exact ⟨q1,q2⟩) V hV p.2;simp only [List.foldl_cons,List.foldl_nil] at g1 g2;rw [List.foldl_cons];omega
theorem qiq {n:Nat}{P:List (Nat×Nat)}(hP:InR n P)(j:Nat):∀ (r i:Nat),i<n→nl (both P) j r i=true→(qfg P (List.range n) r).getD i 0≤j
 | 0,i,hi,h=>by
  simp [nl] at h;subst h;simp [qfg,List.getD,hi]
 | r+1,i,hi,h=>by
  have hl:(qfg P (List.range n) r).length=n:=by rw [qeg];simp
  rcases qdv.1 h with h'|⟨p,hp,rfl,h'⟩
  ·exact Nat.le_trans (qcq P hP _ hl _) (qiq hP j r i hi h')
  ·have aa:=(qgs hP p hp).2
   have ih:=qiq hP j r p.2 aa h';rcases qfw.1 hp with hm|hm
   ·exact Nat.le_trans (qip P hP _ hl p hm).1 ih
   ·exact Nat.le_trans (qip P hP _ hl _ hm).2 ih
theorem qir (n:Nat)(P:List (Nat×Nat)):(kin n P).length=n:=by rw [kin,qeg];simp
theorem qqq (hP:InR n P)(hi:i<n):
  (kin n P).getD i 0<n∧rea (both P) n i ((kin n P).getD i 0)=true∧∀ j,rea (both P) n i j=true→(kin n P).getD i 0≤j:=
 ⟨(qio hP n i hi).1,(qio hP n i hi).2,fun j h=>qiq hP j n i hi h⟩
def midK (n:Nat)(P:List (Nat×Nat))(r k:Nat):List Nat:=(P.take k).foldl qff (qfg P (List.range n) r)
theorem qxy (n:Nat)(P:List (Nat×Nat))(r k:Nat):(midK n P r k).length=n:=by rw [midK,qmx,qeg];simp
theorem qul (n:Nat)(P:List (Nat×Nat))(r:Nat):midK n P r 0=qfg P (List.range n) r:=by simp [midK]
theorem qum (n:Nat)(P:List (Nat×Nat))(r k:Nat)(h:k<P.length):midK n P r (k+1)=qff (midK n P r k) (P.getD k (0,0)):=by
 rw [midK,List.take_succ_eq_append_getElem h,List.foldl_append];simp [midK,List.getD,List.getElem?_eq_getElem h]
theorem qun (n:Nat)(P:List (Nat×Nat))(r:Nat):midK n P r P.length=qfg P (List.range n) (r+1):=by simp [midK,qfg]
theorem quo (hP:InR n P)(r k i:Nat)(hi:i<n):(midK n P r k).getD i 0<n:=
 (qin hP (P.take k) (fun p hp=>List.mem_of_mem_take hp) _ (by rw [qeg];simp) (qio hP r) i hi).1
def qC7 (a b:Nat):Nat:=a ^^^ (a &&& b)
end sortm
end Go.Proofs.YtiilamngcoegiaaGreat
