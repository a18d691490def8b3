/- parts -/
import Derived.Test.YtiilamngcoegiaaGreatQTermb
import Derived.Test.YtiilamngcoegiaaGreatQZr
import Derived.Test.YtiilamngcoegiaaGreatQPk06
import Derived.BigQuiet
namespace Go.Proofs.YtiilamngcoegiaaGreat
open Go.ChangeShapes Go.WideShapes Go.ChangeAt Go.RowKit
variable {w w' W w0 wr w3 w5 w1:World}{n x lo d k j g base m y o lo' cr g4 aa:Nat}{X:List Nat}{xs:List Value}{a b c va v u0 a2 a3 a4 b0 b1 b2 b3 b4:Value}{O:List sigm.OpM}{P:List (List UInt8)}{Q:List (Int×Int)}{e:TypeId}{r:Option Nat}{A Ar:Option Addr}
namespace rowg
open mem rowl trm trmv terml termb termt
section
variable {P:Program} {w:World}
theorem qbc{ah:Array Oper}{o:Oper}{a:Act}{K:Act→World→Prop}{Q:Exit→Act→World→Prop}{E:Prop}(ai:o.guard=none)(s x:Operand)(t:TypeId)(ho:o.op=.call { callee:=.builtin .append,args:=#[s,x],argTypes:=#[t,t] })(base:Nat)(e:TypeId)(i:TypeInfo)(z:Value)(size aa:Nat)(ht:P.underlying t=some (.slice e))(hi:P.info? e=some i)(hz:i.zero=some z)(ae:i.size=size)(aj:i.bytes=aa)(ak:z.cells.size=size)(hsz:0<size)(v:Value)(n:Nat)(xs:List Value)(hs:a.eval s=v)(hown:w.ownsRow base e size v n xs)(ad:Addr)(m c:Nat)(ab:List Value)(hx:a.eval x=.slice (some ad) m c)(hm:0<m)(hl:ab.length=m*size)(af:∀ j u,ab[j]? =some u→w.cell? (ad.add j)=some u)(h1:∀ u∈ab,u.oneCell'=true)(al:n+m≤maxLen)(ac:(n+m)*aa≤140737488355328)(ag:base≤w.heap.size)(h:∀ g' cap' w',w'.ownsRow base e size (.slice (some ⟨g',0,none⟩) (n+m) cap') (n+m) (xs++ab)→w.grownBy w' v.ownBlock→(v.ownBlock=some g'∨g'=w.heap.size)→g'<w'.heap.size→K (a.put o.dst (.slice (some ⟨g',0,none⟩) (n+m) cap')) w'):
  if Region.wanted o (yielded ah a.tmps)=true then Oper.wp P o a w K Q else E:=by
 have hw:Region.wanted o (yielded ah a.tmps)=true:=by simp [Region.wanted,ai]
 rw [if_pos hw];obtain ⟨v',w',hr,h2,h3,h4,h5⟩:=run_append_own_at (P:=P) (w:=w) base t o.type e i z size aa ht hi hz ae aj ak hsz v n xs hown ad m c ab hl af h1 al ac ag;have am:v'≠.slice none 0 0:=fun e=>by have:=(h4.1 e).2;omega
 rcases h2.2 with ⟨h',_⟩|⟨g',cap',cur,h',hb,hg,hnc,hcm,hcs,htake⟩
 ·exact absurd h' am
 subst h';unfold Oper.wp execOp;simp only [ho,resolve,invoke,builtin,Sem.run_bind,Sem.run_pure,Result.andThen_ok,List.map_toArray,List.map_cons,List.map_nil,hs,hx,hr];refine h _ _ _ h2 h3 ?_ (q_ hg);rcases h5 with h5|h5
 ·exact .inl (by rw [← h5];rfl)
 ·exact .inr (by simpa [Value.ownBlock] using h5)
end
def KX (lo:Nat)(X:List Nat)(w w':World):Prop:=w.heap.size≤w'.heap.size∧∀ k,lo≤k→k<w.heap.size→k ∉ X→w'.heap[k]? =w.heap[k]?
theorem KX.trans {lo:Nat}{X:List Nat}{a b c:World}(h:KX lo X a b)(k:KX lo X b c):KX lo X a c:=⟨Nat.le_trans h.1 k.1,fun i h1 h2 h3=>(k.2 i h1 (w_ h2 h.1) h3).trans (h.2 i h1 h2 h3)⟩
theorem KX.below (hb:Below w.heap.size w w'):KX lo X w w':=⟨hb.size,fun k _ hk _=>hb.block k hk⟩
theorem KX.set (hg:g∈X)(j:Nat)(u:Value):KX lo X w (w.setCell ⟨g,j,none⟩ u):=⟨by simp [World.setCell],fun k _ _ h3=>Below.heap_setCell w ⟨g,j,none⟩ u k (fun e=>h3 (by rw [e];exact hg))⟩
def Child (P:TermM→Prop)(d lo:Nat)(X:List Nat)(w:World)(va:Value)(t:TermM):Prop:=P t∧∃ (lo':Nat) (wc:World),lo≤lo'∧HasTs d lo' wc va t.args∧Kept lo' wc w∧∀ x∈X,x<lo'∨wc.heap.size≤x
theorem Child.kx{P:TermM→Prop}{t:TermM}(h:Child P d lo X w va t)(hk:KX lo X w w'):Child P d lo X w' va t:=by
 obtain ⟨hr,lo',wc,h1,h2,h3,h4⟩:=h;refine ⟨hr,lo',wc,h1,h2,⟨Nat.le_trans h3.1 hk.1,fun k aa ab=>?_⟩,h4⟩;have h5:=h3.1;rw [hk.2 k o_ o_ (fun hm=>by have:=h4 k hm;omega)];exact h3.2 k aa ab
theorem Child.new{P:TermM→Prop}{t:TermM}(hr:P t)(h:HasTs d lo' w va t.args)(hl:lo≤lo')(hX:∀ x∈X,x<lo'∨w.heap.size≤x):Child P d lo X w va t:=⟨hr,lo',w,hl,h,Kept.refl _ _,hX⟩
theorem Child.has{P:TermM→Prop}{t:TermM}(h:Child P d lo X w va t):HasTs d lo w va t.args:=by
 obtain ⟨hr,lo',wc,h1,h2,h3,h4⟩:=h;exact HasR.mono (qa7 d) (HasR.kept (qa7 d) h2 h3) h1
theorem qlp{size:Nat}(h:w.ownsRow base e size v n xs)(hb:∀ g,v.ownBlock=some g→w'.heap[g]? =w.heap[g]?):w'.ownsRow base e size v n xs:=by
 refine ⟨h.1,?_⟩;rcases h.2 with h4|⟨g,cap,cur,rfl,hg,hh,r⟩
 ·exact .inl h4
 ·exact .inr ⟨g,cap,cur,rfl,hg,by rw [hb g rfl];exact hh,r⟩
def CKids (P:TermM→Prop)(d lo:Nat)(X:List Nat)(w:World)(v:Value)(m:Nat)(L:List TermM):Prop:=m=L.length∧(∀ g,v.ownBlock=some g→g∈X)∧∃ xs,w.ownsRow lo 38 4 v m xs∧∀ j,j<m→∃ va,qc6 xs j (L.getD j default) va∧Child P d lo X w va (L.getD j default)
theorem CKids.kx {P:TermM→Prop}{d lo:Nat}{X:List Nat}{w w':World}{v:Value}{m:Nat}{L:List TermM}(h:CKids P d lo X w v m L)(hk:KX lo X w w')(hg:∀ g,v.ownBlock=some g→w'.heap[g]? =w.heap[g]?):CKids P d lo X w' v m L:=by
 obtain ⟨h1,h0,xs,h2,h3⟩:=h;refine ⟨h1,h0,xs,qlp h2 hg,fun j hj=>?_⟩;obtain ⟨va,h4,h5⟩:=h3 j hj;exact ⟨va,h4,h5.kx hk⟩
theorem CKids.nil{P:TermM→Prop}:CKids P d lo X w (.slice none 0 0) 0 []:=⟨rfl,fun g hg=>by simp [Value.ownBlock] at hg,[],⟨rfl,.inl ⟨rfl,rfl⟩⟩,fun j hj=>by omega⟩
theorem c42_{p:Prop}(h:p:=by
 rw [List.getElem?_append_right o_,hl,Nat.add_sub_cancel_left];rfl
):p:=h
theorem CKids.snoc{P:TermM→Prop}{X':List Nat}{v':Value}{L:List TermM}{t:TermM}(h:CKids P d lo X w v m L)(hc:Child P d lo X w va t)(ab:∀ x∈X',x∈X∨w.heap.size≤x)(hg:w.grownBy w' v.ownBlock)(ac:∀ g,v'.ownBlock=some g→g∈X')(ho:∀ xs,w.ownsRow lo 38 4 v m xs→w'.ownsRow lo 38 4 v' (m+1) (xs++[.int .i64 t.op,.string (bstr t.name),.int .i64 t.sort,va])):CKids P d lo X' w' v' (m+1) (L++[t]):=by
 obtain ⟨h1,h0,xs,h2,h3⟩:=h;have hl:=h2.1
 have aa:∀ {vb:Value} {u:TermM},Child P d lo X w vb u→Child P d lo X' w' vb u:=fun hc=>by
  obtain ⟨hr,ad,ae,b1,b2,b3,b4⟩:=hc
  exact ⟨hr,ad,ae,b1,b2,⟨Nat.le_trans b3.1 hg.size,fun k c1 c2=>by
   rw [hg.block k (w_ c2 b3.1) (by intro e;have:=b4 _ (h0 k e.symm);omega)]
   exact b3.2 k c1 c2⟩,fun x hx=>by
   rcases ab x hx with h|h
   ·exact b4 x h
   ·exact .inr (Nat.le_trans b3.1 h)⟩
 refine ⟨by rw [List.length_append,← h1];rfl,ac,_,ho xs h2,fun j hj=>?_⟩;by_cases af:j<m
 ·obtain ⟨vb,⟨e0,e1,e2,e3⟩,h5⟩:=h3 j af
  have e:(L++[t]).getD j default=L.getD j default:=by simp only [List.getD];rw [List.getElem?_append_left o_]
  rw [e];exact ⟨vb,⟨by rw [List.getElem?_append_left o_];exact e0,by rw [List.getElem?_append_left o_];exact e1,by rw [List.getElem?_append_left o_];exact e2,by rw [List.getElem?_append_left o_];exact e3⟩,aa h5⟩
 ·obtain rfl:j=m:=o_
  have e:(L++[t]).getD j default=t:=by simp only [List.getD];rw [List.getElem?_append_right o_,h1,Nat.sub_self];rfl
  rw [e];refine ⟨va,⟨?_,?_,?_,?_⟩,aa hc⟩
  ·rw [List.getElem?_append_right o_,hl,Nat.sub_self];rfl
  ·exact c42_
  ·exact c42_
  ·exact c42_
theorem CKids.has {d lo:Nat}{X:List Nat}{w:World}{v:Value}{m:Nat}{L:List TermM}(h:CKids Bnd d lo X w v m L):HasTs (d+1) lo w v L:=by
 obtain ⟨h1,h0,xs,h2,h3⟩:=h;refine HasR.of_own h2 h1.symm (fun j hj=>?_);obtain ⟨va,⟨e0,e1,e2,e3⟩,h5⟩:=h3 j hj;refine ⟨[.int .i64 (L.getD j default).op,.string (bstr (L.getD j default).name),.int .i64 (L.getD j default).sort,va],fun i hi=>?_,va,rfl,h5.has,h5.1.1,h5.1.2.1,h5.1.2.2⟩;match i,hi with
 | 0,_=>exact e0
 | 1,_=>exact e1
 | 2,_=>exact e2
 | 3,_=>exact e3
def Bx (w:World)(x:Nat)(a b c d:Value):Prop:=w.heap[x]? =some (.cells #[a,b,c,d] 38 (0,0))
theorem Bx.cells{d:Value}(h:Bx w x a b c d):(w.cell? ⟨x,0,none⟩=some a∧w.cell? ⟨x,1,none⟩=some b∧w.cell? ⟨x,2,none⟩=some c∧w.cell? ⟨x,3,none⟩=some d)∧w.frozen? ⟨x,0,none⟩=false∧w.frozen? ⟨x,1,none⟩=false∧w.frozen? ⟨x,2,none⟩=false∧w.frozen? ⟨x,3,none⟩=false:=
 ⟨⟨h_ w x 0 _ _ _ h,h_ w x 1 _ _ _ h,h_ w x 2 _ _ _ h,h_ w x 3 _ _ _ h⟩,g_ w x 0 _ _ h,g_ w x 1 _ _ h,g_ w x 2 _ _ h,g_ w x 3 _ _ h⟩
theorem Bx.lt{d:Value}(h:Bx w x a b c d):x<w.heap.size:=(q_ h)
theorem Bx.set{d:Value}(h:Bx w x a b c d)(u:Value):Bx (w.setCell ⟨x,3,none⟩ u) x a b c u:=by
 have:=heap_setCell_same w x 3 #[a,b,c,d] 38 u h;simpa [Bx] using this
theorem Bx.far{i:Nat}{d:Value}(h:Bx w x a b c d)(aa:x≠y)(u:Value):Bx (w.setCell ⟨y,i,none⟩ u) x a b c d:=(Below.heap_setCell w ⟨y,i,none⟩ u x aa).trans h
theorem Bx.grown{d:Value}(h:Bx w x a b c d)(hg:w.grownBy w' r)(aa:some x≠r):Bx w' x a b c d:=(hg.block x h.lt aa).trans h
theorem Bx.below{d:Value}(h:Bx w x a b c d)(hb:Below w.heap.size w w'):Bx w' x a b c d:=(hb.block x h.lt).trans h
theorem qqw{base' size:Nat}{e':TypeId}{ys:List Value}(h:w.ownsRow base e size v n xs)(h':w.ownsRow base' e' size v n ys):xs=ys:=by
 rcases h.2 with ⟨_,h0⟩|⟨g,cap,cur,rfl,_,_⟩
 ·have a:=h.1
  have b:=h'.1;rw [h0,Nat.zero_mul] at a b;rw [List.eq_nil_of_length_eq_zero a,List.eq_nil_of_length_eq_zero b]
 ·apply List.ext_getElem?
  intro j;by_cases hj:j<n*size
  ·have a:=h.cellAt j hj
   have b:=h'.cellAt j hj;rw [← a,← b]
  ·rw [List.getElem?_eq_none (by have:=h.1;omega),List.getElem?_eq_none (by have:=h'.1;omega)]
theorem c41_{p:Prop}(h:p:=by
 rw [e] at hg;simp [Value.ownBlock] at hg;subst hg;exact ⟨h1,(q_ h2)⟩
):p:=h
theorem qcy{size:Nat}(h:w.ownsRow base e size v n xs):∀ g,v.ownBlock=some g→base≤g∧g<w.heap.size:=fun g hg=>by
 rcases h.2 with ⟨e,_⟩|⟨g',cap',cur,e,h1,h2,_⟩
 ·rw [e] at hg;simp [Value.ownBlock] at hg
 ·exact c41_
theorem qg5{size:Nat}(h:w.ownsRow base e size v n xs)(hg:w.grownBy w' r)(hn:∀ g,v.ownBlock=some g→r≠some g):w'.ownsRow base e size v n xs:=by
 refine qlp h (fun g hv=>?_);rcases h.2 with ⟨rfl,_⟩|⟨g',cap,cur,rfl,_,hh,_⟩
 ·simp [Value.ownBlock] at hv
 ·simp [Value.ownBlock] at hv
  subst hv;exact hg.block _ (q_ hh) (fun e=>hn g' rfl e.symm)
theorem qdh (w:World)(a b c d:Value)(t:TypeId):∀ (j:Nat) (x:Value),[a,b,c,d][j]? =some x→(w.alloc (.cells #[a,b,c,d] t)).cell? ((⟨w.heap.size,0,none⟩:Addr).add j)=some x:=by
 intro j x hx;rw [Addr.add_lit,Nat.zero_add];match j,hx with
 | 0,hx=>simpa using hx
 | 1,hx=>simpa using hx
 | 2,hx=>simpa using hx
 | 3,hx=>simpa using hx
theorem qcr{d:Value}(h:a.oneCell'=true)(h1:b.oneCell'=true)(h2:c.oneCell'=true)(h3:d.oneCell'=true):∀ x∈[a,b,c,d],x.oneCell'=true:=by
 intro x hx;simp only [List.mem_cons,List.not_mem_nil,or_false] at hx;rcases hx with rfl|rfl|rfl|rfl<;>assumption
structure CS (w:World) (op:Int) (nm:List UInt8) (so:Int) (A:Option Addr) (m c:Nat) (L:List TermM) (d j:Nat) (Ar:Option Addr) (cr:Nat) (wr:World):Prop where
 below:Below w.heap.size w wr
 ib:Bx wr w.heap.size (.int .i64 op) (.string (bstr nm)) (.int .i64 so) (.slice A m c)
 rb:Bx wr (w.heap.size+1) (.int .i64 0) (.string { data:=#[] }) (.int .i64 0) (.slice none 0 0)
 ob:Bx wr (w.heap.size+1+1) (.int .i64 op) (.string (bstr nm)) (.int .i64 so) (.slice Ar j cr)
 kids:CKids Bnd d (w.heap.size+3) ((Value.slice Ar j cr).ownBlock.toList++[w.heap.size+1+1]) wr (.slice Ar j cr) j (L.take j)
theorem CS.next{op:Int}{nm:List UInt8}{so:Int}{c:Nat}{L:List TermM}{u:TermM}(h:CS w op nm so A m c L d j Ar cr wr)(hu:u=L.getD j default)(hj:j<L.length)(ai:Below wr.heap.size wr w3)(hh:HasTs d wr.heap.size w3 va u.args)(hB:Bnd u)(ho:wr.ownsRow (w.heap.size+3) 38 4 (.slice Ar j cr) j xs)(hown:w5.ownsRow (w.heap.size+3) 38 4 (.slice (some ⟨g4,0,none⟩) (j+1) aa) (j+1) (xs++[.int .i64 u.op,.string (bstr u.name),.int .i64 u.sort,va]))(ae:(w3.alloc (.cells #[.int .i64 u.op,.string (bstr u.name),.int .i64 u.sort,va] 38)).grownBy w5 (Value.slice Ar j cr).ownBlock)(hg4:(Value.slice Ar j cr).ownBlock=some g4∨g4=(w3.alloc (.cells #[.int .i64 u.op,.string (bstr u.name),.int .i64 u.sort,va] 38)).heap.size):
  CS w op nm so A m c L d (j+1) (some ⟨g4,0,none⟩) aa (w5.setCell ⟨w.heap.size+1+1,3,none⟩ (.slice (some ⟨g4,0,none⟩) (j+1) aa))∧Bx w5 (w.heap.size+1+1) (.int .i64 op) (.string (bstr nm)) (.int .i64 so) (.slice Ar j cr):=by
 subst hu;have af:Below w3.heap.size w3 (w3.alloc (.cells #[.int .i64 (L.getD j default).op,.string (bstr (L.getD j default).name),.int .i64 (L.getD j default).sort,va] 38)):=b_.alloc n_ _;have aj:(w3.alloc (.cells #[.int .i64 (L.getD j default).op,.string (bstr (L.getD j default).name),.int .i64 (L.getD j default).sort,va] 38)).heap.size=w3.heap.size+1:=by simp
 have ak:=ai.size;have ap:=h.ob.lt
 have ac:∀ g,(Value.slice Ar j cr).ownBlock=some g→w.heap.size+3≤g∧g<wr.heap.size:=fun g hg=>by
  rcases ho.2 with ⟨e,_⟩|⟨g',cap',cur,e,h1,h2,_⟩
  ·rw [e] at hg;simp [Value.ownBlock] at hg
  ·exact c41_
 have aq:w.heap.size+3≤g4:=by
  rcases hg4 with e|e
  ·exact (ac g4 e).1
  ·omega
 have ag:∀ x,x<w.heap.size+3→some x≠(Value.slice Ar j cr).ownBlock:=fun x hx e=>by have:=(ac x e.symm).1;omega
 generalize au:w3.alloc (.cells #[.int .i64 (L.getD j default).op,.string (bstr (L.getD j default).name),.int .i64 (L.getD j default).sort,va] 38)=w4 at af aj ae hg4
 have ab:=ai.trans (af.mono ak);have ah:=fun {x:Nat} {a b c d:Value} (hx:Bx wr x a b c d) (hl:x<w.heap.size+3)=>(hx.below ab).grown ae (ag x hl)
 have ad:=ah h.ob o_;refine ⟨⟨?_,(ah h.ib o_).far o_ _,(ah h.rb o_).far o_ _,ad.set _,?_⟩,ad⟩
 ·exact ((h.below.trans (ab.mono h.below.size)).grown ae (by have:=h.below.size;have:=ab.size;omega) (fun k hk=>by have:=(ac k hk).1;omega)).setCell (by show w.heap.size≤w.heap.size+1+1;omega) _
 ·have al:CKids Bnd d (w.heap.size+3) ((Value.slice Ar j cr).ownBlock.toList++[w.heap.size+1+1]) w4 (.slice Ar j cr) j (L.take j):=h.kids.kx (KX.below ab) (fun g hg=>ab.block g (ac g hg).2)
  have hc:Child Bnd d (w.heap.size+3) ((Value.slice Ar j cr).ownBlock.toList++[w.heap.size+1+1]) w3 va (L.getD j default):=Child.new hB hh o_ (fun x hx=>by
   rcases List.mem_append.1 hx with hx|hx
   ·left;exact (ac x (by simpa using hx)).2
   ·simp at hx;left;omega)
  have am:=hc.kx (KX.below (lo:=w.heap.size+3) af);have an:=own_below ho ab
  have ao:CKids Bnd d (w.heap.size+3) ((Value.slice (some ⟨g4,0,none⟩) (j+1) aa).ownBlock.toList++[w.heap.size+1+1]) w5 (.slice (some ⟨g4,0,none⟩) (j+1) aa) (j+1) (L.take j++[L.getD j default]):=al.snoc am (fun x hx=>by
   rcases List.mem_append.1 hx with hx|hx
   ·simp [Value.ownBlock] at hx
    subst hx;rcases hg4 with e|e
    ·exact .inl (List.mem_append.2 (.inl (by simp [e])))
    ·exact .inr o_
   ·exact .inl (List.mem_append.2 (.inr hx))) ae (fun g hg=>List.mem_append.2 (.inl (by simp [hg]))) (fun ys hy=>by rw [qqw hy an];exact hown)
  rw [List.take_succ_eq_append_getElem hj,← qai hj];exact ao.kx (KX.set (by simp) _ _) (fun g hg=>Below.heap_setCell w5 ⟨w.heap.size+1+1,3,none⟩ _ g (by simp [Value.ownBlock] at hg;show g≠w.heap.size+1+1;omega))
theorem qAw{B:Nat}{L:List TermM}{u:TermM}(hu:u=L.getD j default)(hj:j<L.length)(h:CKids Bnd d B (Value.slice Ar j cr).ownBlock.toList wr (.slice Ar j cr) j (L.take j))(af:B≤wr.heap.size)(ag:Below wr.heap.size wr w3)(hh:HasTs d wr.heap.size w3 va u.args)(hB:Bnd u)(ho:wr.ownsRow B 38 4 (.slice Ar j cr) j xs)(hown:w5.ownsRow B 38 4 (.slice (some ⟨g4,0,none⟩) (j+1) aa) (j+1) (xs++[.int .i64 u.op,.string (bstr u.name),.int .i64 u.sort,va]))(ac:(w3.alloc (.cells #[.int .i64 u.op,.string (bstr u.name),.int .i64 u.sort,va] 38)).grownBy w5 (Value.slice Ar j cr).ownBlock)(hg4:(Value.slice Ar j cr).ownBlock=some g4∨g4=(w3.alloc (.cells #[.int .i64 u.op,.string (bstr u.name),.int .i64 u.sort,va] 38)).heap.size):
  CKids Bnd d B (Value.slice (some ⟨g4,0,none⟩) (j+1) aa).ownBlock.toList w5 (.slice (some ⟨g4,0,none⟩) (j+1) aa) (j+1) (L.take (j+1))∧Below B wr w5:=by
 subst hu;have ad:Below w3.heap.size w3 (w3.alloc (.cells #[.int .i64 (L.getD j default).op,.string (bstr (L.getD j default).name),.int .i64 (L.getD j default).sort,va] 38)):=b_.alloc n_ _;have ah:(w3.alloc (.cells #[.int .i64 (L.getD j default).op,.string (bstr (L.getD j default).name),.int .i64 (L.getD j default).sort,va] 38)).heap.size=w3.heap.size+1:=by simp
 have ai:=ag.size;have ae:=qcy ho;generalize am:w3.alloc (.cells #[.int .i64 (L.getD j default).op,.string (bstr (L.getD j default).name),.int .i64 (L.getD j default).sort,va] 38)=w4 at ad ah ac hg4
 have ab:=ag.trans (ad.mono ai);have aj:=h.kx (KX.below ab) (fun g hg=>ab.block g (ae g hg).2);have hc:Child Bnd d B (Value.slice Ar j cr).ownBlock.toList w3 va (L.getD j default):=Child.new hB hh af (fun x hx=>by left;exact (ae x (by simpa using hx)).2);have ak:=hc.kx (KX.below (lo:=B) ad);have al:=own_below ho ab;refine ⟨?_,(ab.mono af).grown ac (by have:=ab.size;omega) (fun k hk=>(ae k hk).1)⟩;rw [List.take_succ_eq_append_getElem hj,← qai hj]
 exact aj.snoc ak (fun x hx=>by
  simp [Value.ownBlock] at hx;subst hx;rcases hg4 with e|e
  ·exact .inl (by simp [e])
  ·exact .inr o_) ac (fun g hg=>by simp [hg]) (fun ys hy=>by rw [qqw hy al];exact hown)
end rowg

namespace gram
open mem subs sortp sorti sortf rowl sigm sigs sigi sigk sigv rowg
abbrev OpE:=OpM×Nat×Shp
instance:Inhabited OpE:=⟨(default,0,zsh)⟩
def encE (x:OpE)(vd:Value):List Value:=[.string (bstr x.1.name),vd,.bool x.1.ass,.bool x.1.com,.int .i64 x.1.unt,.int .i64 (x.2.1:Int),.int .i64 (x.2.2.1:Int),.int .u16 (x.2.2.2.1:Int),.int .u16 (x.2.2.2.2.1:Int),.int .u16 (x.2.2.2.2.2.1:Int),.int .u16 (x.2.2.2.2.2.2:Int)]
def RE:qhq OpE:=fun lo w cs x=>∃ vd,cs=encE x vd∧HasD lo w vd x.1.decls∧x.1.name.length≤maxLen∧I64 x.1.unt
theorem qnc:Steady RE:=⟨fun ⟨va,e,h,r⟩ hk=>⟨va,e,h.kept qa6 hk,r⟩,fun ⟨va,e,h,r⟩ hl=>⟨va,e,h.mono qa6 hl,r⟩⟩
abbrev HasE (w:World)(v:Value)(L:List OpE):Prop:=HasR RE 11 0 w v L
theorem qnd{c:Nat}{L:List OpE}(h:HasE w (.slice A n c) L)(hj:j<n):
  ∃ g o A2 c2,A=some ⟨g,o,none⟩∧g<w.heap.size∧(∀ i,i<11→w.cell? ⟨g,o+j*11+i,none⟩=some ((encE (L.getD j default) (.slice A2 (L.getD j default).1.decls.length c2)).getD i undef))∧
   HasD 0 w (.slice A2 (L.getD j default).1.decls.length c2) (L.getD j default).1.decls∧(L.getD j default).1.name.length≤maxLen∧I64 (L.getD j default).1.unt:=by
 obtain ⟨g,o,cs,e,_,hg,hc,vd,rfl,hh,h1,h2⟩:=h.get hj;obtain ⟨A2,c2,rfl,aa⟩:=HasR.shape hh rfl;exact ⟨g,o,A2,c2,e,hg,hc,aa,h1,h2⟩
def opsE (O:List OpM)(S:List Shp):List OpE:=(List.range O.length).map fun i=>(O.getD i default,i,S.getD i default)
theorem qg6 (O:List OpM)(S:List Shp):(opsE O S).length=O.length:=by simp [opsE]
theorem qp6 (O:List OpM)(S:List Shp)(h:j<O.length):(opsE O S).getD j default=(O.getD j default,j,S.getD j default):=by simp [opsE,List.getD,h]
structure GrM where
 U:List Nat
 E:List OpE
def grM (P:List (List UInt8))(Q:List (Int×Int))(O:List OpM):GrM:=if qah P Q O then ⟨qaq P Q,opsE O (shps (κU (qaq P Q)) O)⟩ else ⟨[],[]⟩
structure HasM (w:World) (mv sv:Value) (G:GrM):Prop where
 m:MapU w mv G.U
 e:HasE w sv G.E
theorem HasM.below {w w':World}{mv sv:Value}{G:GrM}(h:HasM w mv sv G)(hb:Below w.heap.size w w'):HasM w' mv sv G:=⟨h.m.below hb,HasR.below qnc h.e n_ hb⟩
theorem qv0{α:Type}[Inhabited α]{L:List α}{cs:List Value}{P:List Value→α→Prop}(hl:xs.length=m*k)(hc:cs.length=k)(h:∀ j,j<m→∃ c,(∀ i,i<k→xs[j*k+i]? =some (c.getD i undef))∧P c (L.getD j default))(hP:P cs (L.getD m default)):
  ∀ j,j<m+1→∃ c,(∀ i,i<k→(xs++cs)[j*k+i]? =some (c.getD i undef))∧P c (L.getD j default):=by
 intro j hj;by_cases aa:j<m
 ·obtain ⟨c,h1,h2⟩:=h j aa
  refine ⟨c,fun i hi=>?_,h2⟩;have:j*k+i<m*k:=by
   have:(j+1)*k≤m*k:=Nat.mul_le_mul_right _ aa;rw [Nat.add_mul,Nat.one_mul] at this;omega
  rw [List.getElem?_append_left o_];exact h1 i hi
 ·obtain rfl:j=m:=o_
  refine ⟨cs,fun i hi=>?_,hP⟩;rw [List.getElem?_append_right o_,hl,Nat.add_sub_cancel_left];simp [List.getD,List.getElem?_eq_getElem (show i<cs.length by omega)]
theorem qyd (x:OpE)(A:Option Addr)(n c:Nat):∀ v∈encE x (.slice A n c),v.oneCell'=true:=by
 intro v hv;simp only [encE,List.mem_cons,List.not_mem_nil,or_false] at hv;rcases hv with rfl|rfl|rfl|rfl|rfl|rfl|rfl|rfl|rfl|rfl|rfl<;>rfl
theorem qye:(Tryz.prog.info? 181).map (fun i=>(i.zero,i.size,i.bytes))=some (some (.agg #[.string { data:=#[] },.slice none 0 0,.bool false,.bool false,.int .i64 0,.int .i64 0,.int .i64 0,.int .u16 0,.int .u16 0,.int .u16 0,.int .u16 0]),11,80):=by kernel_rfl
abbrev S11 (W:World)(x g o y:Nat)(u0 a0 a1 a2 a3 a4 b0 b1 b2 b3 b4:Value)(w':World):Prop:=(w'.cell? ⟨x,2,none⟩=some u0∧w'.cell? ⟨g,o,none⟩=some a0∧w'.cell? ⟨g,o+1,none⟩=some a1∧w'.cell? ⟨g,o+2,none⟩=some a2∧w'.cell? ⟨g,o+3,none⟩=some a3∧w'.cell? ⟨g,o+4,none⟩=some a4∧w'.cell? ⟨y,0,none⟩=some b0∧w'.cell? ⟨y,1,none⟩=some b1∧w'.cell? ⟨y,2,none⟩=some b2∧w'.cell? ⟨y,3,none⟩=some b3∧w'.cell? ⟨y,4,none⟩=some b4)∧W.heap.size≤w'.heap.size
theorem S11.next{a0 a1:Value}(h:S11 W x g o y u0 a0 a1 a2 a3 a4 b0 b1 b2 b3 b4 w0)(hx:x<W.heap.size)(hg:g<W.heap.size)(hy:y<W.heap.size)(hb:Below W.heap.size w0 w1):S11 W x g o y u0 a0 a1 a2 a3 a4 b0 b1 b2 b3 b4 w1:=by
 have k:∀ q z,q<W.heap.size→w1.cell? ⟨q,z,none⟩=w0.cell? ⟨q,z,none⟩:=fun q z hq=>hb.cell (p:=⟨q,z,none⟩) hq
 unfold S11;rw [k x _ hx,k g _ hg,k g _ hg,k g _ hg,k g _ hg,k g _ hg,k y _ hy,k y _ hy,k y _ hy,k y _ hy,k y _ hy];exact ⟨h.1,Nat.le_trans h.2 hb.size⟩
theorem S11.grown{a0 a1:Value}(h:S11 W x g o y u0 a0 a1 a2 a3 a4 b0 b1 b2 b3 b4 w0)(hx:x<W.heap.size)(hg:g<W.heap.size)(hy:y<W.heap.size)(aa:w0.grownBy w1 r)(hr:∀ q,r=some q→q≠x∧q≠g∧q≠y):S11 W x g o y u0 a0 a1 a2 a3 a4 b0 b1 b2 b3 b4 w1:=by
 have hz:=h.2;have k:∀ q z,q<W.heap.size→(∀ p,r=some p→p≠q)→w1.cell? ⟨q,z,none⟩=w0.cell? ⟨q,z,none⟩:=fun q z hq hn=>aa.cell_far ⟨q,z,none⟩ (by show q<_;omega) (fun e=>hn q e.symm rfl)
 have kx:=fun z=>k x z hx (fun p hp=>(hr p hp).1)
 have kg:=fun z=>k g z hg (fun p hp=>(hr p hp).2.1)
 have ky:=fun z=>k y z hy (fun p hp=>(hr p hp).2.2)
 unfold S11;rw [kx,kg,kg,kg,kg,kg,ky,ky,ky,ky,ky];exact ⟨h.1,Nat.le_trans hz aa.size⟩
theorem S11.ald{a0 a1:Value}(h:S11 W x g o y u0 a0 a1 a2 a3 a4 b0 b1 b2 b3 b4 w0.drew)(hx:x<W.heap.size)(hg:g<W.heap.size)(hy:y<W.heap.size){ob:Obj}:S11 W x g o y u0 a0 a1 a2 a3 a4 b0 b1 b2 b3 b4 (w0.alloc ob).drew:=h.next hx hg hy ((Below.refl _ w0.drew).alloc h.2 ob)
theorem qsp (w:World)(l:List Value)(t:TypeId):∀ (j:Nat) (x:Value),l[j]? =some x→(w.alloc (.cells l.toArray t)).cell? ((⟨w.heap.size,0,none⟩:Addr).add j)=some x:=by
 intro j x hx;rw [Addr.add_lit,Nat.zero_add];exact h_ _ _ j _ _ _ (termt.qa5 _ _ _ rfl) |>.trans (by simpa using hx)
def qCa (G:GrM)(w:World)(e:Ending)(w':World):Prop:=∃ mv A c,e=.returned (.agg #[mv,.slice A G.E.length c])∧HasM w' mv (.slice A G.E.length c) G∧(mv=.map none∨∃ b,mv=.map (some b))∧Below w.heap.size w w'
theorem qlq{U:List Nat}(h:MapU w v U)(hb:∀ (b:Nat) es c,w.heap[b]? =some (Obj.map es c)→w'.heap[b]? =w.heap[b]?):MapU w' v U:=by
 rcases h with ⟨rfl,rfl⟩|⟨b,n,D,rfl,⟨es,c,h1,h2⟩,hF⟩
 ·exact .inl ⟨rfl,rfl⟩
 ·exact .inr ⟨b,n,D,rfl,⟨es,c,(hb b es c h1).trans h1,h2⟩,hF⟩
def esN (O:List OpM)(S:List Shp)(n:Nat):List OpE:=(List.range n).map fun i=>(O.getD i default,i,S.getD i default)
theorem qCb (O:List OpM)(S:List Shp)(h:j<n):(esN O S n).getD j default=(O.getD j default,j,S.getD j default):=by simp [esN,List.getD,h]
theorem c43_{p:Prop}(h:p:=by
 (try dsimp only);first|(with_reducible assumption)|((with_reducible refine S11.ald ?_ ap aq au);with_reducible assumption)|(exact ⟨⟨q0,p0,p1,p2,p3,p4,b0,b1,b2,b3,b4⟩,Nat.le_refl _⟩)
):p:=h
set_option maxRecDepth 50000 in
set_option maxHeartbeats 4000000 in
theorem qlr (P:List (List UInt8))(Q:List (Int×Int))(O:List OpM)(va vb vc:Value)(w:World)(h:HasG w va vb vc P Q O):
  Calls Tryz.prog 66 #[.agg #[va,vb,vc]] w (qCa (grM P Q O) w):=by
 have aj:Hid (∀ W,Below w.heap.size w W→Calls Tryz.prog 121 #[.agg #[va,vb,vc]] W fun e w'=>∃ mv A5 c5 n S U,e=.returned (.tuple #[mv,.slice A5 n c5])∧HasT w' (.slice A5 n c5) S∧n≤O.length∧n≤14∧MapU w' mv U∧(mv=.map none∨∃ b,mv=.map (some b))∧grM P Q O=⟨U,esN O S n⟩∧Below W.heap.size W w'):=z_ (by
  intro W hW;refine (qlo P Q O va vb vc (qah P Q O) rfl W (h.below n_ hW)).mono ?_;rintro e w' ⟨mv,sv,rfl,h1,h2,h3⟩;cases af:qah P Q O with
  | false=>
   obtain ⟨rfl,rfl⟩:=h1 af;exact ⟨_,none,0,0,[],[],rfl,HasR.nil _ _ _ Aa_ _,y_,by omega,.inl ⟨rfl,rfl⟩,.inl rfl,by rw [grM,af];rfl,h3⟩
  | true=>
   obtain ⟨hb,⟨A5,c5,rfl⟩,hM,hT⟩:=h2 af
   exact ⟨_,A5,c5,O.length,_,_,rfl,hT,Nat.le_refl _,(qa8 af).2.1,hM,.inr hb,by rw [grM,if_pos af];rfl,h3⟩)
 obtain ⟨A,ca,B,cb,C,cc,rfl,rfl,rfl,bi,bj,bk,h'⟩:=h.shape;obtain ⟨j0,ay,az,aA,aB⟩:=info_parts qye;have HO:=z_ h'.o;obtain ⟨G,hG⟩:=e_ (grM P Q O);rw [← hG] at aj ⊢;obtain ⟨n0,aC⟩:=e_ (O.length);rw [← aC] at aj HO ⊢;clear h h' hG aC;go_enter Tryz.func66,Tryz.ntmps66
 go_wp2_with fail
 refine (aj.out _ ((b_.alloc n_ _).alloc (by simp) _)).mono ?_;rintro e w1 ⟨mv,A5,c5,n,S,U,rfl,hT,bl,aP,hM,ak,aD,ag⟩;have aE:Hid (Below w.heap.size w w1):=z_ (((b_.alloc n_ _).alloc (by simp) _).trans (ag.mono (by simp;omega)));have bm:w.heap.size+1+1≤w1.heap.size:=by have:=ag.size;simp at this;omega
 have aQ:Hid (w1.cell? ⟨w.heap.size,2,none⟩=some (.slice C n0 cc)):=z_ ((ag.cell (p:=⟨w.heap.size,2,none⟩) (by simp;omega)).trans (by simp));have aR:Hid (w1.heap[w.heap.size+1]? =some (.cells #[.map none,.slice none 0 0] 92 (0,0))):=z_ ((ag.block _ (by simp)).trans (termt.qa5 _ _ _ (by simp)));have HT:=z_ hT;have HM:=z_ hM;have aF:=z_ ak;have aS:=z_ aD;obtain ⟨i0,bn,aT,aU,aV⟩:=info_parts qk5;clear ag hT hM ak aD aj;go_wp2_with (at_make;refine wpList_make_own _ rfl _ _ 90 rfl w1.heap.size 181 j0 _ 11 Tryz.underlying90 ay az aA _ _ _ n rfl rfl (by go_num) (by rw [aB];omega) Aa_ n_ ?_)
 intro w2 hown ab;have aG:Below w1.heap.size w1 w2:=(Below.refl w1.heap.size w1).grown ab n_ Be_;have aW:Hid (∃ xs,w2.ownsRow w1.heap.size 181 11 _ 0 xs∧∀ j,j<0→∃ cs,(∀ i,i<11→xs[j*11+i]? =some (cs.getD i undef))∧RE 0 w cs ((esN O S n).getD j default)):=z_ ⟨_,hown,fun j hj=>by omega⟩;have aX:=z_ aG;clear ab hown aG;go_wp2;go_loopw [5,18] (fun v5 aY wr=>∃ (k:Nat) (Ar:Option Addr) (cr:Nat),v5=.slice Ar k cr∧aY=.int .i64 k∧k≤n∧Hid (∃ xs,wr.ownsRow w1.heap.size 181 11 (.slice Ar k cr) k xs∧∀ j,j<k→∃ cs,(∀ i,i<11→xs[j*11+i]? =some (cs.getD i undef))∧RE 0 w cs ((esN O S n).getD j default))∧Hid (Below w1.heap.size w1 wr)) (fun _ i _=>n-(intOf i).toNat)
 case atStart=>
  obtain ⟨xs,h1,h2⟩:=aW.out;obtain ⟨Ar,cr,e,_⟩:=qaz h1;exact ⟨0,Ar,cr,e,rfl,y_,z_ ⟨xs,e ▸ h1,h2⟩,aX⟩
 case round=>
  obtain ⟨k,Ar,cr,rfl,rfl,hk,HK,HB⟩:=hrel;have aZ:=HB.out.size;by_cases aH:k<n
  ·obtain ⟨gs,os,rfl,ah,e0,e1,e2,e3,e4⟩:=qll HT.out aH
   obtain ⟨⟨s0,s1,s2,s3,s4⟩,hs⟩:∃ s,s=S.getD k default:=⟨_,rfl⟩;rw [← hs] at e0 e1 e2 e3 e4;have c0:=(HB.out.cell (p:=⟨gs,os+k*5,none⟩) ah).trans e0;have c1:=(HB.out.cell (p:=⟨gs,os+k*5+1,none⟩) ah).trans e1;have c2:=(HB.out.cell (p:=⟨gs,os+k*5+2,none⟩) ah).trans e2;have c3:=(HB.out.cell (p:=⟨gs,os+k*5+3,none⟩) ah).trans e3;have c4:=(HB.out.cell (p:=⟨gs,os+k*5+4,none⟩) ah).trans e4;simp only [] at c0 c1 c2 c3 c4;obtain ⟨g,o,A2,cd,hA,_,hg,f0,f1,f2,f3,f4,hD,an,hu⟩:=qcm HO.out (j:=k) o_;obtain ⟨u,ao⟩:=e_ (O.getD k default);rw [← ao] at f0 f1 f2 f3 f4 hD an hu;have aI:Hid ((esN O S n).getD k default=(u,k,(s0,s1,s2,s3,s4))):=z_ (by rw [qCb O S aH,← ao,← hs]);have aJ:Hid (RE 0 w (encE (u,k,(s0,s1,s2,s3,s4)) (.slice A2 u.decls.length cd)) ((esN O S n).getD k default)):=z_ (by rw [aI.out];exact ⟨_,rfl,hD,an,hu⟩);subst hA;have kw:∀ y,wr.cell? ⟨g,y,none⟩=w.cell? ⟨g,y,none⟩:=fun y=>(HB.out.cell (p:=⟨g,y,none⟩) (by show g<_;omega)).trans (aE.out.cell (p:=⟨g,y,none⟩) hg)
   have p0:=(kw (o+k*5)).trans f0;have p1:=(kw (o+k*5+1)).trans f1;have p2:=(kw (o+k*5+2)).trans f2;have p3:=(kw (o+k*5+3)).trans f3;have p4:=(kw (o+k*5+4)).trans f4;have q0:=(HB.out.cell (p:=⟨w.heap.size,2,none⟩) (by show w.heap.size<_;omega)).trans aQ.out;have bo:(0:Int)≤(k:Int):=o_;have bp:(k:Int)<(n:Int):=o_;have bq:(k:Int)<(n0:Int):=o_;have a6:g<wr.heap.size:=o_;have a7:w.heap.size<wr.heap.size:=o_;obtain ⟨dl,aK⟩:=e_ (u.decls.length);rw [← aK] at p1 aJ;clear e0 e1 e2 e3 e4 f0 f1 f2 f3 f4 hD an hu ao hs kw aI aK;obtain ⟨wo,a8⟩:∃ wo,wo=wr:=⟨wr,rfl⟩;subst a8;go_wp2_with fail
   have ae:Below wo.heap.size wo (wo.alloc (.cells #[.int .i64 (s0:Int),.int .u16 (s1:Int),.int .u16 (s2:Int),.int .u16 (s3:Int),.int .u16 (s4:Int)] 179)):=b_.alloc n_ _;have aL:(wo.alloc (.cells #[.int .i64 (s0:Int),.int .u16 (s1:Int),.int .u16 (s2:Int),.int .u16 (s3:Int),.int .u16 (s4:Int)] 179)).heap.size=wo.heap.size+1:=by simp
   have aa:(wo.alloc (.cells #[.int .i64 (s0:Int),.int .u16 (s1:Int),.int .u16 (s2:Int),.int .u16 (s3:Int),.int .u16 (s4:Int)] 179)).heap[wo.heap.size]? =some (.cells #[.int .i64 (s0:Int),.int .u16 (s1:Int),.int .u16 (s2:Int),.int .u16 (s3:Int),.int .u16 (s4:Int)] 179 (0,0)):=termt.qa5 _ _ _ rfl;generalize wo.alloc (.cells #[.int .i64 (s0:Int),.int .u16 (s1:Int),.int .u16 (s2:Int),.int .u16 (s3:Int),.int .u16 (s4:Int)] 179)=W at ae aL aa ⊢
   have kg:∀ y,wo.cell? ⟨g,y,none⟩=W.cell? ⟨g,y,none⟩:=fun y=>(ae.cell (p:=⟨g,y,none⟩) a6).symm
   rw [kg] at p0 p1 p2 p3 p4;rw [← ae.cell (p:=⟨w.heap.size,2,none⟩) a7] at q0;have b0:=h_ W _ 0 _ _ _ aa;have b1:=h_ W _ 1 _ _ _ aa;have b2:=h_ W _ 2 _ _ _ aa;have b3:=h_ W _ 3 _ _ _ aa;have b4:=h_ W _ 4 _ _ _ aa;have ap:w.heap.size<W.heap.size:=o_;have aq:g<W.heap.size:=o_;have au:wo.heap.size<W.heap.size:=o_;have av:Hid (∀ q,(Value.slice Ar k cr).ownBlock=some q→w1.heap.size≤q∧q<wo.heap.size):=z_ (fun q hq=>by obtain ⟨xs,h1,h2⟩:=HK.out;exact qcy h1 q hq);have ba:=hg;obtain ⟨xs,aM⟩:∃ xs,W.ownsRow w1.heap.size 181 11 (.slice Ar k cr) k xs∧∀ j,j<k→∃ cs,(∀ i,i<11→xs[j*11+i]? =some (cs.getD i undef))∧RE 0 w cs ((esN O S n).getD j default):=by
    obtain ⟨xs,h1,h2⟩:=HK.out;exact ⟨xs,own_below h1 ae,h2⟩
   have al:=z_ aM;have am:=z_ (HB.out.trans (ae.mono aZ));clear c0 c1 c2 c3 c4 kg aa aM ae;refine wp_region_noPanic ?_;refine wp_region_held_drew (S:=(S11 W w.heap.size g (o+k*5) wo.heap.size (.slice (some ⟨g,o,none⟩) n0 cc) (.string (bstr u.name)) (.slice A2 dl cd) (.bool u.ass) (.bool u.com) (.int .i64 u.unt) (.int .i64 (s0:Int)) (.int .u16 (s1:Int)) (.int .u16 (s2:Int)) (.int .u16 (s3:Int)) (.int .u16 (s4:Int)))) k_ ?_ (fun aw=>?_)
   ·exact ⟨⟨q0,p0,p1,p2,p3,p4,b0,b1,b2,b3,b4⟩,Nat.le_refl _⟩
   refine t_k 0 ?_;refine t_k 1 ?_;refine t_k 2 ?_;refine t_k 3 ?_;refine t_k 4 ?_;refine t_k 5 ?_;refine t_k 6 ?_;refine t_k 7 ?_;refine t_k 8 ?_;refine r_d [9] ?_;refine c_s (fun K hK=>?_) ?_
   ·go_simp
    refine k_o hK ?_ (fun ax=>?_)
    ·exact c43_
    clear hK K aw;refine r_d [10] ?_;refine c_s (fun K hK=>?_) ?_
    ·(refine qbc (by rfl) _ _ _ (by rfl) w1.heap.size 181 j0 _ 11 80 Tryz.underlying90 ay az aA aB rfl o_ (.slice Ar k cr) k xs (by rfl) (own_below al.out.1 (b_.alloc n_ _).drew) ⟨wo.heap.size+1,0,none⟩ 1 1 (encE (u,k,(s0,s1,s2,s3,s4)) (.slice A2 dl cd)) (by rfl) o_ (by rfl) (fun q x hq=>by have h1:=qsp W (encE (u,k,(s0,s1,s2,s3,s4)) (.slice A2 dl cd)) 181 q x hq;rw [aL] at h1;exact h1) (qyd _ _ _ _) Aa_ o_ (by have:=am.out.size;simp;omega) ?_;intro g4 ai w5 ac ad bb bc;have bd:Hid (Below w1.heap.size w1 w5):=z_ (((am.out.alloc am.out.size _).drew).grown ad (by have:=am.out.size;simp;omega) (fun q hq=>(qcy al.out.1 q hq).1));have br:=S11.grown Ad_ ap aq au ad (fun q hq=>by have h1:=av.out q hq;omega))
     refine k_o hK ?_ (fun be=>?_)
     ·exact c43_
     clear hK K ax;refine t_k 11 ?_;refine wpAnyH_done k_ ?_ _;refine NoPanic.normal ?_;have bf:Hid (∃ xs,w5.ownsRow w1.heap.size 181 11 (.slice (some ⟨g4,0,none⟩) (k+1) ai) (k+1) xs∧∀ j,j<k+1→∃ cs,(∀ i,i<11→xs[j*11+i]? =some (cs.getD i undef))∧RE 0 w cs ((esN O S n).getD j default)):=z_ ⟨_,ac,qv0 (k:=11) al.out.1.1 rfl al.out.2 aJ.out⟩;clear ac ad bb;go_wp2;go_roundw
     case rel=>exact ⟨k+1,_,ai,rfl,by go_num,by omega,bf,bd⟩
     case measure=>simp [intOf];omega
    exact a_l
   exact a_l
  ·obtain rfl:k=n:=o_
   obtain ⟨xs,h1,h2⟩:=HK.out;have r0:wr.heap[w.heap.size+1]? =some (.cells #[.map none,.slice none 0 0] 92 (0,0)):=(HB.out.block _ o_).trans aR.out
   have HR:Hid (∀ u0 u1,qCa G w (.returned (.agg #[mv,.slice Ar k cr])) ((wr.setCell ⟨w.heap.size+1,0,none⟩ u0).setCell ⟨w.heap.size+1,1,none⟩ u1)):=z_ (by
    intro u0 u1;have aN:Below w.heap.size w ((wr.setCell ⟨w.heap.size+1,0,none⟩ u0).setCell ⟨w.heap.size+1,1,none⟩ u1):=((aE.out.trans (HB.out.mono o_)).setCell (by show w.heap.size≤w.heap.size+1;omega) _).setCell (by show w.heap.size≤w.heap.size+1;omega) _;have aa:∀ q,q≠w.heap.size+1→((wr.setCell ⟨w.heap.size+1,0,none⟩ u0).setCell ⟨w.heap.size+1,1,none⟩ u1).heap[q]? =wr.heap[q]? := fun q hq=>(Below.heap_setCell _ ⟨w.heap.size+1,1,none⟩ _ q hq).trans (Below.heap_setCell _ ⟨w.heap.size+1,0,none⟩ _ q hq)
    have hE:HasE ((wr.setCell ⟨w.heap.size+1,0,none⟩ u0).setCell ⟨w.heap.size+1,1,none⟩ u1) (.slice Ar k cr) (esN O S k):=by
     have aO:=qlp (w':=(wr.setCell ⟨w.heap.size+1,0,none⟩ u0).setCell ⟨w.heap.size+1,1,none⟩ u1) h1 (fun q hq=>aa q (by have:=(qcy h1 q hq).1;omega));have bg:((wr.setCell ⟨w.heap.size+1,0,none⟩ u0).setCell ⟨w.heap.size+1,1,none⟩ u1).ownsRow 0 181 11 (.slice Ar k cr) k xs:=by
      refine ⟨aO.1,?_⟩;rcases aO.2 with h3|⟨g',cap',cur,hv,hg,r⟩
      ·exact .inl h3
      ·exact .inr ⟨g',cap',cur,hv,y_,r⟩
     refine HasR.of_own bg (by simp [esN]) (fun j hj=>?_);obtain ⟨cs,h3,h4⟩:=h2 j hj;exact ⟨cs,h3,qnc.1 h4 (Kept.below aN n_)⟩
    have hM:MapU ((wr.setCell ⟨w.heap.size+1,0,none⟩ u0).setCell ⟨w.heap.size+1,1,none⟩ u1) mv U:=qlq (HM.out.below HB.out) (fun q es c hq=>aa q (fun e=>by rw [e,r0] at hq;cases hq));have hl:(esN O S k).length=k:=by simp [esN]
    rw [aS.out]
    exact ⟨mv,Ar,cr,by rw [hl],⟨hM,by rw [hl];exact hE⟩,aF.out,aN⟩)
   have c0:=h_ wr _ 0 _ _ _ r0;have c1:=h_ wr _ 1 _ _ _ r0;have f0:=g_ wr _ 0 _ _ r0;have f1:=g_ wr _ 1 _ _ r0;have bh:w.heap.size+1<wr.heap.size:=o_;have ak:=aF.out;clear h1 h2 r0;rcases ak with rfl|⟨b,rfl⟩
   ·go_wp2
    refine bodyPost_ret (v:=.agg #[.map none,.slice Ar k cr]) (by simp [results,Tryz.results66,go_sem,c0,c1]) rfl ?_;exact HR.out _ _
   ·go_wp2
    refine bodyPost_ret (v:=.agg #[.map (some b),.slice Ar k cr]) (by simp [results,Tryz.results66,go_sem,c0,c1]) rfl ?_;exact HR.out _ _
end gram

namespace termv
open mem dec rowl trm trmv terml termb termt
theorem qao (t:TermM):size t=1+qa2 t.args:=by cases t;exact qbe _ _ _ _
theorem qas (t:TermM):depth t=depths t.args+1:=by cases t;exact qeo _ _ _ _
theorem qdx (a:TermM)(l:List TermM):depths (a::l)=max (depth a) (depths l):=rfl
theorem c51_{p:Prop}(h:p:=by
 rw [e];go_enter Tryz.func183,Tryz.ntmps183
 go_wp2;go_ret;exact ⟨rfl,rfl⟩
):p:=h
theorem qB1 (a b:Nat)(w:World):Calls Tryz.prog 183 #[.int .i64 a,.int .i64 b] w fun e w'=>e=.returned (.int .i64 ((max a b:Nat):Int))∧w=w':=by
 by_cases h:b<a
 ·have e:max a b=a:=o_
  exact c51_
 ·have e:max a b=b:=o_
  exact c51_
theorem qpa{L:List TermM}(h:k<L.length):depths (L.take (k+1))=max (depths (L.take k)) (depth (L.getD k default)):=by
 rw [List.take_succ_eq_append_getElem h,qai h];generalize L[k]=t
 induction L.take k with
 | nil=>simp [depths]
 | cons a l ih=>rw [List.cons_append,qdx,qdx,ih];omega
theorem qgb:∀ t,depth t≤size t:=by
 refine TermM.ind (fun o n s l ih=>?_);rw [qeo,qbe];have:depths l≤qa2 l:=by
  induction l with
  | nil=>simp [depths]
  | cons a l aa=>
   have h1:=ih a (by simp);have h2:=aa (fun t ht=>ih t (by simp [ht]));rw [qdx];simp only [qa2,List.map_cons,List.sum_cons] at h2 ⊢;omega
 omega
theorem qj2 (L:List TermM):depths L≤qa2 L:=by
 induction L with
 | nil=>simp [depths]
 | cons a l aa=>
  have h1:=qgb a;rw [qdx];simp only [qa2,List.map_cons,List.sum_cons] at aa ⊢;omega
def qv8 (n:Nat):Prop:=∀ (op:Int) (l:List UInt8) (s:Int) (L:List TermM) (v:Value) (w:World) (lo:Nat),HasTs n lo w v L→qa2 L≤1048576→
 Calls Tryz.prog 137 #[.agg #[.int .i64 op,.string (bstr l),.int .i64 s,v]] w fun e w'=>e=.returned (.int .i64 ((depths L+1:Nat):Int))∧Below w.heap.size w w'
theorem qj4 (hS:∀ k,n=k+1→qv8 k):qv8 n:=by
 intro op l s L v w lo h hsz;obtain ⟨N,hN⟩:=e_ (L.length);obtain ⟨A,c,rfl,h⟩:=HasR.shape h hN.symm;have aB:N≤1048576:=by have:=qat L;omega
 have HN:=z_ hN;have HH:=z_ h;have HS:=z_ hS;have al:=z_ hsz;clear h hN hS hsz;go_enter Tryz.func137,Tryz.ntmps137
 go_wp2;generalize hW:w.alloc (.cells #[.int .i64 op,.string (bstr l),.int .i64 s,.slice A N c] 38)=W
 have am:Below w.heap.size w W:=by rw [← hW];exact b_.alloc n_ _
 have ab:w.heap.size<W.heap.size:=by rw [← hW];simp
 have ag:W.cell? ⟨w.heap.size,3,none⟩=some (.slice A N c):=by rw [← hW];simp
 clear hW;go_loopw [3,4] (fun v i wr=>∃ (k:Nat),k≤N∧i=.int .i64 k∧v=.int .i64 ((depths (L.take k):Nat):Int)∧Below W.heap.size W wr) (fun _ i _=>N-(intOf i).toNat)
 case atStart=>exact ⟨0,y_,rfl,by simp [depths],Below.refl _ _⟩
 case round=>
  obtain ⟨k,hk,rfl,rfl,aa⟩:=hrel;have aC:wr.cell? ⟨w.heap.size,3,none⟩=some (.slice A N c):=(aa.cell (p:=⟨w.heap.size,3,none⟩) ab).trans ag;have an:depths (L.take k)≤1048576:=by
   have h1:=qj2 (L.take k);have h2:qa2 (L.take k)≤qa2 L:=by
    have e:qa2 L=qa2 (L.take k)+qa2 (L.drop k):=by
     conv=>lhs;rw [← List.take_append_drop k L]
     simp only [qa2,List.map_append,List.sum_append]
    omega
   have:=al.out;omega
  by_cases ax:k<N
  ·have ac:k<L.length:=by have:=HN.out;omega
   have ad:=am.trans (aa.mono (Nat.le_of_lt ab));obtain ⟨k',g,o,A2,c2,ay,rfl,_,hg,ao,ap,aq,ah,hh,_⟩:=qal HH.out ax;rw [← ad.cell (p:=⟨g,o+k*4,none⟩) hg] at ao;rw [← ad.cell (p:=⟨g,o+k*4+1,none⟩) hg] at ap;rw [← ad.cell (p:=⟨g,o+k*4+2,none⟩) hg] at aq;rw [← ad.cell (p:=⟨g,o+k*4+3,none⟩) hg] at ah;have ai:=hh.below n_ ad;have ae:=qpa ac;have au:size (L.getD k default)≤1048576:=by have:=qam ac;have:=al.out;omega
   obtain ⟨t,ht⟩:=e_ (L.getD k default);rw [← ht] at ao ap aq ah ai ae au;have aj:=qao t;have af:=qas t;have av:=qgb t;have HT:=z_ (HS.out k' ay t.op t.name t.sort t.args _ wr lo ai o_);rw [← af] at HT;obtain ⟨q,hq⟩:=e_ (t.args.length);rw [← hq] at ah HT;obtain ⟨z,hz⟩:=e_ (depth t);rw [← hz] at HT ae av;obtain ⟨y,hy⟩:=e_ (depths (L.take k));rw [← hy] at ae an ⊢;have az:=z_ ae;have aD:z≤1048576:=o_;clear hh ai hq ht hz hy aj af au ae av;go_wp2_with fail
   refine HT.out.mono ?_;rintro e w2 ⟨rfl,aw⟩;have ak:=aa.trans (aw.mono aa.size);clear aw;go_wp2_with fail
   refine (qB1 y z _).mono ?_;rintro e w3 ⟨rfl,rfl⟩;go_wp2;go_roundw
   case rel=>exact ⟨k+1,by omega,by go_num,by rw [az.out],ak⟩
   case measure=>simp [intOf];omega
  ·obtain rfl:k=N:=o_
   have HE:Hid (depths (L.take k)=depths L):=z_ (by rw [HN.out,List.take_length]);have aA:=am.trans (aa.mono (Nat.le_of_lt ab));obtain ⟨y,hy⟩:=e_ (depths (L.take k));rw [← hy] at an HE ⊢;clear hy;go_wp2;go_ret;exact ⟨qan (by rw [← HE.out];omega),aA⟩
theorem qj5:∀ n,qv8 n
 | 0=>qj4 (fun k h=>by omega)
 | n+1=>qj4 (fun k h=>Nat.succ.inj h ▸ qj5 n)
def CmpT (n:Nat):Prop:=∀ (t u:TermM) (va vb:Value) (w:World) (lo lo':Nat),HasTs n lo w va t.args→HasTs n lo' w vb u.args→
 Calls Tryz.prog 82 #[.agg #[.int .i64 t.op,.string (bstr t.name),.int .i64 t.sort,va],.agg #[.int .i64 u.op,.string (bstr u.name),.int .i64 u.sort,vb]] w fun e w'=>e=.returned (.int .i64 (cmp t u))∧Below w.heap.size w w'
theorem j12_{p:Prop}(h:p:=by
 go_enter Tryz.func82,Tryz.ntmps82
 go_wp2;go_ret;exact ⟨qan HR.out.symm,(b_.alloc n_ _).alloc (by simp) _⟩
):p:=h
theorem c49_{p:Prop}(h:p:=by
 rw [hl] at ag;exact j12_
):p:=h
theorem c50_{p:Prop}(h:p:=by
 exact j12_
):p:=h
set_option maxRecDepth 50000 in
set_option maxHeartbeats 8000000 in
theorem qnj (hS:∀ k,n=k+1→CmpT k):CmpT n:=by
 intro t u va vb w lo lo' ha hb;obtain ⟨N,hN⟩:=e_ (t.args.length);obtain ⟨M,hM⟩:=e_ (u.args.length);obtain ⟨A,ca,rfl,ha⟩:=HasR.shape ha hN.symm;obtain ⟨B,cb,rfl,hb⟩:=HasR.shape hb hM.symm;have a6:=ha.len.2.1;have a7:=hb.len.2.1;have ag:=binOp_string_lss 9 (bstr t.name) (bstr u.name);rw [qig] at ag;have ay:=qfc (a:=t.name) (b:=u.name);have HC:Hid (cmp t u=if cmpI t.op u.op≠0 then cmpI t.op u.op else if cmpB t.name u.name≠0 then cmpB t.name u.name else if cmpI t.sort u.sort≠0 then cmpI t.sort u.sort else cmpL t.args u.args):=z_ (by cases t;exact qtt _ _ _ _ u);have HA:=z_ ha;have HB:=z_ hb;have HS:=z_ hS;obtain ⟨c,hc⟩:=e_ (cmp t u);obtain ⟨L,hL⟩:=e_ (t.args);obtain ⟨K,hK⟩:=e_ (u.args);rw [← hc] at HC ⊢;obtain ⟨to,az⟩:=e_ (t.op);obtain ⟨tn,al⟩:=e_ (t.name);obtain ⟨ts,aA⟩:=e_ (t.sort);obtain ⟨uo,aB⟩:=e_ (u.op);obtain ⟨un,am⟩:=e_ (u.name);obtain ⟨us,aC⟩:=e_ (u.sort);rw [← hL] at HA hN HC;rw [← hK] at HB hM HC;rw [← az,← aB,← al,← am,← aA,← aC] at HC;rw [← al,← am] at ag ay;rw [← az,← aB,← al,← am,← aA,← aC];have HN:=z_ hN;have HM:=z_ hM;clear ha hb hS hc hL hK az al aA aB am aC hN hM;by_cases h1:to=uo
 case neg=>
  by_cases h2:to<uo
  ·have HR:Hid (c=-1):=z_ (by rw [HC.out,show cmpI to uo=-1 by (unfold cmpI;rw [if_neg h1,if_pos h2])];simp)
   exact c50_
  ·have HR:Hid (c=1):=z_ (by rw [HC.out,show cmpI to uo=1 by (unfold cmpI;rw [if_neg h1,if_neg h2])];simp)
   exact c50_
 subst h1;have an:Hid (c=if cmpB tn un≠0 then cmpB tn un else if cmpI ts us≠0 then cmpI ts us else cmpL L K):=z_ (by rw [HC.out,show cmpI to to=0 by (unfold cmpI;rw [if_pos rfl])];simp);clear HC;by_cases h1:tn=un
 case neg=>
  rw [decide_eq_false h1] at ay;cases hl:qbp tn un with
  | true=>
   have HR:Hid (c=-1):=z_ (by rw [an.out,show cmpB tn un=-1 by (unfold cmpB;rw [if_neg h1,if_pos hl])];simp);exact c49_
  | false=>
   have HR:Hid (c=1):=z_ (by rw [an.out,show cmpB tn un=1 by (unfold cmpB;rw [if_neg h1,if_neg (by rw [hl];simp)])];simp);exact c49_
 subst h1;have ao:Hid (c=if cmpI ts us≠0 then cmpI ts us else cmpL L K):=z_ (by rw [an.out,show cmpB tn tn=0 by (unfold cmpB;rw [if_pos rfl])];simp);clear an ag ay;by_cases h1:ts=us
 case neg=>
  by_cases h2:ts<us
  ·have HR:Hid (c=-1):=z_ (by rw [ao.out,show cmpI ts us=-1 by (unfold cmpI;rw [if_neg h1,if_pos h2])];simp)
   exact c50_
  ·have HR:Hid (c=1):=z_ (by rw [ao.out,show cmpI ts us=1 by (unfold cmpI;rw [if_neg h1,if_neg h2])];simp)
   exact c50_
 subst h1;have aD:Hid (c=cmpL L K):=z_ (by rw [ao.out,show cmpI ts ts=0 by (unfold cmpI;rw [if_pos rfl])];simp);clear ao;go_enter Tryz.func82,Tryz.ntmps82
 go_wp2;generalize hW:(w.alloc (.cells #[.int .i64 to,.string (bstr tn),.int .i64 ts,.slice A N ca] 38)).alloc (.cells #[.int .i64 to,.string (bstr tn),.int .i64 ts,.slice B M cb] 38)=W
 have aT:Below w.heap.size w W:=by rw [← hW];exact (b_.alloc n_ _).alloc (by simp) _
 have af:w.heap.size<W.heap.size:=by rw [← hW];simp;omega
 have ah:w.heap.size+1<W.heap.size:=by rw [← hW];simp
 have aE:W.cell? ⟨w.heap.size,3,none⟩=some (.slice A N ca):=by rw [← hW];simp
 have ai:W.cell? ⟨w.heap.size+1,3,none⟩=some (.slice B M cb):=by rw [← hW];simp
 clear hW;go_loopw [5] (fun i wr=>∃ (k:Nat),k≤N∧k≤M∧i=.int .i64 k∧Hid (∀ j,j<k→cmp (L.getD j default) (K.getD j default)=0)∧Below W.heap.size W wr) (fun i _=>N-(intOf i).toNat)
 case atStart=>exact ⟨0,y_,y_,rfl,z_ (fun j hj=>by omega),Below.refl _ _⟩
 case round=>
  obtain ⟨k,a8,ba,rfl,HZ,aa⟩:=hrel;have aU:wr.cell? ⟨w.heap.size,3,none⟩=some (.slice A N ca):=(aa.cell (p:=⟨w.heap.size,3,none⟩) af).trans aE;have aF:wr.cell? ⟨w.heap.size+1,3,none⟩=some (.slice B M cb):=(aa.cell (p:=⟨w.heap.size+1,3,none⟩) ah).trans ai;have ab:=aT.trans (aa.mono (Nat.le_of_lt af));by_cases hA:k<N
  case neg=>
   have aV:decide (k<N)=false:=decide_eq_false hA;have aG:decide ((k:Int)<(N:Int))=false:=f_
   have HE:Hid (c=cmpI (N:Int) (M:Int)):=z_ (by
    rw [aD.out,HN.out,HM.out]
    exact qq6 (fun j h1 h2=>HZ.out j Ac_))
   by_cases h2:N<M
   ·have HR:Hid (c=-1):=z_ (by rw [HE.out];unfold cmpI;rw [if_neg o_,if_pos o_])
    go_wp2;go_ret;exact ⟨qan HR.out.symm,ab⟩
   ·by_cases h3:M<N
    ·exact absurd h3 o_
    ·have HR:Hid (c=0):=z_ (by rw [HE.out];unfold cmpI;rw [if_pos o_])
     go_wp2;go_ret;exact ⟨qan HR.out.symm,ab⟩
  have aV:decide (k<N)=true:=decide_eq_true hA;have aG:decide ((k:Int)<(N:Int))=true:=d_;by_cases hB:k<M
  case neg=>
   have aW:decide (k<M)=false:=decide_eq_false hB;have aH:decide ((k:Int)<(M:Int))=false:=f_
   have HE:Hid (c=cmpI (N:Int) (M:Int)):=z_ (by
    rw [aD.out,HN.out,HM.out]
    exact qq6 (fun j h1 h2=>HZ.out j Af_))
   have h2:¬ N<M:=o_;have h3:M<N:=o_;have HR:Hid (c=1):=z_ (by rw [HE.out];unfold cmpI;rw [if_neg o_,if_neg o_]);go_wp2;go_ret;exact ⟨qan HR.out.symm,ab⟩
  have aW:decide (k<M)=true:=decide_eq_true hB;have aH:decide ((k:Int)<(M:Int))=true:=d_;obtain ⟨ka,ga,oa,A2,a2,aL,rfl,_,aM,ap,aq,au,aj,aN,_⟩:=qal HA.out hA;obtain ⟨kb,gb,ob,B2,b2,aX,rfl,_,aO,ac,av,aw,ak,aP,_⟩:=qal HB.out hB;obtain rfl:ka=kb:=o_;have ad:ga<wr.heap.size:=w_ aM ab.size;have ae:gb<wr.heap.size:=w_ aO ab.size;have aY:w.heap.size<wr.heap.size:=w_ af aa.size;have aZ:w.heap.size+1<wr.heap.size:=w_ ah aa.size;have aI:=aN.below n_ ab;have aJ:=aP.below n_ ab;obtain ⟨x,hx⟩:=e_ (L.getD k default);obtain ⟨y,hy⟩:=e_ (K.getD k default);rw [← hx] at ap aq au aj aI;rw [← hy] at ac av aw ak aJ;obtain ⟨r,hr⟩:=e_ (cmp x y);have ax:=z_ (fun W' (aQ:Below wr.heap.size wr W')=>HS.out ka aL x y _ _ W' _ _ (aI.below n_ aQ) (aJ.below n_ aQ));rw [← hr] at ax;have aK:Hid (r=cmp (L.getD k default) (K.getD k default)):=z_ (by rw [hr,hx,hy]);obtain ⟨m,hm⟩:=e_ (x.args.length);obtain ⟨m',aR⟩:=e_ (y.args.length);rw [← hm] at aj ax;rw [← aR] at ak ax;have bb:(0:Int)≤(k:Int):=o_;have bc:(k:Int)<(N:Int):=o_;have bd:(k:Int)<(M:Int):=o_;have qa:∀ o,w.cell? ⟨ga,o,none⟩=wr.cell? ⟨ga,o,none⟩:=fun o=>(ab.cell (p:=⟨ga,o,none⟩) aM).symm
  have qb:∀ o,w.cell? ⟨gb,o,none⟩=wr.cell? ⟨gb,o,none⟩:=fun o=>(ab.cell (p:=⟨gb,o,none⟩) aO).symm
  rw [qa] at ap aq au aj;rw [qb] at ac av aw ak;have r0:∀ t:BoxC (Below wr.heap.size wr),t.W.cell? ⟨ga,oa+k*4,none⟩=some (.int .i64 x.op):=fun t=>t.cell ap ad
  have r1:∀ t:BoxC (Below wr.heap.size wr),t.W.cell? ⟨ga,oa+k*4+1,none⟩=some (.string (bstr x.name)):=fun t=>t.cell aq ad
  have r2:∀ t:BoxC (Below wr.heap.size wr),t.W.cell? ⟨ga,oa+k*4+2,none⟩=some (.int .i64 x.sort):=fun t=>t.cell au ad
  have r3:∀ t:BoxC (Below wr.heap.size wr),t.W.cell? ⟨ga,oa+k*4+3,none⟩=some (.slice A2 m a2):=fun t=>t.cell aj ad
  have s0:∀ t:BoxC (Below wr.heap.size wr),t.W.cell? ⟨gb,ob+k*4,none⟩=some (.int .i64 y.op):=fun t=>t.cell ac ae
  have s1:∀ t:BoxC (Below wr.heap.size wr),t.W.cell? ⟨gb,ob+k*4+1,none⟩=some (.string (bstr y.name)):=fun t=>t.cell av ae
  have s2:∀ t:BoxC (Below wr.heap.size wr),t.W.cell? ⟨gb,ob+k*4+2,none⟩=some (.int .i64 y.sort):=fun t=>t.cell aw ae
  have s3:∀ t:BoxC (Below wr.heap.size wr),t.W.cell? ⟨gb,ob+k*4+3,none⟩=some (.slice B2 m' b2):=fun t=>t.cell ak ae
  have x0:∀ t:BoxC (Below wr.heap.size wr),t.W.cell? ⟨w.heap.size,3,none⟩=some (.slice (some ⟨ga,oa,none⟩) N ca):=fun t=>t.cell aU aY
  have x1:∀ t:BoxC (Below wr.heap.size wr),t.W.cell? ⟨w.heap.size+1,3,none⟩=some (.slice (some ⟨gb,ob,none⟩) M cb):=fun t=>t.cell aF aZ
  clear aN aP aI aJ hx hy hr hm aR qa qb aL aX ap aq au aj ac av aw ak;go_wp2;refine qa1 (C:=Below wr.heap.size wr) k_ k_ b_.drew ?_;have nb:Nonempty (BoxC (Below wr.heap.size wr)):=⟨⟨_,Below.refl _ _⟩⟩;repeat (go_big_quiet_step ((go_at_call 82;exact (ax.out _ (BoxC.h _)).mono (fun _ _ h=>⟨h.1,BoxC.step _ h.2⟩))))
  refine wpQuiet_nil ?_;rintro w5 ⟨t5,rfl⟩;have hh:=t5.h;clear r0 r1 r2 r3 s0 s1 s2 s3 x0 x1;by_cases aS:r=0
  ·subst aS
   go_wp2;go_roundw
   case rel=>exact ⟨k+1,by omega,by omega,by go_num,z_ (fun j hj=>by
    by_cases e:j=k
    ·subst e;exact aK.out.symm
    ·exact HZ.out j o_),aa.trans (hh.mono aa.size)⟩
   case measure=>simp [intOf];omega
  ·have HR:Hid (c=r):=z_ (by
    rw [aD.out,aK.out]
    exact qxl Ac_ Af_ HZ.out (by rw [← aK.out];exact aS))
   go_wp2;go_ret;exact ⟨qan HR.out.symm,ab.trans (hh.mono ab.size)⟩
theorem qnk:∀ n,CmpT n
 | 0=>qnj (fun k h=>by omega)
 | n+1=>qnj (fun k h=>Nat.succ.inj h ▸ qnk n)
theorem qgc (t u:TermM)(va vb:Value)(w:World)(ha:HasTs n lo w va t.args)(hb:HasTs m lo' w vb u.args):
  Calls Tryz.prog 82 #[.agg #[.int .i64 t.op,.string (bstr t.name),.int .i64 t.sort,va],.agg #[.int .i64 u.op,.string (bstr u.name),.int .i64 u.sort,vb]] w fun e w'=>e=.returned (.int .i64 (cmp t u))∧Below w.heap.size w w':=
 qnk (max n m) t u va vb w lo lo' (ha.up (Nat.le_max_left _ _)) (hb.up (Nat.le_max_right _ _))
end termv

namespace tsa
open dec sortm sortp sorti sortf sigm sigi sigk gram tsm
theorem qx3 (h:k<O.length):O.getD k default∈O:=by rw [List.getD_eq_getElem?_getD,List.getElem?_eq_getElem h];exact List.getElem_mem _
theorem qx4 (aa:qah P Q O=true):grM P Q O=⟨qaq P Q,opsE O (shps (κU (qaq P Q)) O)⟩:=by unfold grM;rw [if_pos aa]
theorem qBp (aa:qah P Q O=true)(h:k<O.length):(grM P Q O).E.getD k default=(O.getD k default,k,shp (κU (qaq P Q)) (hd0 (O.getD k default).decls)):=by
 rw [qx4 aa];show (opsE O _).getD k default=_;rw [qp6 O _ h,qg3 _ O k h]
theorem qh7 (h:okS P Q=true):Lim (clo P.length (prs Q)):=by
 rw [← qlj h];exact qy6 P Q
theorem qzk (aa:qah P Q O=true)(hk:k<O.length):DeclN P.length (ar (O.getD k default)) (O.getD k default).decls:=by
 obtain ⟨_,_,_,hd,_⟩:=qa8 aa;obtain ⟨_,_,h3,h4⟩:=qap (hd _ (qx3 hk));intro d ab;obtain ⟨h5,h6⟩:=h3 d ab;obtain ⟨p1,p2,p3⟩:=qaj h5;have hl:d.1.length=(hd0 (O.getD k default).decls).1.length:=by
  have:=congrArg (fun x=>x.1.length) h6;simpa [kD] using this
 exact ⟨hl,p2,fun j hj=>p3 j (by rw [hl];exact hj)⟩
theorem qCn (aa:qah P Q O=true)(hk:k<O.length)(h:((O.getD k default).ass || (O.getD k default).com)=true):ar (O.getD k default)=2:=by
 obtain ⟨_,_,_,_,hx⟩:=qa8 aa;have h4:=hx _ (qx3 hk);simp only [axOk,qdf,Bool.and_eq_true,Bool.or_eq_true,decide_eq_true_eq,Bool.not_eq_true'] at h4;rcases h4.1 with h5|h5
 ·rw [h5.1.1,h5.1.2] at h;cases h
 ·exact h5.1.1
theorem qAc (aa:qah P Q O=true)(h:k<O.length):((grM P Q O).E.getD k default).1=O.getD k default:=by rw [qBp aa h]
theorem qBq (aa:qah P Q O=true):(grM P Q O).E.length=O.length:=by rw [qx4 aa];exact qg6 _ _
end tsa
end Go.Proofs.YtiilamngcoegiaaGreat
