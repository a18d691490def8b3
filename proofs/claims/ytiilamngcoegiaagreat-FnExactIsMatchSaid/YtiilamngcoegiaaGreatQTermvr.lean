
import Derived.Test.YtiilamngcoegiaaGreatQPk09
namespace Go.Proofs.YtiilamngcoegiaaGreat.termvr
open Go.ChangeShapes Go.WideShapes Go.ChangeAt Go.RowKit
theorem Ae_{p:Prop}(h:p:=by rcases hg4 with h|h<;>simp [h]<;>omega):p:=h
theorem Ag_{p:Prop}(h:p:=by show some c≠some vb;intro e;injection e;omega):p:=h
theorem Ak_{p:Prop}(h:p:=by first|omega|(simp;omega)):p:=h
variable {c g x o vb B g4 k aa:Nat}{W w0 w w1:World}{v0 va v1 v2 a b d e ac:Value}{tn:List UInt8}{ts:Int}{ob:Obj}
open mem dec rowl trm trmv terml termb termt termz
def flatV:List TermM→List Value
 | []=>[]
 | t::l=>.int .i64 t.op::.string (bstr t.name)::.int .i64 t.sort::.slice none 0 0::flatV l
theorem qbn:∀ l:List TermM,(flatV l).length=l.length*4
 | []=>rfl
 | t::l=>by simp only [flatV,List.length_cons,qbn l];omega
theorem qbo:∀ l m:List TermM,flatV (l++m)=flatV l++flatV m
 | [],m=>rfl
 | t::l,m=>by simp [flatV,qbo l m]
theorem qd8:∀ {l:List TermM} {j:Nat},j<l.length→qc6 (flatV l) j (l.getD j default) (.slice none 0 0)
 | [],_,h=>by simp at h
 | t::l,0,_=>⟨rfl,rfl,rfl,rfl⟩
 | t::l,j+1,h=>by
  obtain ⟨a,b,c,d⟩:=qd8 (l:=l) (j:=j) Bg_;rw [List.getD_cons_succ];unfold qc6;rw [show (j+1)*4=j*4+4 by omega];exact ⟨a,b,c,d⟩
theorem one4 (w:World)(a b c d:Value)(t:TypeId):∀ (j:Nat) (x:Value),[a,b,c,d][j]? =some x→(w.alloc (.cells #[a,b,c,d] t)).cell? ((⟨w.heap.size,0,none⟩:Addr).add j)=some x:=by
 intro j x hj;match j,hj with
 | 0,hj=>simp at hj;subst hj;simp [Addr.add]
 | 1,hj=>simp at hj;subst hj;simp [Addr.add]
 | 2,hj=>simp at hj;subst hj;simp [Addr.add]
 | 3,hj=>simp at hj;subst hj;simp [Addr.add]
theorem at4 (w:World)(a b c d:Value)(t:TypeId)(z:Nat)(h:z=w.heap.size):∀ (j:Nat) (x:Value),[a,b,c,d][j]? =some x→(w.alloc (.cells #[a,b,c,d] t)).cell? ((⟨z,0,none⟩:Addr).add j)=some x:=by
 subst h;exact one4 w a b c d t
theorem at4b (W:World)(a b c d:Value)(t:TypeId)(z:Nat)(h:z=W.heap.size)(hb:Below (W.alloc (.cells #[a,b,c,d] t)).drew.heap.size (W.alloc (.cells #[a,b,c,d] t)).drew w1):∀ (j:Nat) (x:Value),[a,b,c,d][j]? =some x→w1.cell? ((⟨z,0,none⟩:Addr).add j)=some x:=by
 intro j x hx;have h1:=at4 W a b c d t z h j x hx;rw [Addr.add_lit] at h1 ⊢;exact (hb.cell (p:=⟨z,0+j,none⟩) (by subst h;simp)).trans h1
theorem qaw{c:Value}(h:a.oneCell'=true)(h1:b.oneCell'=true)(h2:c.oneCell'=true)(h3:d.oneCell'=true):∀ x∈[a,b,c,d],x.oneCell'=true:=by
 intro x hx;simp at hx;rcases hx with rfl|rfl|rfl|rfl
 ·exact h
 ·exact h1
 ·exact h2
 ·exact h3
theorem qbw (g o:Nat)(x:Int)(w:World)(h:w.cell? ⟨g,o,none⟩=some (.int .i64 x))(r:Bool)(hr:decide (x=-1)=r):
  Calls Tryz.prog 98 #[.pointer (some ⟨g,o,none⟩)] w fun e w'=>e=.returned (.bool r)∧w=w':=by
 have HR:Hid (r=(x==-1)):=z_ (by rw [← hr,Bool.eq_iff_iff];simp);clear hr;go_enter Tryz.func98,Tryz.ntmps98
 go_wp2;go_ret;exact ⟨qa0 HR.out.symm,rfl⟩
theorem qj1 (g o:Nat)(op:Int)(l:List UInt8)(s:Int)(w:World)(t0:w.cell? ⟨g,o,none⟩=some (.int .i64 op))(t1:w.cell? ⟨g,o+1,none⟩=some (.string (bstr l)))(t2:w.cell? ⟨g,o+2,none⟩=some (.int .i64 s)):
  Calls Tryz.prog 113 #[.pointer (some ⟨g,o,none⟩)] w fun e w'=>e=.returned (.agg #[.int .i64 op,.string (bstr l),.int .i64 s,.slice none 0 0])∧Below w.heap.size w w':=by
 have hg:=l_ t0;simp only [] at hg;go_enter Tryz.func113,Tryz.ntmps113
 go_wp2_with fail
 have ab:¬ w.heap.size=g:=o_;have aa:Below w.heap.size w (w.alloc (.cells #[.int .i64 0,.string { data:=#[] },.int .i64 0,.slice none 0 0] 38)):=b_.alloc n_ _;have c0:=(aa.cell (p:=⟨g,o,none⟩) hg).trans t0;have c1:=(aa.cell (p:=⟨g,o+1,none⟩) hg).trans t1;have c2:=(aa.cell (p:=⟨g,o+2,none⟩) hg).trans t2
 go_region_held3 (fun w'=>w'.cell? ⟨g,o,none⟩=some (.int .i64 op)∧w'.cell? ⟨g,o+1,none⟩=some (.string (bstr l))∧w'.cell? ⟨g,o+2,none⟩=some (.int .i64 s))
  (first|assumption|(refine ⟨?_,?_,?_⟩<;>assumption)|(refine ⟨?_,?_,?_⟩<;>(refine (Below.cell (((Below.refl w.heap.size w).alloc n_ _).drew) (p:=⟨g,_,none⟩) hg).trans ?_;assumption)))
  (fail)
 go_wp2;refine bodyPost_ret (v:=.agg #[.int .i64 op,.string (bstr l),.int .i64 s,.slice none 0 0]) (by simp [results,Tryz.results113,go_sem]) rfl ⟨rfl,?_⟩;repeat (first|(refine Below.drew ?_)|(refine Below.setCell ?_ Ab_ _)|(refine Below.alloc ?_ Ab_ _))
 exact Below.refl _ _
abbrev SV (W:World)(x g o c vb:Nat)(v0 va v1 v2:Value)(w':World):Prop:=(w'.cell? ⟨x,0,none⟩=some v0∧w'.cell? ⟨g,o,none⟩=some va∧w'.cell? ⟨g,o+1,none⟩=some v1∧w'.cell? ⟨g,o+2,none⟩=some v2)∧Chg [c,vb] W w'
theorem qab (h:SV W x g o c vb v0 va v1 v2 w0)(b i:Nat)(u:Value)(hx:b≠x)(hg:b≠g)(hb:b=c∨b=vb∨W.heap.size≤b):SV W x g o c vb v0 va v1 v2 (w0.setCell ⟨b,i,none⟩ u):=by
 have k:∀ z y,b≠z→(w0.setCell ⟨b,i,none⟩ u).cell? ⟨z,y,none⟩=w0.cell? ⟨z,y,none⟩:=fun z y hz=>World.cell?_setCell_other w0 ⟨b,i,none⟩ ⟨z,y,none⟩ u (fun e=>hz (congrArg Addr.block e))
 refine ⟨?_,⟨h.2.os,h.2.tape,h.2.output,by have:=h.2.size;simpa [World.setCell] using this,fun q hq hn=>(Below.heap_setCell w0 ⟨b,i,none⟩ u q (fun e=>?_)).trans (h.2.block q hq hn)⟩⟩
 ·rw [k x 0 hx,k g _ hg,k g _ hg,k g _ hg];exact h.1
 ·have e':q=b:=e
  subst e';simp at hn;omega
theorem qac (h:SV W x g o c vb v0 va v1 v2 w0)(b i j k l:Nat)(u u1 u2 u3:Value)(hx:b≠x)(hg:b≠g)(hb:b=c∨b=vb∨W.heap.size≤b):
  SV W x g o c vb v0 va v1 v2 ((((w0.setCell ⟨b,i,none⟩ u).setCell ⟨b,j,none⟩ u1).setCell ⟨b,k,none⟩ u2).setCell ⟨b,l,none⟩ u3):=
 qab (qab (qab (qab h b i u hx hg hb) b j u1 hx hg hb) b k u2 hx hg hb) b l u3 hx hg hb
theorem qfj (h:SV W x g o c vb v0 va v1 v2 w0)(hx:x<W.heap.size)(hg:g<W.heap.size)(hb:Below w0.heap.size w0 w1):SV W x g o c vb v0 va v1 v2 w1:=by
 have hs:=h.2.size;refine ⟨?_,h.2.trans (Chg.of_below hb)⟩;rw [hb.cell (p:=⟨x,0,none⟩) (by show x<_;omega),hb.cell (p:=⟨g,o,none⟩) (by show g<_;omega),hb.cell (p:=⟨g,o+1,none⟩) (by show g<_;omega),hb.cell (p:=⟨g,o+2,none⟩) (by show g<_;omega)];exact h.1
theorem qad (h:SV W x g o c vb v0 va v1 v2 w0.drew)(hx:x<W.heap.size)(hg:g<W.heap.size):SV W x g o c vb v0 va v1 v2 (w0.alloc ob).drew:=qfj h hx hg ((Below.refl w0.drew.heap.size w0.drew).alloc n_ ob)
theorem qae (h:SV W x g o c vb v0 va v1 v2 w0)(hx:x<W.heap.size)(hg:g<W.heap.size):SV W x g o c vb v0 va v1 v2 (w0.alloc ob):=qfj h hx hg ((Below.refl w0.heap.size w0).alloc n_ ob)
theorem qgz (h:SV W x g o c vb v0 va v1 v2 w0)(hx:x<W.heap.size)(hg:g<W.heap.size)(h1:x≠vb)(h2:g≠vb)(aa:w0.grownBy w1 (some vb)):SV W x g o c vb v0 va v1 v2 w1:=by
 have hs:=h.2.size;have k:∀ z y,z≠vb→z<W.heap.size→w1.cell? ⟨z,y,none⟩=w0.cell? ⟨z,y,none⟩:=fun z y hz ab=>aa.cell_far ⟨z,y,none⟩ (by show z<_;omega) (by show some z≠some vb;intro e;injection e;omega)
 refine ⟨?_,h.2.trans ⟨aa.os,aa.tape,aa.output,aa.size,fun q hq hn=>aa.block q hq (by intro e;injection e;simp at hn;omega)⟩⟩;rw [k x 0 h1 hx,k g _ h2 hg,k g _ h2 hg,k g _ h2 hg];exact h.1
theorem qdk{l:List UInt8}{s:Int}(h:SV W x g o c vb v0 (.int .i64 (-1)) (.string (bstr l)) (.int .i64 s) w0):
  Calls Tryz.prog 113 #[.pointer (some ⟨g,o,none⟩)] w0 fun e w'=>e=.returned (.agg #[.int .i64 (-1),.string (bstr l),.int .i64 s,.slice none 0 0])∧Below w0.heap.size w0 w':=qj1 g o (-1) l s w0 h.1.2.1 h.1.2.2.1 h.1.2.2.2
theorem qv3 (V:List TermM)(k:Nat)(hk:k=V.length)(a b c d a' b' c' d':Value):((((flatV V++[a,b,c,d]).set (k*4) a').set (k*4+1) b').set (k*4+2) c').set (k*4+3) d'=flatV V++[a',b',c',d']:=by
 have h:=qbn V;rw [← hk] at h;rw [List.set_append_right _ _ o_,List.set_append_right _ _ o_,List.set_append_right _ _ o_,List.set_append_right _ _ o_,h];simp [Nat.add_sub_cancel_left]
theorem qv4{n:Nat}{e:TypeId}{size:Nat}{cap:Nat}{xs:List Value}(h:w.ownsRow B e size (.slice (some ⟨g,0,none⟩) n cap) n xs)(c:Nat)(aa:¬ g=c)(u:Value):(w.setCell ⟨c,0,none⟩ u).ownsRow B e size (.slice (some ⟨g,0,none⟩) n cap) n xs:=
 (Chg.set (S:=[c]) (by simp) u).own h (fun x hx=>by simp [Value.ownBlock] at hx;subst hx;simpa using aa)
def Fin4 (B c g4 k aa:Nat)(V:List TermM)(tn:List UInt8)(ts:Int)(w':World):Prop:=w'.cell? ⟨c,0,none⟩=some (.slice (some ⟨g4,0,none⟩) (k+1) aa)∧w'.frozen? ⟨c,0,none⟩=false∧w'.ownsRow B 38 4 (.slice (some ⟨g4,0,none⟩) (k+1) aa) (k+1) (flatV (V++[var tn ts]))
theorem qqz{V:List TermM}(hk:k=V.length)(h:w.ownsRow B 38 4 (.slice (some ⟨g4,0,none⟩) (k+1) aa) (k+1) (flatV V++[a,b,d,e])):
  ((((w.setCell ⟨g4,k*4,none⟩ (.int .i64 (-1))).setCell ⟨g4,k*4+1,none⟩ (.string (bstr tn))).setCell ⟨g4,k*4+2,none⟩ (.int .i64 ts)).setCell ⟨g4,k*4+3,none⟩ (.slice none 0 0)).ownsRow B 38 4 (.slice (some ⟨g4,0,none⟩) (k+1) aa) (k+1) (flatV (V++[var tn ts])):=by
 have h':=qa4 (qa4 (qa4 (qa4 h (k*4) (.int .i64 (-1))) (k*4+1) (.string (bstr tn))) (k*4+2) (.int .i64 ts)) (k*4+3) (.slice none 0 0);rw [qv3 V k hk] at h';rw [qbo];exact h'
theorem qr0{a0 a1 a2 a3:Nat}{u0 u1 u2 u3:Value}(aa:¬ g4=c){r:Option Value}{f:Bool}(h:w.cell? ⟨c,0,none⟩=r)(hf:w.frozen? ⟨c,0,none⟩=f):
  ((((w.setCell ⟨g4,a0,none⟩ u0).setCell ⟨g4,a1,none⟩ u1).setCell ⟨g4,a2,none⟩ u2).setCell ⟨g4,a3,none⟩ u3).cell? ⟨c,0,none⟩=r∧((((w.setCell ⟨g4,a0,none⟩ u0).setCell ⟨g4,a1,none⟩ u1).setCell ⟨g4,a2,none⟩ u2).setCell ⟨g4,a3,none⟩ u3).frozen? ⟨c,0,none⟩=f:=by
 have k:∀ (w:World) i u,(w.setCell ⟨g4,i,none⟩ u).cell? ⟨c,0,none⟩=w.cell? ⟨c,0,none⟩:=fun w i u=>World.cell?_setCell_other w ⟨g4,i,none⟩ ⟨c,0,none⟩ u (fun e=>aa (congrArg Addr.block e))
 refine ⟨?_,?_⟩
 ·rw [k,k,k,k];exact h
 ·rw [World.frozen?_setCell,World.frozen?_setCell,World.frozen?_setCell,World.frozen?_setCell];exact hf
theorem qhs{V:List TermM}(hk:k=V.length)(h:w.ownsRow B 38 4 (.slice (some ⟨g4,0,none⟩) (k+1) aa) (k+1) (flatV V++[a,b,d,e]))(ab:¬ g4=c)(hc:w.cell? ⟨c,0,none⟩=some ac)(hf:w.frozen? ⟨c,0,none⟩=false):
  Fin4 B c g4 k aa V tn ts (((((w.setCell ⟨g4,k*4,none⟩ (.int .i64 (-1))).setCell ⟨g4,k*4+1,none⟩ (.string (bstr tn))).setCell ⟨g4,k*4+2,none⟩ (.int .i64 ts)).setCell ⟨g4,k*4+3,none⟩ (.slice none 0 0)).setCell ⟨c,0,none⟩ (.slice (some ⟨g4,0,none⟩) (k+1) aa)):=by
 obtain ⟨h1,h2⟩:=qr0 (a0:=k*4) (a1:=k*4+1) (a2:=k*4+2) (a3:=k*4+3) (u0:=.int .i64 (-1)) (u1:=.string (bstr tn)) (u2:=.int .i64 ts) (u3:=.slice none 0 0) ab hc hf;exact ⟨World.cell?_setCell_same _ _ _ h1,by rw [World.frozen?_setCell];exact h2,qv4 (qqz hk h) c ab _⟩
theorem qht{V:List TermM}(hk:k=V.length)(h:w.ownsRow B 38 4 (.slice (some ⟨g4,0,none⟩) (k+1) aa) (k+1) (flatV V++[a,b,d,e]))(ab:¬ g4=c)(hc:w.cell? ⟨c,0,none⟩=some ac)(hf:w.frozen? ⟨c,0,none⟩=false):
  Fin4 B c g4 k aa V tn ts (((((w.setCell ⟨c,0,none⟩ (.slice (some ⟨g4,0,none⟩) (k+1) aa)).setCell ⟨g4,k*4,none⟩ (.int .i64 (-1))).setCell ⟨g4,k*4+1,none⟩ (.string (bstr tn))).setCell ⟨g4,k*4+2,none⟩ (.int .i64 ts)).setCell ⟨g4,k*4+3,none⟩ (.slice none 0 0)):=by
 obtain ⟨h1,h2⟩:=qr0 (a0:=k*4) (a1:=k*4+1) (a2:=k*4+2) (a3:=k*4+3) (u0:=.int .i64 (-1)) (u1:=.string (bstr tn)) (u2:=.int .i64 ts) (u3:=.slice none 0 0) ab (World.cell?_setCell_same w ⟨c,0,none⟩ (.slice (some ⟨g4,0,none⟩) (k+1) aa) hc) ((World.frozen?_setCell _ _ _ _).trans hf);exact ⟨h1,h2,qqz hk (qv4 h c ab _)⟩
def qAz (B c vb k:Nat)(op:Int)(name:List UInt8)(sort:Int)(V:List TermM)(w:World)(ex:Ending)(w':World):Prop:=(op≠-1∧ex=.returned (.bool true)∧Below w.heap.size w w') ∨
 (op=-1∧ex=.returned (.bool false)∧∃ aa cap',Chg [c,vb] w w'∧(aa=vb∨w.heap.size≤aa)∧Fin4 B c aa k cap' V name sort w')
theorem c45_{p:Prop}(h:p:=by
 (try dsimp only);first|((with_reducible refine qab ?_ c _ _ ah ai (.inl rfl));with_reducible assumption)|((with_reducible refine qac ?_ g4 _ _ _ _ _ _ _ _ ac ad ae);with_reducible assumption)|(with_reducible assumption)|((with_reducible refine qad ?_ hx ab);with_reducible assumption)|((with_reducible refine qae ?_ hx ab);with_reducible assumption)|(refine ⟨⟨?_,?_,?_,?_⟩,Chg.of_below b_.drew⟩<;>assumption)
):p:=h
theorem c46_{p:Prop}(h:p:=by
 first|(with_reducible exact qhs HK.out aa af ak al)|(with_reducible exact qht HK.out aa af ak al)
):p:=h
theorem c47_{p:Prop}(h:p:=by
 rcases hg4 with h|h
 ·exact .inl h
 ·right;rw [h];first|omega|(simp;omega)
):p:=h
set_option maxRecDepth 50000 in
set_option maxHeartbeats 8000000 in
theorem qCc (B c vb k cap g o d:Nat)(t:TermM)(V:List TermM)(w:World)(hk:k=V.length)(bN:k≤1073741824)(bO:c≠vb)(hB:B≤w.heap.size)(h:w.cell? ⟨c,0,none⟩=some (.slice (some ⟨vb,0,none⟩) k cap))(hf:w.frozen? ⟨c,0,none⟩=false)(ho:w.ownsRow B 38 4 (.slice (some ⟨vb,0,none⟩) k cap) k (flatV V))(t0:w.cell? ⟨g,o,none⟩=some (.int .i64 t.op))(t1:w.cell? ⟨g,o+1,none⟩=some (.string (bstr t.name)))(t2:w.cell? ⟨g,o+2,none⟩=some (.int .i64 t.sort))(aK:g≠vb)(bH:g≠c):
  Calls Tryz.prog 112 (#[qdi (g,o,d)]++#[.pointer (some ⟨c,0,none⟩)]) w (qAz B c vb k t.op t.name t.sort V w):=by
 have _:=hB;have hc:=l_ h;have hg:=l_ t0;simp only [] at hc hg;obtain ⟨bP,bQ,bR⟩:=qc8 ho;obtain ⟨j0,aL,aM,aN,aO⟩:=info_parts qb1;have HO:=z_ ho;have HK:=z_ hk;have bI:=z_ (show t.op=-1∨t.op≠-1 by omega);obtain ⟨to,bo⟩:=e_ (t.op);obtain ⟨tn,bp⟩:=e_ (t.name);obtain ⟨ts,bq⟩:=e_ (t.sort);rw [← bo] at t0;rw [← bp] at t1;rw [← bq] at t2;rw [← bo,← bp,← bq];clear ho hk bo bp bq bI;unfold qdi ptr;show Calls _ _ #[.agg #[.pointer (some ⟨g,o,none⟩),.int .i64 d],.pointer (some ⟨c,0,none⟩)] _ _;go_enter Tryz.func112,Tryz.ntmps112
 go_wp2_with fail
 have au:Below w.heap.size w (w.alloc (.cells #[.pointer (some ⟨g,o,none⟩),.int .i64 d] 164)):=b_.alloc n_ _;have p0:(w.alloc (.cells #[.pointer (some ⟨g,o,none⟩),.int .i64 d] 164)).cell? ⟨w.heap.size,0,none⟩=some (.pointer (some ⟨g,o,none⟩)):=by simp
 have bm:(w.alloc (.cells #[.pointer (some ⟨g,o,none⟩),.int .i64 d] 164)).heap.size=w.heap.size+1:=by simp
 generalize w.alloc (.cells #[.pointer (some ⟨g,o,none⟩),.int .i64 d] 164)=W at au p0 bm ⊢
 have kg:∀ y,w.cell? ⟨g,y,none⟩=W.cell? ⟨g,y,none⟩:=fun y=>(au.cell (p:=⟨g,y,none⟩) hg).symm
 rw [kg] at t0 t1 t2;have aQ:=(au.cell (p:=⟨c,0,none⟩) hc).trans h;have aR:=(au.frozen (p:=⟨c,0,none⟩) hc).trans hf;have aS:=z_ (own_below HO.out au);clear kg h hf;by_cases hv:to=-1
 case neg=>
  refine (qbw g o to _ t0 false (decide_eq_false hv)).mono ?_;rintro e w' ⟨rfl,rfl⟩;go_wp2;go_ret;exact .inl ⟨hv,rfl,au⟩
 subst hv;refine (qbw g o (-1) _ t0 true (by simp)).mono ?_;rintro e w' ⟨rfl,rfl⟩;have hx:w.heap.size<W.heap.size:=o_;have ab:g<W.heap.size:=o_;have az:c<W.heap.size:=o_;have aP:w.heap.size≠vb:=o_;have bS:¬ c=w.heap.size:=o_;have bJ:(0:Int)≤(k:Int):=o_;have bK:(k:Int)<(k:Int)+1:=o_;have ah:c≠w.heap.size:=o_;have ai:c≠g:=fun h=>bH h.symm
 go_wp2_with fail
 refine wp_region_noPanic ?_;refine wp_region_held_drew (S:=(SV W w.heap.size g o c vb (.pointer (some ⟨g,o,none⟩)) (.int .i64 (-1)) (.string (bstr tn)) (.int .i64 ts))) k_ ?_ (fun aJ=>?_)
 ·refine ⟨⟨?_,?_,?_,?_⟩,Chg.of_below b_.drew⟩<;>assumption
 refine t_k 1 ?_;refine t_k 2 ?_;refine r_d [0,3,5] ?_;refine c_s (fun K hK=>?_) ?_
 ·go_simp
  refine k_o hK ?_ (fun aT=>?_)
  ·exact c45_
  clear hK K aJ;refine t_k 4 ?_;refine r_d [3,5] ?_;refine c_s (fun K hK=>?_) ?_
  ·(go_simp;refine (qdk (W:=W) (x:=w.heap.size) (g:=g) (o:=o) (c:=c) (vb:=vb) (l:=tn) (s:=ts) Ad_).mono ?_;rintro e w1 ⟨rfl,av⟩;have am:Below W.heap.size W w1:=(Below.refl W.heap.size W).drew.trans (av.mono n_);have aB:=am.size;have ao:=(am.cell (p:=⟨c,0,none⟩) az).trans aQ;have ap:=(am.frozen (p:=⟨c,0,none⟩) az).trans aR;have aq:c<w1.heap.size:=o_;have aA:=z_ (own_below aS.out am);have bn:=qfj Ad_ hx ab av;(try dsimp only))
   refine k_o hK ?_ (fun br=>?_)
   ·exact c45_
   clear hK K aT;refine r_d [5] ?_;refine c_s (fun K hK=>?_) ?_
   ·go_simp
    refine k_o hK ?_ (fun bs=>?_)
    ·exact c45_
    clear hK K br;refine r_d [6] ?_;refine c_s (fun K hK=>?_) ?_
    ·(refine step_append_d (by rfl) _ _ _ (by rfl) B 38 j0 _ 4 56 Tryz.underlying36 aL aM aN aO rfl o_ vb k cap (flatV V) (by rfl) (own_below aA.out (b_.alloc n_ _)) ⟨w1.heap.size,0,none⟩ 1 1 [.int .i64 0,.string { data:=#[] },.int .i64 0,.slice none 0 0] (by rfl) (by rfl) (fun q x hq=>at4 w1 _ _ _ _ _ _ rfl q x hq) (qaw rfl rfl rfl rfl) Aa_ o_ Ak_ ?_;intro g4 aj w4 aa ag hg4 aw ax;have aU:=qgz Ad_ hx ab aP aK ag;obtain ⟨⟨u0,e0⟩,f0⟩:=qaa aa (i:=k*4) o_;obtain ⟨⟨u1,e1⟩,f1⟩:=qaa aa (i:=k*4+1) o_;obtain ⟨⟨u2,e2⟩,f2⟩:=qaa aa (i:=k*4+2) o_;obtain ⟨⟨u3,e3⟩,f3⟩:=qaa aa (i:=k*4+3) o_;have ak:=(ag.cell_far ⟨c,0,none⟩ Ak_ Ag_).trans ((((Below.refl w1.heap.size w1).alloc n_ _).cell (p:=⟨c,0,none⟩) aq).trans ao);have al:=(ag.frozen_far ⟨c,0,none⟩ Ak_ Ag_).trans ((((Below.refl w1.heap.size w1).alloc n_ _).frozen (p:=⟨c,0,none⟩) aq).trans ap);have af:¬ g4=c:=Ae_;have ay:¬ c=g4:=fun h=>af h.symm;have ac:g4≠w.heap.size:=Ae_;have ad:g4≠g:=Ae_;have ae:g4=c∨g4=vb∨W.heap.size≤g4:=Ae_)
     refine k_o hK ?_ (fun aV=>?_)
     ·exact c45_
     clear hK K bs;refine t_k 7 ?_;refine r_d [8,9] ?_;refine c_s (fun K hK=>?_) ?_
     ·go_simp
      refine k_o hK ?_ (fun bt=>?_)
      ·exact c45_
      clear hK K aV;refine r_d [9] ?_;refine c_s (fun K hK=>?_) ?_
      ·go_simp
       refine k_o hK ?_ (fun bL=>?_)
       ·exact c45_
       clear hK K bt;refine wpAnyH_done k_ ?_ _;refine NoPanic.normal ?_;have an:Chg [c,vb] W _:=(by with_reducible assumption:_∧Chg [c,vb] W _).2;go_wp2;go_ret;refine .inr ⟨rfl,rfl,g4,aj,(Chg.of_below au).trans an,?_,?_⟩
       ·exact c47_
       ·exact c46_
      exact a_l
     refine c_s (fun K hK=>?_) ?_
     ·go_simp
      refine k_o hK ?_ (fun bu=>?_)
      ·exact c45_
      clear hK K aV;refine r_d [8] ?_;refine c_s (fun K hK=>?_) ?_
      ·go_simp
       refine k_o hK ?_ (fun bM=>?_)
       ·exact c45_
       clear hK K bu;refine wpAnyH_done k_ ?_ _;refine NoPanic.normal ?_;have an:Chg [c,vb] W _:=(by with_reducible assumption:_∧Chg [c,vb] W _).2;go_wp2;go_ret;refine .inr ⟨rfl,rfl,g4,aj,(Chg.of_below au).trans an,?_,?_⟩
       ·exact c47_
       ·exact c46_
      exact a_l
     exact a_l
    exact a_l
   exact a_l
  refine c_s (fun K hK=>?_) ?_
  ·go_simp
   refine k_o hK ?_ (fun bv=>?_)
   ·exact c45_
   clear hK K aT;refine r_d [3] ?_;refine c_s (fun K hK=>?_) ?_
   ·(go_simp;refine (qdk (W:=W) (x:=w.heap.size) (g:=g) (o:=o) (c:=c) (vb:=vb) (l:=tn) (s:=ts) Ad_).mono ?_;rintro e w1 ⟨rfl,av⟩;have am:Below W.heap.size W w1:=((Below.refl W.heap.size W).alloc n_ _).drew.trans (av.mono (by simp));have aB:=am.size;have ao:=(am.cell (p:=⟨c,0,none⟩) az).trans aQ;have ap:=(am.frozen (p:=⟨c,0,none⟩) az).trans aR;have aq:c<w1.heap.size:=o_;have aA:=z_ (own_below aS.out am);have bn:=qfj Ad_ hx ab av;(try dsimp only))
    refine k_o hK ?_ (fun aW=>?_)
    ·exact c45_
    clear hK K bv;refine r_d [6] ?_;refine c_s (fun K hK=>?_) ?_
    ·(refine step_append_d (by rfl) _ _ _ (by rfl) B 38 j0 _ 4 56 Tryz.underlying36 aL aM aN aO rfl o_ vb k cap (flatV V) (by rfl) aA.out ⟨w.heap.size+1,0,none⟩ 1 1 [.int .i64 0,.string { data:=#[] },.int .i64 0,.slice none 0 0] (by rfl) (by rfl) (fun q x hq=>at4b W _ _ _ _ _ _ bm.symm av q x hq) (qaw rfl rfl rfl rfl) Aa_ o_ Ak_ ?_;intro g4 aj w4 aa ag hg4 aw ax;have aU:=qgz Ad_ hx ab aP aK ag;obtain ⟨⟨u0,e0⟩,f0⟩:=qaa aa (i:=k*4) o_;obtain ⟨⟨u1,e1⟩,f1⟩:=qaa aa (i:=k*4+1) o_;obtain ⟨⟨u2,e2⟩,f2⟩:=qaa aa (i:=k*4+2) o_;obtain ⟨⟨u3,e3⟩,f3⟩:=qaa aa (i:=k*4+3) o_;have ak:=(ag.cell_far ⟨c,0,none⟩ Ak_ Ag_).trans ao;have al:=(ag.frozen_far ⟨c,0,none⟩ Ak_ Ag_).trans ap;have af:¬ g4=c:=Ae_;have ay:¬ c=g4:=fun h=>af h.symm;have ac:g4≠w.heap.size:=Ae_;have ad:g4≠g:=Ae_;have ae:g4=c∨g4=vb∨W.heap.size≤g4:=Ae_)
     refine k_o hK ?_ (fun aC=>?_)
     ·exact c45_
     clear hK K aW;refine t_k 7 ?_;refine r_d [8,9] ?_;refine c_s (fun K hK=>?_) ?_
     ·go_simp
      refine k_o hK ?_ (fun aX=>?_)
      ·exact c45_
      clear hK K aC;refine r_d [9] ?_;refine c_s (fun K hK=>?_) ?_
      ·go_simp
       refine k_o hK ?_ (fun bw=>?_)
       ·exact c45_
       clear hK K aX;refine wpAnyH_done k_ ?_ _;refine NoPanic.normal ?_;have an:Chg [c,vb] W _:=(by with_reducible assumption:_∧Chg [c,vb] W _).2;go_wp2;go_ret;refine .inr ⟨rfl,rfl,g4,aj,(Chg.of_below au).trans an,?_,?_⟩
       ·exact c47_
       ·exact c46_
      exact a_l
     refine c_s (fun K hK=>?_) ?_
     ·go_simp
      refine k_o hK ?_ (fun aY=>?_)
      ·exact c45_
      clear hK K aC;refine r_d [8] ?_;refine c_s (fun K hK=>?_) ?_
      ·go_simp
       refine k_o hK ?_ (fun bx=>?_)
       ·exact c45_
       clear hK K aY;refine wpAnyH_done k_ ?_ _;refine NoPanic.normal ?_;have an:Chg [c,vb] W _:=(by with_reducible assumption:_∧Chg [c,vb] W _).2;go_wp2;go_ret;refine .inr ⟨rfl,rfl,g4,aj,(Chg.of_below au).trans an,?_,?_⟩
       ·exact c47_
       ·exact c46_
      exact a_l
     exact a_l
    exact a_l
   exact a_l
  exact a_l
 refine c_s (fun K hK=>?_) ?_
 ·(go_simp;refine (qdk (W:=W) (x:=w.heap.size) (g:=g) (o:=o) (c:=c) (vb:=vb) (l:=tn) (s:=ts) Ad_).mono ?_;rintro e w1 ⟨rfl,av⟩;have am:Below W.heap.size W w1:=(Below.refl W.heap.size W).drew.trans (av.mono n_);have aB:=am.size;have ao:=(am.cell (p:=⟨c,0,none⟩) az).trans aQ;have ap:=(am.frozen (p:=⟨c,0,none⟩) az).trans aR;have aq:c<w1.heap.size:=o_;have aA:=z_ (own_below aS.out am);have bn:=qfj Ad_ hx ab av;(try dsimp only))
  refine k_o hK ?_ (fun aD=>?_)
  ·exact c45_
  clear hK K aJ;refine r_d [0,5] ?_;refine c_s (fun K hK=>?_) ?_
  ·go_simp
   refine k_o hK ?_ (fun aZ=>?_)
   ·exact c45_
   clear hK K aD;refine t_k 4 ?_;refine r_d [5] ?_;refine c_s (fun K hK=>?_) ?_
   ·go_simp
    refine k_o hK ?_ (fun a6=>?_)
    ·exact c45_
    clear hK K aZ;refine r_d [6] ?_;refine c_s (fun K hK=>?_) ?_
    ·(refine step_append_d (by rfl) _ _ _ (by rfl) B 38 j0 _ 4 56 Tryz.underlying36 aL aM aN aO rfl o_ vb k cap (flatV V) (by rfl) (own_below aA.out (b_.alloc n_ _)) ⟨w1.heap.size,0,none⟩ 1 1 [.int .i64 0,.string { data:=#[] },.int .i64 0,.slice none 0 0] (by rfl) (by rfl) (fun q x hq=>at4 w1 _ _ _ _ _ _ rfl q x hq) (qaw rfl rfl rfl rfl) Aa_ o_ Ak_ ?_;intro g4 aj w4 aa ag hg4 aw ax;have aU:=qgz Ad_ hx ab aP aK ag;obtain ⟨⟨u0,e0⟩,f0⟩:=qaa aa (i:=k*4) o_;obtain ⟨⟨u1,e1⟩,f1⟩:=qaa aa (i:=k*4+1) o_;obtain ⟨⟨u2,e2⟩,f2⟩:=qaa aa (i:=k*4+2) o_;obtain ⟨⟨u3,e3⟩,f3⟩:=qaa aa (i:=k*4+3) o_;have ak:=(ag.cell_far ⟨c,0,none⟩ Ak_ Ag_).trans ((((Below.refl w1.heap.size w1).alloc n_ _).cell (p:=⟨c,0,none⟩) aq).trans ao);have al:=(ag.frozen_far ⟨c,0,none⟩ Ak_ Ag_).trans ((((Below.refl w1.heap.size w1).alloc n_ _).frozen (p:=⟨c,0,none⟩) aq).trans ap);have af:¬ g4=c:=Ae_;have ay:¬ c=g4:=fun h=>af h.symm;have ac:g4≠w.heap.size:=Ae_;have ad:g4≠g:=Ae_;have ae:g4=c∨g4=vb∨W.heap.size≤g4:=Ae_)
     refine k_o hK ?_ (fun aE=>?_)
     ·exact c45_
     clear hK K a6;refine t_k 7 ?_;refine r_d [8,9] ?_;refine c_s (fun K hK=>?_) ?_
     ·go_simp
      refine k_o hK ?_ (fun a7=>?_)
      ·exact c45_
      clear hK K aE;refine r_d [9] ?_;refine c_s (fun K hK=>?_) ?_
      ·go_simp
       refine k_o hK ?_ (fun bz=>?_)
       ·exact c45_
       clear hK K a7;refine wpAnyH_done k_ ?_ _;refine NoPanic.normal ?_;have an:Chg [c,vb] W _:=(by with_reducible assumption:_∧Chg [c,vb] W _).2;go_wp2;go_ret;refine .inr ⟨rfl,rfl,g4,aj,(Chg.of_below au).trans an,?_,?_⟩
       ·exact c47_
       ·exact c46_
      exact a_l
     refine c_s (fun K hK=>?_) ?_
     ·go_simp
      refine k_o hK ?_ (fun a8=>?_)
      ·exact c45_
      clear hK K aE;refine r_d [8] ?_;refine c_s (fun K hK=>?_) ?_
      ·go_simp
       refine k_o hK ?_ (fun bA=>?_)
       ·exact c45_
       clear hK K a8;refine wpAnyH_done k_ ?_ _;refine NoPanic.normal ?_;have an:Chg [c,vb] W _:=(by with_reducible assumption:_∧Chg [c,vb] W _).2;go_wp2;go_ret;refine .inr ⟨rfl,rfl,g4,aj,(Chg.of_below au).trans an,?_,?_⟩
       ·exact c47_
       ·exact c46_
      exact a_l
     exact a_l
    exact a_l
   exact a_l
  refine c_s (fun K hK=>?_) ?_
  ·go_simp
   refine k_o hK ?_ (fun ba=>?_)
   ·exact c45_
   clear hK K aD;refine r_d [0] ?_;refine c_s (fun K hK=>?_) ?_
   ·go_simp
    refine k_o hK ?_ (fun bb=>?_)
    ·exact c45_
    clear hK K ba;refine t_k 4 ?_;refine r_d [6] ?_;refine c_s (fun K hK=>?_) ?_
    ·(refine step_append_d (by rfl) _ _ _ (by rfl) B 38 j0 _ 4 56 Tryz.underlying36 aL aM aN aO rfl o_ vb k cap (flatV V) (by rfl) (own_below aA.out (b_.alloc n_ _)) ⟨w1.heap.size,0,none⟩ 1 1 [.int .i64 0,.string { data:=#[] },.int .i64 0,.slice none 0 0] (by rfl) (by rfl) (fun q x hq=>at4 w1 _ _ _ _ _ _ rfl q x hq) (qaw rfl rfl rfl rfl) Aa_ o_ Ak_ ?_;intro g4 aj w4 aa ag hg4 aw ax;have aU:=qgz Ad_ hx ab aP aK ag;obtain ⟨⟨u0,e0⟩,f0⟩:=qaa aa (i:=k*4) o_;obtain ⟨⟨u1,e1⟩,f1⟩:=qaa aa (i:=k*4+1) o_;obtain ⟨⟨u2,e2⟩,f2⟩:=qaa aa (i:=k*4+2) o_;obtain ⟨⟨u3,e3⟩,f3⟩:=qaa aa (i:=k*4+3) o_;have ak:=(ag.cell_far ⟨c,0,none⟩ Ak_ Ag_).trans ((((Below.refl w1.heap.size w1).alloc n_ _).cell (p:=⟨c,0,none⟩) aq).trans ao);have al:=(ag.frozen_far ⟨c,0,none⟩ Ak_ Ag_).trans ((((Below.refl w1.heap.size w1).alloc n_ _).frozen (p:=⟨c,0,none⟩) aq).trans ap);have af:¬ g4=c:=Ae_;have ay:¬ c=g4:=fun h=>af h.symm;have ac:g4≠w.heap.size:=Ae_;have ad:g4≠g:=Ae_;have ae:g4=c∨g4=vb∨W.heap.size≤g4:=Ae_)
     refine k_o hK ?_ (fun aF=>?_)
     ·exact c45_
     clear hK K bb;refine t_k 7 ?_;refine r_d [8,9] ?_;refine c_s (fun K hK=>?_) ?_
     ·go_simp
      refine k_o hK ?_ (fun bc=>?_)
      ·exact c45_
      clear hK K aF;refine r_d [9] ?_;refine c_s (fun K hK=>?_) ?_
      ·go_simp
       refine k_o hK ?_ (fun bB=>?_)
       ·exact c45_
       clear hK K bc;refine wpAnyH_done k_ ?_ _;refine NoPanic.normal ?_;have an:Chg [c,vb] W _:=(by with_reducible assumption:_∧Chg [c,vb] W _).2;go_wp2;go_ret;refine .inr ⟨rfl,rfl,g4,aj,(Chg.of_below au).trans an,?_,?_⟩
       ·exact c47_
       ·exact c46_
      exact a_l
     refine c_s (fun K hK=>?_) ?_
     ·go_simp
      refine k_o hK ?_ (fun bd=>?_)
      ·exact c45_
      clear hK K aF;refine r_d [8] ?_;refine c_s (fun K hK=>?_) ?_
      ·go_simp
       refine k_o hK ?_ (fun bC=>?_)
       ·exact c45_
       clear hK K bd;refine wpAnyH_done k_ ?_ _;refine NoPanic.normal ?_;have an:Chg [c,vb] W _:=(by with_reducible assumption:_∧Chg [c,vb] W _).2;go_wp2;go_ret;refine .inr ⟨rfl,rfl,g4,aj,(Chg.of_below au).trans an,?_,?_⟩
       ·exact c47_
       ·exact c46_
      exact a_l
     exact a_l
    exact a_l
   exact a_l
  exact a_l
 refine c_s (fun K hK=>?_) ?_
 ·go_simp
  refine k_o hK ?_ (fun aG=>?_)
  ·exact c45_
  clear hK K aJ;refine r_d [0,3] ?_;refine c_s (fun K hK=>?_) ?_
  ·go_simp
   refine k_o hK ?_ (fun be=>?_)
   ·exact c45_
   clear hK K aG;refine t_k 4 ?_;refine r_d [3] ?_;refine c_s (fun K hK=>?_) ?_
   ·(go_simp;refine (qdk (W:=W) (x:=w.heap.size) (g:=g) (o:=o) (c:=c) (vb:=vb) (l:=tn) (s:=ts) Ad_).mono ?_;rintro e w1 ⟨rfl,av⟩;have am:Below W.heap.size W w1:=((Below.refl W.heap.size W).alloc n_ _).drew.trans (av.mono (by simp));have aB:=am.size;have ao:=(am.cell (p:=⟨c,0,none⟩) az).trans aQ;have ap:=(am.frozen (p:=⟨c,0,none⟩) az).trans aR;have aq:c<w1.heap.size:=o_;have aA:=z_ (own_below aS.out am);have bn:=qfj Ad_ hx ab av;(try dsimp only))
    refine k_o hK ?_ (fun bf=>?_)
    ·exact c45_
    clear hK K be;refine r_d [6] ?_;refine c_s (fun K hK=>?_) ?_
    ·(refine step_append_d (by rfl) _ _ _ (by rfl) B 38 j0 _ 4 56 Tryz.underlying36 aL aM aN aO rfl o_ vb k cap (flatV V) (by rfl) aA.out ⟨w.heap.size+1,0,none⟩ 1 1 [.int .i64 0,.string { data:=#[] },.int .i64 0,.slice none 0 0] (by rfl) (by rfl) (fun q x hq=>at4b W _ _ _ _ _ _ bm.symm av q x hq) (qaw rfl rfl rfl rfl) Aa_ o_ Ak_ ?_;intro g4 aj w4 aa ag hg4 aw ax;have aU:=qgz Ad_ hx ab aP aK ag;obtain ⟨⟨u0,e0⟩,f0⟩:=qaa aa (i:=k*4) o_;obtain ⟨⟨u1,e1⟩,f1⟩:=qaa aa (i:=k*4+1) o_;obtain ⟨⟨u2,e2⟩,f2⟩:=qaa aa (i:=k*4+2) o_;obtain ⟨⟨u3,e3⟩,f3⟩:=qaa aa (i:=k*4+3) o_;have ak:=(ag.cell_far ⟨c,0,none⟩ Ak_ Ag_).trans ao;have al:=(ag.frozen_far ⟨c,0,none⟩ Ak_ Ag_).trans ap;have af:¬ g4=c:=Ae_;have ay:¬ c=g4:=fun h=>af h.symm;have ac:g4≠w.heap.size:=Ae_;have ad:g4≠g:=Ae_;have ae:g4=c∨g4=vb∨W.heap.size≤g4:=Ae_)
     refine k_o hK ?_ (fun aH=>?_)
     ·exact c45_
     clear hK K bf;refine t_k 7 ?_;refine r_d [8,9] ?_;refine c_s (fun K hK=>?_) ?_
     ·go_simp
      refine k_o hK ?_ (fun bg=>?_)
      ·exact c45_
      clear hK K aH;refine r_d [9] ?_;refine c_s (fun K hK=>?_) ?_
      ·go_simp
       refine k_o hK ?_ (fun bD=>?_)
       ·exact c45_
       clear hK K bg;refine wpAnyH_done k_ ?_ _;refine NoPanic.normal ?_;have an:Chg [c,vb] W _:=(by with_reducible assumption:_∧Chg [c,vb] W _).2;go_wp2;go_ret;refine .inr ⟨rfl,rfl,g4,aj,(Chg.of_below au).trans an,?_,?_⟩
       ·exact c47_
       ·exact c46_
      exact a_l
     refine c_s (fun K hK=>?_) ?_
     ·go_simp
      refine k_o hK ?_ (fun bh=>?_)
      ·exact c45_
      clear hK K aH;refine r_d [8] ?_;refine c_s (fun K hK=>?_) ?_
      ·go_simp
       refine k_o hK ?_ (fun bE=>?_)
       ·exact c45_
       clear hK K bh;refine wpAnyH_done k_ ?_ _;refine NoPanic.normal ?_;have an:Chg [c,vb] W _:=(by with_reducible assumption:_∧Chg [c,vb] W _).2;go_wp2;go_ret;refine .inr ⟨rfl,rfl,g4,aj,(Chg.of_below au).trans an,?_,?_⟩
       ·exact c47_
       ·exact c46_
      exact a_l
     exact a_l
    exact a_l
   exact a_l
  refine c_s (fun K hK=>?_) ?_
  ·(go_simp;refine (qdk (W:=W) (x:=w.heap.size) (g:=g) (o:=o) (c:=c) (vb:=vb) (l:=tn) (s:=ts) Ad_).mono ?_;rintro e w1 ⟨rfl,av⟩;have am:Below W.heap.size W w1:=((Below.refl W.heap.size W).alloc n_ _).drew.trans (av.mono (by simp));have aB:=am.size;have ao:=(am.cell (p:=⟨c,0,none⟩) az).trans aQ;have ap:=(am.frozen (p:=⟨c,0,none⟩) az).trans aR;have aq:c<w1.heap.size:=o_;have aA:=z_ (own_below aS.out am);have bn:=qfj Ad_ hx ab av;(try dsimp only))
   refine k_o hK ?_ (fun bi=>?_)
   ·exact c45_
   clear hK K aG;refine r_d [0] ?_;refine c_s (fun K hK=>?_) ?_
   ·go_simp
    refine k_o hK ?_ (fun bj=>?_)
    ·exact c45_
    clear hK K bi;refine t_k 4 ?_;refine r_d [6] ?_;refine c_s (fun K hK=>?_) ?_
    ·(refine step_append_d (by rfl) _ _ _ (by rfl) B 38 j0 _ 4 56 Tryz.underlying36 aL aM aN aO rfl o_ vb k cap (flatV V) (by rfl) aA.out ⟨w.heap.size+1,0,none⟩ 1 1 [.int .i64 0,.string { data:=#[] },.int .i64 0,.slice none 0 0] (by rfl) (by rfl) (fun q x hq=>at4b W _ _ _ _ _ _ bm.symm av q x hq) (qaw rfl rfl rfl rfl) Aa_ o_ Ak_ ?_;intro g4 aj w4 aa ag hg4 aw ax;have aU:=qgz Ad_ hx ab aP aK ag;obtain ⟨⟨u0,e0⟩,f0⟩:=qaa aa (i:=k*4) o_;obtain ⟨⟨u1,e1⟩,f1⟩:=qaa aa (i:=k*4+1) o_;obtain ⟨⟨u2,e2⟩,f2⟩:=qaa aa (i:=k*4+2) o_;obtain ⟨⟨u3,e3⟩,f3⟩:=qaa aa (i:=k*4+3) o_;have ak:=(ag.cell_far ⟨c,0,none⟩ Ak_ Ag_).trans ao;have al:=(ag.frozen_far ⟨c,0,none⟩ Ak_ Ag_).trans ap;have af:¬ g4=c:=Ae_;have ay:¬ c=g4:=fun h=>af h.symm;have ac:g4≠w.heap.size:=Ae_;have ad:g4≠g:=Ae_;have ae:g4=c∨g4=vb∨W.heap.size≤g4:=Ae_)
     refine k_o hK ?_ (fun aI=>?_)
     ·exact c45_
     clear hK K bj;refine t_k 7 ?_;refine r_d [8,9] ?_;refine c_s (fun K hK=>?_) ?_
     ·go_simp
      refine k_o hK ?_ (fun bk=>?_)
      ·exact c45_
      clear hK K aI;refine r_d [9] ?_;refine c_s (fun K hK=>?_) ?_
      ·go_simp
       refine k_o hK ?_ (fun bF=>?_)
       ·exact c45_
       clear hK K bk;refine wpAnyH_done k_ ?_ _;refine NoPanic.normal ?_;have an:Chg [c,vb] W _:=(by with_reducible assumption:_∧Chg [c,vb] W _).2;go_wp2;go_ret;refine .inr ⟨rfl,rfl,g4,aj,(Chg.of_below au).trans an,?_,?_⟩
       ·exact c47_
       ·exact c46_
      exact a_l
     refine c_s (fun K hK=>?_) ?_
     ·go_simp
      refine k_o hK ?_ (fun bl=>?_)
      ·exact c45_
      clear hK K aI;refine r_d [8] ?_;refine c_s (fun K hK=>?_) ?_
      ·go_simp
       refine k_o hK ?_ (fun bG=>?_)
       ·exact c45_
       clear hK K bl;refine wpAnyH_done k_ ?_ _;refine NoPanic.normal ?_;have an:Chg [c,vb] W _:=(by with_reducible assumption:_∧Chg [c,vb] W _).2;go_wp2;go_ret;refine .inr ⟨rfl,rfl,g4,aj,(Chg.of_below au).trans an,?_,?_⟩
       ·exact c47_
       ·exact c46_
      exact a_l
     exact a_l
    exact a_l
   exact a_l
  exact a_l
 exact a_l
end Go.Proofs.YtiilamngcoegiaaGreat.termvr
