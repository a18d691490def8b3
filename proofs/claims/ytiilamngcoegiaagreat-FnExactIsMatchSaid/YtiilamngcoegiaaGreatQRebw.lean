
import Derived.Test.YtiilamngcoegiaaGreatQPk18
import Derived.Deep.DeepCutAuto
import Derived.Deep.LoopGhost
namespace Go.Proofs.YtiilamngcoegiaaGreat.rebw
open Go.ChangeShapes Go.WideShapes Go.ChangeAt Go.RowKit
variable {g i n j x cap B gd cd k:Nat}{w w':World}{T:TypeId}{z0 z1 z2 z3 vu:Value}
open mem dec rowl trm terml termb termt termx termro tma tmr tmf tmg tmc rebm rebp rebq rebn rebi
theorem qzc (w:World){p q:Addr}(h:p.block≠q.block)(u v:Value):(w.setCell p u).setCell q v=(w.setCell q v).setCell p u:=by
 simp only [World.setCell];congr 1
 apply Array.ext
 ·simp
 ·intro i h1 h2
  simp only [Array.getElem_modify];by_cases ha:p.block=i
  ·by_cases hb:q.block=i
   ·exact absurd (ha.trans hb.symm) h
   ·simp [ha,hb]
  ·by_cases hb:q.block=i
   ·simp [ha,hb]
   ·simp [ha,hb]
theorem qax{r:Option Nat}(hg:w.grownBy w' r)(h:r=some g∨w.heap.size≤g)(u:Value):w.grownBy (w'.setCell ⟨g,j,none⟩ u) r:=
 ⟨hg.os,hg.tape,hg.output,by simpa [World.setCell] using hg.size,fun k hk hn=>(Below.heap_setCell w' ⟨g,j,none⟩ u k (fun e=>by
  have e':k=g:=e;subst e';rcases h with h|h
  ·exact hn h.symm
  ·omega)).trans (hg.block k hk hn)⟩
section
variable {N Z M B gp cap:Nat} {X:List Nat} {F:TermM→List TermM→Option TermM} {Nd Gd:TermM→Prop} {root:TermM} {wl:World} {T2 T4:TypeId} {e f:Ent} {Q:List Ent} {w w1 w2 w3:World}
theorem qwn{Q:List Ent}(h:PathR N wl B gp cap X T2 T4 Q w)(hb:Below w.heap.size w w'):PathR N wl B gp cap X T2 T4 Q w':=
 ⟨h.below.trans (hb.mono h.below.size),h.hB,own_below h.row hb,h.node,h.chain,fun e he=>own_below (h.done e he) hb,h.apart,fun e he x hx=>⟨qbh _ (qdz (Chg.of_below hb) (fun _ hk=>.inl hk)) (h.el e he x hx).1,(h.el e he x hx).2⟩,h.hX⟩
theorem next (h:RebI N Z M F Nd Gd root wl B gp cap X T2 T4 e Q w)(hb:Below w.heap.size w w'):RebI N Z M F Nd Gd root wl B gp cap X T2 T4 e Q w':=⟨qwn h.path hb,h.each,h.ans⟩
abbrev put4 (w:World)(g j:Nat)(u0 u1 u2 u3:Value):World:=(((w.setCell ⟨g,j,none⟩ u0).setCell ⟨g,j+1,none⟩ u1).setCell ⟨g,j+2,none⟩ u2).setCell ⟨g,j+3,none⟩ u3
theorem qwo (w:World)(h:x≠g)(v u0 u1 u2 u3:Value):put4 (w.setCell ⟨x,i,none⟩ v) g j u0 u1 u2 u3=(put4 w g j u0 u1 u2 u3).setCell ⟨x,i,none⟩ v:=by
 have k:∀ (w:World) (y:Nat) (u:Value),(w.setCell ⟨x,i,none⟩ v).setCell ⟨g,y,none⟩ u=(w.setCell ⟨g,y,none⟩ u).setCell ⟨x,i,none⟩ v:=fun w y u=>qzc w h v u
 unfold put4;rw [k,k,k,k]
theorem qzd{R:List (TermM×Value)}(hn:n=R.length)(h:w.ownsRow B T 4 (.slice (some ⟨g,0,none⟩) (n+1) cap) (n+1) (rowV R++[z0,z1,z2,z3]))(u:TermM)(vu:Value):
  (put4 w g (n*4) (.int .i64 u.op) (.string (bstr u.name)) (.int .i64 u.sort) vu).ownsRow B T 4 (.slice (some ⟨g,0,none⟩) (n+1) cap) (n+1) (rowV (R++[(u,vu)])):=by
 have h':=qa4 (qa4 (qa4 (qa4 h (n*4) (.int .i64 u.op)) (n*4+1) (.string (bstr u.name))) (n*4+2) (.int .i64 u.sort)) (n*4+3) vu;have hl:=qbr R;rw [← hn] at hl;rw [List.set_append_right _ _ o_,List.set_append_right _ _ o_,List.set_append_right _ _ o_,List.set_append_right _ _ o_,hl] at h';simp only [Nat.sub_self,Nat.add_sub_cancel_left] at h';rw [qbz];exact h'
theorem qs0 (w:World)(h:x≠g)(j:Nat)(u0 u1 u2 u3:Value):(put4 w g j u0 u1 u2 u3).heap[x]? =w.heap[x]? := by
 unfold put4;rw [Below.heap_setCell _ ⟨g,j+3,none⟩ u3 x h,Below.heap_setCell _ ⟨g,j+2,none⟩ u2 x h,Below.heap_setCell _ ⟨g,j+1,none⟩ u1 x h,Below.heap_setCell _ ⟨g,j,none⟩ u0 x h]
theorem qjh (w:World)(a b c d:Value)(t:TypeId):∀ (j:Nat) (x:Value),[a,b,c,d][j]? =some x→(w.alloc (.cells #[a,b,c,d] t)).cell? ((⟨w.heap.size,0,none⟩:Addr).add j)=some x:=by
 intro j x hx;match j,hx with
 | 0,hx=>simp at hx;subst hx;simp [Addr.add]
 | 1,hx=>simp at hx;subst hx;simp [Addr.add]
 | 2,hx=>simp at hx;subst hx;simp [Addr.add]
 | 3,hx=>simp at hx;subst hx;simp [Addr.add]
theorem qaw{a b c d:Value}(ha:a.oneCell'=true)(hb:b.oneCell'=true)(hc:c.oneCell'=true)(hd:d.oneCell'=true):∀ x∈[a,b,c,d],x.oneCell'=true:=by
 intro x hx;simp at hx;rcases hx with rfl|rfl|rfl|rfl<;>assumption
theorem c80_{p:Prop}(h:p:=by
 rw [List.getElem?_append_right o_,hl,Nat.add_sub_cancel_left];rfl
):p:=h
theorem qda (l:List Value)(hl:l.length=n*4)(a b c d:Value):(l++[a,b,c,d])[n*4]? =some a∧(l++[a,b,c,d])[n*4+1]? =some b∧(l++[a,b,c,d])[n*4+2]? =some c∧(l++[a,b,c,d])[n*4+3]? =some d:=by
 refine ⟨?_,?_,?_,?_⟩
 ·rw [List.getElem?_append_right o_,hl,Nat.sub_self];rfl
 ·exact c80_
 ·exact c80_
 ·exact c80_
theorem qs1{w5 w6:World}{g5 gp:Nat}{xs:List Value}{v:Value}(h:w5.ownsRow B T 4 (.slice (some ⟨g5,0,none⟩) n cap) n xs)(aa:g5≠gp)(hw:w6=w5.setCell ⟨gp,i,none⟩ v):w6.ownsRow B T 4 (.slice (some ⟨g5,0,none⟩) n cap) n xs:=by
 subst hw;exact (Chg.set (S:=[gp]) (by simp) v).own h (fun x hx=>by simp [Value.ownBlock] at hx;subst hx;simpa using aa)
theorem qCk (hF:Makes F Nd Gd Z)(h:RebI N Z M F Nd Gd root wl B gp cap X T2 T4 e (f::Q) w)(hn:¬ e.R.length<e.t.args.length){u:TermM}(hf:F e.t (e.R.map Prod.fst)=some u)(hb:Bnd u)(ab:Below w.heap.size w w1)(hu:FormP 21 0 w.heap.size (tmr.qb4 ((gp::dvB (e::f::Q))++X) w) u w1 vu)(ac:Below w1.heap.size w1 w2)(ad:f.dv.ownBlock=some gd∨gd=w2.heap.size)(aa:gd<w3.heap.size)(hg:w2.grownBy w3 f.dv.ownBlock)(hk:k=f.R.length)(hi:i=Q.length)(hr:w3.ownsRow B T4 4 (.slice (some ⟨gd,0,none⟩) (k+1) cd) (k+1) (rowV (f.R++[(u,vu)]))):
  RebI N Z M F Nd Gd root wl B gp cap X T2 T4 (putE f u vu (.slice (some ⟨gd,0,none⟩) (k+1) cd)) Q (w3.setCell ⟨gp,i*2+1,none⟩ (.slice (some ⟨gd,0,none⟩) (k+1) cd)):=by
 subst hk hi;exact RebI.pop hF h hn hf hb ab hu ac rfl ad aa hg hr
theorem qCz (hF:Makes F Nd Gd Z)(h:RebI N Z M F Nd Gd root wl B gp cap X T2 T4 e (f::Q) w)(hn:¬ e.R.length<e.t.args.length){u:TermM}(hf:F e.t (e.R.map Prod.fst)=some u)(hb:Bnd u)(ae:Below w.heap.size w w1)(hu:FormP 21 0 w.heap.size (tmr.qb4 ((gp::dvB (e::f::Q))++X) w) u w1 vu)(af:Below w1.heap.size w1 w2)(ac:f.dv.ownBlock=some gd∨gd=w2.heap.size)(ad:gd<w3.heap.size)(hsz:w.heap.size≤w2.heap.size)(hg:w2.grownBy w3 f.dv.ownBlock)(hk:k=f.R.length)(hi:i=Q.length)(hr:w3.ownsRow B T4 4 (.slice (some ⟨gd,0,none⟩) (k+1) cd) (k+1) (rowV f.R++[z0,z1,z2,z3])):
  RebI N Z M F Nd Gd root wl B gp cap X T2 T4 (putE f u vu (.slice (some ⟨gd,0,none⟩) (k+1) cd)) Q (put4 (w3.setCell ⟨gp,i*2+1,none⟩ (.slice (some ⟨gd,0,none⟩) (k+1) cd)) gd (k*4) (.int .i64 u.op) (.string (bstr u.name)) (.int .i64 u.sort) vu):=by
 have ag:gp≠gd:=by
  intro e';subst e';rcases ac with h1|h1
  ·have aa:=h.path.apart
   rw [List.nodup_cons] at aa;exact aa.1 (qej (e:=f) (by simp) h1)
  ·have:=(h.path.lt gp (by simp)).2
   omega
 rw [qwo _ ag];have ab:f.dv.ownBlock=some gd∨w2.heap.size≤gd:=ac.imp id (fun h=>by omega);refine qCk (w2:=w2) (w3:=put4 w3 gd (k*4) (.int .i64 u.op) (.string (bstr u.name)) (.int .i64 u.sort) vu) hF h hn hf hb ae hu af ac (by simpa [put4,World.setCell] using ad) (qax (qax (qax (qax hg ab _) ab _) ab _) ab _) hk hi (qzd hk hr u vu)
end
theorem qwp:(Tryz.prog.info? 215).map (fun i=>(i.zero,i.size,i.bytes))=some (some (.agg #[.pointer none,.slice none 0 0]),2,32):=by kernel_rfl
theorem qqx (w:World)(u v:Value)(t:TypeId)(b:Nat)(h:b=w.heap.size):∀ (j:Nat) (x:Value),[u,v][j]? =some x→(w.alloc (.cells #[u,v] t)).cell? ((⟨b,0,none⟩:Addr).add j)=some x:=by
 subst h;exact termx.qeb w u v t
def RebP (F:TermM→List TermM→Option TermM)(Gd:TermM→Prop)(X0:List Nat)(root:TermM)(w:World)(ex:Ending)(w':World):Prop:=
 ∃ u vu r,ex=.returned (.tuple #[aggT u vu,.bool r])∧(r=false→rebM F root=none∧u=zT)∧(r=true→rebM F root=some u∧Gd u∧Bnd u)∧HasTs 22 0 (tmr.qb4 X0 w') vu u.args∧Below w.heap.size w w'
theorem c78_{p:Prop}(h:p:=by
 (try dsimp only);first|(exact aa.1)|(exact aa.2.1 _)|(exact ad.out _ (by repeat (first|exact Below.refl _ _|refine Below.drew ?_|refine Below.alloc ?_ Ab_ _)))
):p:=h
theorem c79_{p:Prop}(h:p:=by
 rcases aj with h5|h5
 ·exact (ai.out g5 h5).1
 ·have h6:g5=w4.heap.size+1:=by rw [h5];simp
  omega
):p:=h
set_option maxRecDepth 100000 in
set_option maxHeartbeats 16000000 in
theorem qpt{N Z M:Nat}{F:TermM→List TermM→Option TermM}{Nd Gd:TermM→Prop}(f:Nat)(bx cb:Array Value)(eg:∀ args w,(callFunc f args).run Tryz.prog w=.ok (.enter f args) w)(hF:Makes F Nd Gd Z)(hZ:Z*M≤1048576+Z)(hM:M≤1048577)(root:TermM)(a6:size root≤M)(cO:Nd root)(g0 o0:Nat)(v0:Value)(w:World)(X0:List Nat)(cg:∀ k∈X0,k<w.heap.size)(hb:qA8 f bx cb N X0 F Nd Gd w)(hn:qhu N w ⟨g0,o0,root,v0,[],.slice none 0 0⟩):Calls Tryz.prog 96 #[.pointer (some ⟨g0,o0,none⟩),.func (.func f) bx cb] w (RebP F Gd X0 root w):=by
 have cP:=z_ hb;have ch:=z_ hn;have HF:=z_ hF;obtain ⟨j0,bz,bA,bB,bC⟩:=info_parts qwp;obtain ⟨j4,av,bi,bj,bk⟩:=info_parts qb1;obtain ⟨O,cQ,aE⟩:∃ O,(∀ W,(Instr.makeSlice 213 (.int .i64 0) (.int .i64 20)).run Tryz.prog W=.ok (.slice (some ⟨W.heap.size,0,none⟩) 0 20) (W.alloc O))∧∀ W:World,(W.alloc O).ownsRow W.heap.size 215 2 (.slice (some ⟨W.heap.size,0,none⟩) 0 20) 0 []:=by
  refine ⟨.cells (madeCells (Value.agg #[.pointer none,.slice none 0 0]).cells ((20:Int).toNat*j0.size)) 215,fun W=>?_,fun W=>?_⟩
  ·exact run_make W _ _ _ _ Tryz.underlying213 bz bA .i64 .i64 0 20 o_ o_ (by rw [bC];omega) o_
  ·exact World.ownsRow_made W _ 20 n_ Aa_ (by rw [size_madeCells,bB];rfl)
 have a7:=z_ (aE (w.alloc (.cells #[.int .i64 0,.string { data:=#[] },.int .i64 0,.slice none 0 0] 38)));rw [show (w.alloc (.cells #[.int .i64 0,.string { data:=#[] },.int .i64 0,.slice none 0 0] 38)).heap.size=w.heap.size+1 by simp] at a7;have aw:Below w.heap.size w (w.alloc (.cells #[.int .i64 0,.string { data:=#[] },.int .i64 0,.slice none 0 0] 38)):=b_.alloc n_ _;have aI:(w.alloc (.cells #[.int .i64 0,.string { data:=#[] },.int .i64 0,.slice none 0 0] 38)).heap[w.heap.size]? =some (.cells #[.int .i64 0,.string { data:=#[] },.int .i64 0,.slice none 0 0] 38 (0,0)):=termt.qa5 _ _ _ rfl;have a8:=z_ aI;have ci:=z_ aw;clear hb hn hF aE aw aI;go_enter Tryz.func96,Tryz.ntmps96
 go_wp2_with (at_builtin;go_loud (refine wpList_append_d rfl _ _ _ rfl (w.heap.size+1) 215 j0 _ 2 32 Tryz.underlying213 bz bA bB bC rfl o_ (w.heap.size+1) 0 20 [] rfl (own_below a7.out (b_.alloc n_ _)) ⟨w.heap.size+2,0,none⟩ 1 1 [.pointer (some ⟨g0,o0,none⟩),.slice none 0 0] rfl rfl (qqx _ _ _ _ _ (by simp)) (termx.qgp rfl rfl) Aa_ o_ Ab_ ?_);intro g' cap' w1 aF ba hg1 bD bE)
 have aY:Below (w.heap.size+1) (w.alloc (.cells #[.int .i64 0,.string { data:=#[] },.int .i64 0,.slice none 0 0] 38)) w1:=by
  refine Below.grown ?_ ba Ab_ (by intro k hk;cases hk;exact Nat.le_refl _);exact (b_.alloc (by simp) _).alloc Ab_ _
 have am:Hid (RebI N Z M F Nd Gd root w (w.heap.size+1) g' cap' (w.heap.size::X0) 215 38 ⟨g0,o0,root,v0,[],.slice none 0 0⟩ [] w1):=z_ (RebI.start ⟨ci.out.trans (aY.mono (Nat.le_succ _)),Nat.le_succ _,aF,by simpa using ch.out,trivial,by
   intro x hx;simp at hx;subst hx;exact ⟨rfl,.inl ⟨rfl,rfl⟩⟩,by simp [dvB,Value.ownBlock],(by
   intro x hx y hy;simp at hx;subst hx
   cases hy),by intro q hq;rcases List.mem_cons.1 hq with rfl|hq;(exact Nat.lt_succ_self _);(exact Nat.lt_succ_of_lt (cg q hq))⟩ rfl rfl a6 cO)
 have HX:Hid (w1.heap[w.heap.size]? =some (.cells #[.int .i64 0,.string { data:=#[] },.int .i64 0,.slice none 0 0] 38 (0,0))):=z_ ((aY.block _ (Nat.lt_succ_self _)).trans a8.out);clear aF ba hg1 bD bE aY cQ a8 ci a7 ch;go_wp2;go_loopg [6] (left root [] []) (fun gk v6 wr=>∃ (e:Ent) (Q:List Ent) (gp cap:Nat),v6=.slice (some ⟨gp,0,none⟩) (Q.length+1) cap∧Hid (left e.t (e.R.map Prod.fst) (Q.map pair)≤gk)∧Hid (RebI N Z M F Nd Gd root w (w.heap.size+1) gp cap (w.heap.size::X0) 215 38 e Q wr)∧Hid (wr.heap[w.heap.size]? =some (.cells #[.int .i64 0,.string { data:=#[] },.int .i64 0,.slice none 0 0] 38 (0,0))))
 case atStart=>exact ⟨_,[],g',cap',rfl,z_ n_,am,HX⟩
 case round=>
  clear am HX;obtain ⟨⟨ge,oe,t,v,R,dv⟩,Q,gp,cap,rfl,bF,HI,HX⟩:=hrel;obtain ⟨k,hk⟩:=e_ (Q.length);have HK:=z_ hk;rw [← hk];have hlen:=HI.out.len;have hown:=HI.out.path.row;obtain ⟨cj,ck⟩:=qdj (e:=⟨ge,oe,t,v,R,dv⟩) hk;have ag:wr.ownsRow (w.heap.size+1) 215 2 (.slice (some ⟨gp,0,none⟩) (k+1) cap) (k+1) (qbf (⟨ge,oe,t,v,R,dv⟩::Q)):=by rw [hk];exact hown
  have s1:=(ag.cellAt (k*2) o_).trans cj;have s2:=(ag.cellAt (k*2+1) o_).trans ck;obtain ⟨Ad,cd,cl,_⟩:=qaz (HI.out.path.done _ List.mem_cons_self);simp only [] at cl s1 s2;subst cl;obtain ⟨⟨n0,n1,n2,n3⟩,bl,bG,_,bH⟩:=HI.out.path.node _ List.mem_cons_self;simp only [] at n0 n1 n2 n3 bl bG bH;obtain ⟨Aa,ca,rfl,_⟩:=HasR.shape bl rfl;have aZ:=HI.out.path.below;have bm:=l_ n0;simp only [] at bm;have m0:=(aZ.cell (p:=⟨ge,oe,none⟩) bm).trans n0;have m3:=(aZ.cell (p:=⟨ge,oe+3,none⟩) bm).trans n3;have cm:ge<wr.heap.size:=w_ bm aZ.size;have hwz:=aZ.size;have dj:w.heap.size+1≤gp∧gp<wr.heap.size:=HI.out.path.lt gp (by simp);have cR:=z_ ag;have cS:=z_ bl;have dk:=z_ bG;have bI:=z_ bH;have dl:=z_ aZ;obtain ⟨m,hm⟩:=e_ (R.length);obtain ⟨al,bn⟩:=e_ (t.args.length);have aJ:=z_ (And.intro hm bn);rw [← hm] at s2;rw [← bn] at m3;have cT:k≤1048576:=o_;clear hk hlen hown cj ck n0 n1 n2 n3 bl bG bH ag aZ;obtain ⟨wo,cU⟩:∃ wo,wo=wr:=⟨wr,rfl⟩;subst cU;have i1:(0:Int)≤(k:Int):=o_;have i2:(k:Int)<((k:Int)+1):=o_;have cV:(R.length≤t.args.length):=(HI.out.each _ List.mem_cons_self).2.1;have cn:al≤1048576:=by
   have h1:=(HI.out.each _ List.mem_cons_self).1;have h2:=termro.qao t;have h3:=qat t.args;simp only [] at h1;omega
  rw [← hm,← bn] at cV;clear hm bn;obtain ⟨W1,aK⟩:=e_ (wo.alloc (.cells #[.pointer (some ⟨ge,oe,none⟩),.slice Ad m cd] 215));have aw:=fr1_ aK;have cW:W1.heap.size=wo.heap.size+1:=by rw [aK];simp
  have aI:=fr2_ aK;have am:=z_ (next HI.out aw);have a8:=z_ ((aw.block _ o_).trans HX.out);have c0:W1.cell? ⟨wo.heap.size,0,none⟩=some (.pointer (some ⟨ge,oe,none⟩)):=h_ W1 _ 0 _ _ _ aI;have c1:W1.cell? ⟨wo.heap.size,1,none⟩=some (.slice Ad m cd):=h_ W1 _ 1 _ _ _ aI;have co:=(aw.cell (p:=⟨ge,oe+3,none⟩) cm).trans m3;have cp:=(aw.cell (p:=⟨ge,oe,none⟩) cm).trans m0;by_cases bo:m<al
  ·have d1:decide ((m:Int)<(al:Int))=true:=d_
   obtain ⟨kn,g2,o2,B2,cx,cq,rfl,_,hg2,f0,f1,f2,f3,ct,aY⟩:=qal cS.out (j:=m) (by have:=aJ.out.2;omega);have ax:m<t.args.length:=by have:=aJ.out.2;omega
   obtain ⟨x,hx⟩:∃ x:Ent,x=⟨g2,o2+m*4,t.args.getD m default,.slice B2 (t.args.getD m default).args.length cx,[],.slice none 0 0⟩:=⟨_,rfl⟩;have cv:Hid (qhu N w x):=z_ (by rw [hx];exact ⟨⟨f0,f1,f2,f3⟩,by rw [cq];exact ct.up (Nat.le_succ _),aY,(bI.out 1 m ax g2 o2 ca rfl).1,fun q=>(bI.out (q+1) m ax g2 o2 ca rfl).2 _ f3⟩)
   have bJ:Hid (qnu ⟨ge,oe,t,.slice (some ⟨g2,o2,none⟩) t.args.length ca,R,.slice Ad R.length cd⟩ x):=z_ (by
    rw [hx]
    exact ⟨by show R.length<t.args.length;rw [← aJ.out.1];exact ax,by show t.args.getD m default=t.args.getD R.length default;rw [← aJ.out.1]⟩)
   have cw:∀ y∈(⟨ge,oe,t,.slice (some ⟨g2,o2,none⟩) t.args.length ca,R,.slice Ad R.length cd⟩::Q:List Ent),¬ (y.g=g2∧y.o=o2+m*4):=fun y hy=>by
    have h1:=qfl (e:=x) (Q:=⟨ge,oe,t,.slice (some ⟨g2,o2,none⟩) t.args.length ca,R,.slice Ad R.length cd⟩::Q) ⟨bJ.out,am.out.path.chain⟩ y hy;have h2:=qz0 cv.out (am.out.path.node y hy) h1;rw [hx] at h2;exact h2
   have cy:Hid (∀ q,Calls Tryz.prog 159 #[.slice (some ⟨gp,0,none⟩) (k+1) cap,.pointer (some ⟨g2,o2+m*4,none⟩)] ((wo.alloc (.cells #[.pointer (some ⟨ge,oe,none⟩),.slice Ad m cd] 215)).drewN q) fun e w'=>e=.returned (.bool false)∧Below W1.heap.size W1 w'):=z_ (fun q=>by
    have aL:Below W1.heap.size W1 (W1.drewN q):=qa3 b_ q;have h:=qo4 _ (by simp) (by have:=HK.out;simp only [List.length_cons];omega) _ gp cap g2 (o2+m*4) (W1.drewN q) (next am.out aL).path.row cw (fun y hy=>((am.out.path.node y hy).2.2.2.1.below am.out.path.below).below aL) (((bI.out 1 m ax g2 o2 ca rfl).1.below am.out.path.below).below aL);simp only [List.length_cons] at h;rw [← HK.out] at h;rw [← aK];refine h.mono ?_;rintro e w' ⟨rfl,rfl⟩
    exact ⟨rfl,aL⟩)
   have i3:(0:Int)≤(m:Int):=o_;have i4:(m:Int)<(al:Int):=o_;have bp:=z_ hx;have dm:=aJ;clear ct aY cq cw hx f0 f1 f2 f3;go_wp2_with fail
   go_quiet (fail)
   go_wp2_with fail
   go_quiet (fail)
   go_wp2_with fail
   refine (cy.out _).mono ?_;rintro e' w2 ⟨rfl,ao⟩;have cz:=z_ (next am.out ao);have bq:=z_ ((ao.block _ o_).trans a8.out);have ah:=cz.out.path.row;simp only [List.length_cons] at ah;rw [← HK.out] at ah;have a7:=z_ ah;have dn:w.heap.size+1≤w2.heap.size:=by have:=ao.size;omega
   have cX:gp<w2.heap.size:=by have:=ao.size;omega
   clear ah aK aI aw ao c0 c1 m0 cp m3 co s1 s2 cy;go_wp2_with (at_builtin;go_loud (refine wpList_append_d rfl _ _ _ rfl (w.heap.size+1) 215 j0 _ 2 32 Tryz.underlying213 bz bA bB bC rfl o_ gp (k+1) cap (qbf (⟨ge,oe,t,.slice (some ⟨g2,o2,none⟩) t.args.length ca,R,.slice Ad R.length cd⟩::Q)) rfl (own_below a7.out (b_.alloc n_ _)) ⟨w2.heap.size,0,none⟩ 1 1 [.pointer (some ⟨g2,o2+m*4,none⟩),.slice none 0 0] rfl rfl (qqx _ _ _ _ _ rfl) (termx.qgp rfl rfl) Aa_ o_ Ab_ ?_);intro g4 bb w4 aG aM hg4 bK bL)
   have bM:Below w2.heap.size w2 (w2.alloc (.cells #[.pointer (some ⟨g2,o2+m*4,none⟩),.slice none 0 0] 215)):=b_.alloc n_ _
   have cY:Hid (RebI N Z M F Nd Gd root w (w.heap.size+1) g4 bb (w.heap.size::X0) 215 38 x (⟨ge,oe,t,.slice (some ⟨g2,o2,none⟩) t.args.length ca,R,.slice Ad R.length cd⟩::Q) w4):=z_ (by
    refine (next cz.out bM).push HF.out cv.out bJ.out (by rw [bp.out]) (by rw [bp.out]) ?_ aM hg4;have e1:(⟨ge,oe,t,.slice (some ⟨g2,o2,none⟩) t.args.length ca,R,.slice Ad R.length cd⟩::Q:List Ent).length.succ=k+1+1:=by rw [List.length_cons,← HK.out]
    rw [e1,bp.out]
    exact aG)
   have cZ:Hid (w4.heap[w.heap.size]? =some (.cells #[.int .i64 0,.string { data:=#[] },.int .i64 0,.slice none 0 0] 38 (0,0))):=z_ ((aM.block _ Ab_ (by intro e';injection e';omega)).trans ((bM.block _ o_).trans bq.out));have cA:=z_ (RebI.left_push (Q:=Q) bJ.out (by rw [bp.out]));have an:Hid ((⟨ge,oe,t,.slice (some ⟨g2,o2,none⟩) t.args.length ca,R,.slice Ad R.length cd⟩::Q:List Ent).length=k+1):=z_ (by rw [List.length_cons,← HK.out]);clear aG aM hg4 bK bL bM;go_wp2;go_roundg (gk-1)
   case measure=>have h1:=cA.out;have h2:=bF.out;(try simp only [] at h1 h2);omega
   case rel=>exact ⟨x,_,g4,bb,by rw [an.out],z_ (by have h1:=cA.out;have h2:=bF.out;(try simp only [] at h1 h2);omega),cY,cZ⟩
  ·have d1:decide ((m:Int)<(al:Int))=false:=f_
   have aH:¬ R.length<t.args.length:=by have:=aJ.out;omega
   have br:=z_ aH
   have cB:Hid (∀ q,Calls Tryz.prog f (bx++(#[.pointer (some ⟨ge,oe,none⟩),.slice Ad m cd]++cb)) ((wo.alloc (.cells #[.pointer (some ⟨ge,oe,none⟩),.slice Ad m cd] 215)).drewN q) fun ex w'=>∃ WD u vu r,Below W1.heap.size W1 WD∧ex=.returned (.tuple #[aggT u vu,.bool r])∧(r=false→F t (R.map Prod.fst)=none)∧(r=true→F t (R.map Prod.fst)=some u∧Bnd u)∧FormP 21 0 WD.heap.size (tmr.qb4 ((gp::dvB (⟨ge,oe,t,.slice Aa t.args.length ca,R,.slice Ad R.length cd⟩::Q))++(w.heap.size::X0)) WD) u w' vu∧Below WD.heap.size WD w'):=z_ (fun q=>by
    have aL:Below W1.heap.size W1 (W1.drewN q):=qa3 b_ q;have aN:=next am.out aL;have h:=cP.out ((gp::dvB (⟨ge,oe,t,.slice Aa t.args.length ca,R,.slice Ad R.length cd⟩::Q))++(w.heap.size::X0)) ⟨ge,oe,t,.slice Aa t.args.length ca,R,.slice Ad R.length cd⟩ (W1.drewN q) aN.path.below (fun y hy=>(aN.path.all y hy).imp (fun h=>h.elim (fun h=>by rcases List.mem_cons.1 h with rfl|h;(exact .inr n_);(exact .inl h)) .inr) id) (aN.path.node _ List.mem_cons_self) (aN.each _ List.mem_cons_self).2.2.2.2 (aN.each _ List.mem_cons_self).2.2.1 aN.row (aN.rows hZ);have c2:R.length=m:=aJ.out.1.symm;simp only [] at h;rw [← aK];rw [c2] at h ⊢;refine h.mono ?_;rintro e w' ⟨u,vu,r,h1,h2,h3,h4,h5⟩
    exact ⟨_,u,vu,r,aL,h1,h2,h3,h4,h5⟩)
   clear aH;go_wp2_with fail
   go_quiet (fail)
   go_wp2_with fail
   refine (cB.out _).mono ?_;rintro ex w2 ⟨WD,u,vu,r,bs,rfl,cC,cD,bN,ao⟩;have au:=z_ (next am.out bs);have c3:=z_ ((bs.block _ o_).trans a8.out);have bO:=z_ bN;have c4:=z_ cC;have c6:=z_ cD;have bc:=z_ ao;have dp:wo.heap.size+1≤WD.heap.size:=by have:=bs.size;omega
   have c7:WD.heap.size≤w2.heap.size:=ao.size;have cE:Sub (tmr.qb4 ((gp::dvB (⟨ge,oe,t,.slice Aa t.args.length ca,R,.slice Ad R.length cd⟩::Q))++(w.heap.size::X0)) WD) w2:=(qdq _ _).trans (Sub.below ao);have bP:=bN w2 cE (Kept.refl _ _);obtain ⟨Au,cu,rfl,_⟩:=HasR.shape bP rfl;have dq:=z_ bP;have bq:Hid (w2.heap[w.heap.size]? =some (.cells #[.int .i64 0,.string { data:=#[] },.int .i64 0,.slice none 0 0] 38 (0,0))):=z_ ((ao.block _ o_).trans c3.out);unfold aggT;obtain ⟨uo,bQ⟩:=e_ (u.op);obtain ⟨un,bR⟩:=e_ (u.name);obtain ⟨us,bS⟩:=e_ (u.sort);obtain ⟨ul,bT⟩:=e_ (u.args.length);have bU:=z_ (And.intro bQ (And.intro bR (And.intro bS bT)));rw [← bQ,← bR,← bS,← bT];clear aK aI aw bs bN cC cD ao cE bP bQ bR bS bT c0 c1 m0 cp m3 co s1 s2 cB;obtain ⟨W3,ay⟩:=e_ (w2.alloc (.cells #[.int .i64 uo,.string (bstr un),.int .i64 us,.slice Au ul cu] 38));have bV:=fr1_ ay;have dr:=fr3_ ay;have c8:=fr2_ ay;obtain ⟨b0,b1,b2,b3⟩:=grami.box4 c8;have bd:=z_ ((bV.block _ o_).trans bq.out);obtain ⟨z0,z1,z2,z3⟩:=grami.box4 bd.out;have q0:W3.frozen? ⟨w.heap.size,0,none⟩=false:=g_ W3 _ 0 _ _ bd.out;have q1:W3.frozen? ⟨w.heap.size,1,none⟩=false:=g_ W3 _ 1 _ _ bd.out;have q2:W3.frozen? ⟨w.heap.size,2,none⟩=false:=g_ W3 _ 2 _ _ bd.out;have q3:W3.frozen? ⟨w.heap.size,3,none⟩=false:=g_ W3 _ 3 _ _ bd.out;have be:=z_ bV;have bt:=z_ au.out.path.below;have cF:Hid (Below w.heap.size w W3):=z_ ((bt.out.trans (bc.out.mono bt.out.size)).trans (bV.mono (by have:=bt.out.size;omega)));cases r with
   | false=>
    have aO:Hid (∀ u0 u1 u2 u3,RebP F Gd X0 root w (.returned (.tuple #[.agg #[.int .i64 0,.string { data:=#[] },.int .i64 0,.slice none 0 0],.bool false])) (set4 W3 w.heap.size u0 u1 u2 u3)):=z_ (fun u0 u1 u2 u3=>
     ⟨zT,.slice none 0 0,false,rfl,fun _=>⟨au.out.fail br.out (c4.out rfl),rfl⟩,fun h=>(by cases h),HasR.nil _ _ _ Aa_ _,qa9 cF.out n_ _ _ _ _⟩)
    go_upto_region 10 with fail
    rw [← ay];clear ay;go_wp2;refine bodyPost_ret (v:=.tuple #[.agg #[.int .i64 0,.string { data:=#[] },.int .i64 0,.slice none 0 0],.bool false]) (by simp [results,Tryz.results96,go_sem,z0,z1,z2,z3]) rfl ?_;exact aO.out _ _ _ _
   | true=>
    obtain ⟨bW,cG⟩:=c6.out rfl
    have aP:=z_ (And.intro bW (And.intro (HF.out.good (au.out.each _ List.mem_cons_self).2.2.2.2 (fun a ha=>by
     obtain ⟨y,hy,rfl⟩:=List.mem_map.1 ha
     exact (au.out.each _ List.mem_cons_self).2.2.1 y hy) bW) cG))
    clear bW cG;cases Q with
    | nil=>
     obtain rfl:k=0:=HK.out
     have aO:Hid (∀ u0 u1 u2 u3,RebP F Gd X0 root w (.returned (.tuple #[.agg #[.int .i64 uo,.string (bstr un),.int .i64 us,.slice Au ul cu],.bool true])) (set4 W3 w.heap.size u0 u1 u2 u3)):=z_ (fun u0 u1 u2 u3=>by
      obtain ⟨e1,e2,e3,e4⟩:=bU.out;have hc:Chg ((gp::dvB [⟨ge,oe,t,.slice Aa t.args.length ca,R,.slice Ad R.length cd⟩])++(w.heap.size::X0)) WD (set4 W3 w.heap.size u0 u1 u2 u3):=((((((Chg.of_below bc.out).trans (Chg.of_below be.out)).trans (Chg.set (by simp) u0)).trans (Chg.set (by simp) u1)).trans (Chg.set (by simp) u2)).trans (Chg.set (by simp) u3));have hv:=bO.out (tmr.qb4 X0 (set4 W3 w.heap.size u0 u1 u2 u3)) (rebq.qdz hc (fun k hk=>.inl (by simp [hk]))) (((Kept.below be.out n_).trans (qd2 o_ _ _ _ _)).trans (qki (fun k hk=>by have:=cg k hk;have:=bt.out.size;omega)))
      exact ⟨u,.slice Au u.args.length cu,true,by unfold aggT;rw [← e1,← e2,← e3,← e4],fun h=>(by cases h),fun _=>⟨au.out.last br.out aP.out.1,aP.out.2.1,aP.out.2.2⟩,hv,qa9 cF.out n_ _ _ _ _⟩)
     go_upto_region 10 with fail
     rw [← ay];clear ay;go_wp2;refine bodyPost_ret (v:=.tuple #[.agg #[.int .i64 uo,.string (bstr un),.int .i64 us,.slice Au ul cu],.bool true]) (by simp [results,Tryz.results96,go_sem,z0,z1,z2,z3]) rfl ?_;exact aO.out _ _ _ _
    | cons fe Q=>
     obtain ⟨gf,og,tf,vf,Rf,df⟩:=fe;obtain ⟨kk,rfl⟩:∃ kk,k=kk+1:=⟨Q.length,by have:=HK.out;simpa using this⟩;have an:Hid (kk=Q.length):=z_ (by have:=HK.out;simpa using this);obtain ⟨Af,cf,cH,_⟩:=qaz (au.out.path.done ⟨gf,og,tf,vf,Rf,df⟩ (by simp));simp only [] at cH;subst cH;have bf:=z_ (next (next au.out bc.out) be.out);have bu:W3.ownsRow (w.heap.size+1) 215 2 (.slice (some ⟨gp,0,none⟩) (kk+1) cap) (kk+1) (qbf (⟨gf,og,tf,vf,Rf,.slice Af Rf.length cf⟩::Q)):=by
      have h1:=bf.out.path.row;have e1:(⟨ge,oe,t,.slice Aa t.args.length ca,R,.slice Ad R.length cd⟩::⟨gf,og,tf,vf,Rf,.slice Af Rf.length cf⟩::Q:List Ent).length=kk+1+1:=by simp [an.out]
      rw [e1] at h1;have h2:=qdu h1 (m:=kk+1) o_;rwa [qg8 (by simp [an.out])] at h2
     have c9:=z_ bu;have dt:kk+1≤cap:=(termz.qc8 bu).2.2;have p1:=(bu.cellAt (kk*2+1) o_).trans (qdj (e:=⟨gf,og,tf,vf,Rf,.slice Af Rf.length cf⟩) an.out).2;simp only [] at p1;have cI:Hid (W3.ownsRow (w.heap.size+1) 38 4 (.slice Af Rf.length cf) Rf.length (rowV Rf)):=z_ (bf.out.path.done ⟨gf,og,tf,vf,Rf,.slice Af Rf.length cf⟩ (by simp));have cJ:Rf.length<tf.args.length:=bf.out.path.chain.1.1;have bX:tf.args.length≤1048576:=by
      have h1:=(bf.out.each ⟨gf,og,tf,vf,Rf,.slice Af Rf.length cf⟩ (by simp)).1;have h2:=termro.qao tf;have h3:=qat tf.args;simp only [] at h1;omega
     have bg:∀ q,(Value.slice Af Rf.length cf).ownBlock=some q→q≠gp∧w.heap.size+1≤q∧q<WD.heap.size:=fun q hq=>by
      have h0:=qej (e:=⟨gf,og,tf,vf,Rf,.slice Af Rf.length cf⟩) (Q:=⟨ge,oe,t,.slice Aa t.args.length ca,R,.slice Ad R.length cd⟩::⟨gf,og,tf,vf,Rf,.slice Af Rf.length cf⟩::Q) (by simp) hq;refine ⟨fun e'=>?_,au.out.path.lt q (List.mem_cons_of_mem _ h0)⟩;have h1:=bf.out.path.apart;rw [List.nodup_cons] at h1;subst e';exact h1.1 h0
     have ai:=z_ bg
     have cK:Hid (∀ (wA w5:World) (g5 c5 n:Nat),n=Rf.length→Below w2.heap.size w2 wA→wA.grownBy w5 (Value.slice Af n cf).ownBlock→((Value.slice Af n cf).ownBlock=some g5∨g5=wA.heap.size)→g5<w5.heap.size→w5.ownsRow (w.heap.size+1) 38 4 (.slice (some ⟨g5,0,none⟩) (n+1) c5) (n+1) (rowV Rf++[.int .i64 uo,.string (bstr un),.int .i64 us,.slice Au ul cu])→
       RebI N Z M F Nd Gd root w (w.heap.size+1) gp cap (w.heap.size::X0) 215 38 (putE ⟨gf,og,tf,vf,Rf,.slice Af Rf.length cf⟩ u (.slice Au u.args.length cu) (.slice (some ⟨g5,0,none⟩) (n+1) c5)) Q (w5.setCell ⟨gp,kk*2+1,none⟩ (.slice (some ⟨g5,0,none⟩) (n+1) c5))):=z_ (fun wA w5 g5 c5 n hn hA hg bY bo ho=>by
      obtain ⟨e1,e2,e3,e4⟩:=bU.out;subst hn;refine qCk HF.out au.out br.out aP.out.1 aP.out.2.2 bc.out bO.out hA bY bo hg rfl an.out ?_;rw [qbz,← e4];show w5.ownsRow _ _ _ _ _ (rowV Rf++[.int .i64 u.op,.string (bstr u.name),.int .i64 u.sort,.slice Au ul cu]);rw [← e1,← e2,← e3]
      exact ho)
     have cL:Hid (∀ (wA w5:World) (g5 c5 n:Nat) (y0 y1 y2 y3:Value),n=Rf.length→Below w2.heap.size w2 wA→wA.grownBy w5 (Value.slice Af n cf).ownBlock→((Value.slice Af n cf).ownBlock=some g5∨g5=wA.heap.size)→g5<w5.heap.size→w5.ownsRow (w.heap.size+1) 38 4 (.slice (some ⟨g5,0,none⟩) (n+1) c5) (n+1) (rowV Rf++[y0,y1,y2,y3])→
       RebI N Z M F Nd Gd root w (w.heap.size+1) gp cap (w.heap.size::X0) 215 38 (putE ⟨gf,og,tf,vf,Rf,.slice Af Rf.length cf⟩ u (.slice Au u.args.length cu) (.slice (some ⟨g5,0,none⟩) (n+1) c5)) Q (put4 (w5.setCell ⟨gp,kk*2+1,none⟩ (.slice (some ⟨g5,0,none⟩) (n+1) c5)) g5 (n*4) (.int .i64 uo) (.string (bstr un)) (.int .i64 us) (.slice Au ul cu))):=z_ (fun wA w5 g5 c5 n y0 y1 y2 y3 hn hA hg bY bo ho=>by
      obtain ⟨e1,e2,e3,e4⟩:=bU.out;subst hn;rw [e1,e2,e3,e4]
      exact qCz HF.out au.out br.out aP.out.1 aP.out.2.2 bc.out bO.out hA bY bo (by have:=hA.size;omega) hg rfl an.out ho)
     have bv:Hid (∀ g5 c5 n,left (putE ⟨gf,og,tf,vf,Rf,.slice Af Rf.length cf⟩ u (.slice Au u.args.length cu) (.slice (some ⟨g5,0,none⟩) (n+1) c5)).t ((putE ⟨gf,og,tf,vf,Rf,.slice Af Rf.length cf⟩ u (.slice Au u.args.length cu) (.slice (some ⟨g5,0,none⟩) (n+1) c5)).R.map Prod.fst) (Q.map pair)<gk):=z_ (fun g5 c5 n=>w_ (RebI.left_pop (e:=⟨ge,oe,t,.slice Aa t.args.length ca,R,.slice Ad R.length cd⟩)) bF.out)
     have cM:Hid (∀ (wA w5:World),Below w2.heap.size w2 wA→wA.grownBy w5 (Value.slice Af Rf.length cf).ownBlock→w5.heap[w.heap.size]? =some (.cells #[.int .i64 0,.string { data:=#[] },.int .i64 0,.slice none 0 0] 38 (0,0))):=z_ (fun wA w5 hA hg=>by
      refine (hg.block _ (by have:=hA.size;omega) (fun e'=>?_)).trans ((hA.block _ o_).trans bq.out);have:=(ai.out _ e'.symm).2.1
      omega)
     obtain ⟨n,hn⟩:=e_ (Rf.length);have HN:=z_ hn;rw [← hn] at p1 cJ cI cM ai;have da:n≤1048576:=o_;clear bu bg hn cJ bX z0 z1 z2 z3 q0 q1 q2 q3;have db:(kk:Int)+1≤(cap:Int):=o_;have d7:(((kk:Int)+1)==0)=false:=by simp;omega
     have d8:decide ((kk:Int)+1=0)=false:=f_;go_upto_region 10 with fail
     rw [← ay];clear ay;go_upto_region 15 with fail
     go_cut [71] (fun dc wx=>∃ b:Bool,dc=Value.bool b∧Below W3.heap.size W3 wx)
     case first=>
      go_region
      all_goals (go_wp2_with fail;go_meet;refine ⟨_,rfl,?_⟩;repeat (first|exact Below.refl _ _|refine Below.drew ?_|refine qa3 ?_ _|refine Below.alloc ?_ Ab_ _|refine Below.setCell ?_ Ab_ _))
     case rest=>
      obtain ⟨b,rfl,aQ⟩:=hcut;obtain ⟨w4,rfl⟩:∃ w4,w4=wc:=⟨wc,rfl⟩;have cN:W3.heap.size≤w4.heap.size:=aQ.size;have du:w.heap.size+1≤w4.heap.size:=o_;have dd:gp<w4.heap.size:=o_;have dw:¬ w4.heap.size=gp:=o_;have de:¬ gp=w4.heap.size:=o_;have dx:=(aQ.cell (p:=⟨gp,kk*2+1,none⟩) (show gp<W3.heap.size by omega)).trans p1;have bZ:=z_ (own_below c9.out aQ);have az:=z_ (own_below cI.out aQ);have aA:w2.heap.size<W3.heap.size:=o_
      have ad:Hid (∀ w',Below w4.heap.size w4 w'→w'.cell? ⟨w2.heap.size,0,none⟩=some (.int .i64 uo)∧w'.cell? ⟨w2.heap.size,1,none⟩=some (.string (bstr un))∧w'.cell? ⟨w2.heap.size,2,none⟩=some (.int .i64 us)∧w'.cell? ⟨w2.heap.size,3,none⟩=some (.slice Au ul cu)):=z_ (fun w' h'=>by
       have h2:=aQ.trans (h'.mono cN)
       exact ⟨(h2.cell (p:=⟨w2.heap.size,0,none⟩) aA).trans b0,(h2.cell (p:=⟨w2.heap.size,1,none⟩) aA).trans b1,(h2.cell (p:=⟨w2.heap.size,2,none⟩) aA).trans b2,(h2.cell (p:=⟨w2.heap.size,3,none⟩) aA).trans b3⟩)
      have bh:Hid (∀ w',Below w4.heap.size w4 w'→Below w2.heap.size w2 w'):=z_ (fun w' h'=>be.out.trans ((aQ.trans (h'.mono cN)).mono be.out.size));have b4:gp≠w2.heap.size:=o_
      have bw:Hid (∀ (wA w5:World),Below w4.heap.size w4 wA→wA.grownBy w5 (Value.slice Af n cf).ownBlock→(w5.cell? ⟨w2.heap.size,0,none⟩=some (.int .i64 uo)∧w5.cell? ⟨w2.heap.size,1,none⟩=some (.string (bstr un))∧w5.cell? ⟨w2.heap.size,2,none⟩=some (.int .i64 us)∧w5.cell? ⟨w2.heap.size,3,none⟩=some (.slice Au ul cu))∧
        (∀ v,(w5.setCell ⟨gp,kk*2+1,none⟩ v).cell? ⟨w2.heap.size,0,none⟩=some (.int .i64 uo)∧(w5.setCell ⟨gp,kk*2+1,none⟩ v).cell? ⟨w2.heap.size,1,none⟩=some (.string (bstr un))∧(w5.setCell ⟨gp,kk*2+1,none⟩ v).cell? ⟨w2.heap.size,2,none⟩=some (.int .i64 us)∧(w5.setCell ⟨gp,kk*2+1,none⟩ v).cell? ⟨w2.heap.size,3,none⟩=some (.slice Au ul cu))∧
        (w5.cell? ⟨gp,kk*2+1,none⟩=some (.slice Af n cf)∧w5.frozen? ⟨gp,kk*2+1,none⟩=false)∧(∀ v,(w5.setCell ⟨gp,kk*2+1,none⟩ v).heap[w.heap.size]? =some (.cells #[.int .i64 0,.string { data:=#[] },.int .i64 0,.slice none 0 0] 38 (0,0)))):=z_ (fun wA w5 hA hg=>by
       have dy:=hA.size;obtain ⟨d0,d1,d2,d3⟩:=ad.out wA hA
       have dg:some w2.heap.size≠(Value.slice Af n cf).ownBlock:=fun e'=>by
        have:=(ai.out _ e'.symm).2.2;omega
       have c:∀ i,w5.cell? ⟨w2.heap.size,i,none⟩=wA.cell? ⟨w2.heap.size,i,none⟩:=fun i=>hg.cell_far ⟨w2.heap.size,i,none⟩ (by show w2.heap.size<_;omega) dg
       have k:∀ v i,(w5.setCell ⟨gp,kk*2+1,none⟩ v).cell? ⟨w2.heap.size,i,none⟩=w5.cell? ⟨w2.heap.size,i,none⟩:=fun v i=>World.cell?_setCell_other w5 ⟨gp,kk*2+1,none⟩ ⟨w2.heap.size,i,none⟩ v (fun e'=>b4 (congrArg Addr.block e'))
       have ho:=World.ownsRow.kept (own_below bZ.out hA) hg (.inr (fun e'=>(ai.out gp (by rw [← e'];rfl)).1 rfl));have bX:=qdj (e:=⟨gf,og,tf,vf,Rf,.slice Af Rf.length cf⟩) (Q:=Q) an.out;have b5:=(ho.cellAt (kk*2+1) o_).trans bX.2;simp only [] at b5;rw [← HN.out] at b5;refine ⟨⟨(c 0).trans d0,(c 1).trans d1,(c 2).trans d2,(c 3).trans d3⟩,fun v=>⟨(k v 0).trans ((c 0).trans d0),(k v 1).trans ((c 1).trans d1),(k v 2).trans ((c 2).trans d2),(k v 3).trans ((c 3).trans d3)⟩,⟨b5,ho.frozenAt _⟩,fun v=>?_⟩;rw [Below.heap_setCell w5 ⟨gp,kk*2+1,none⟩ v w.heap.size (by show w.heap.size≠gp;omega)]
       exact cM.out wA w5 (bh.out _ hA) hg)
      have dz:(0:Int)≤(kk:Int):=o_;have dA:IntKind.i64.wrap (kk:Int)=(kk:Int):=IntWalk.i64_in _ o_;have dB:(0:Int)≤(kk:Int)∧(kk:Int)<(kk:Int)+1:=o_;have dC:(kk:Int)<(kk:Int)+1:=o_;clear p1 b0 b1 b2 b3 aQ;cases b with
      | false=>
       go_wp2_with fail
       refine wp_region_noPanic ?_;refine wp_region_held_drew (S:=(fun w'=>w'.cell? ⟨w2.heap.size,0,none⟩=some (.int .i64 uo)∧w'.cell? ⟨w2.heap.size,1,none⟩=some (.string (bstr un))∧w'.cell? ⟨w2.heap.size,2,none⟩=some (.int .i64 us)∧w'.cell? ⟨w2.heap.size,3,none⟩=some (.slice Au ul cu))) k_ ?_ (fun ap=>?_)
       ·exact ad.out _ b_.drew
       refine t_k 0 ?_;refine t_k 1 ?_;refine t_k 2 ?_;refine t_k 3 ?_;refine t_k 4 ?_;refine t_k 5 ?_;refine t_k 6 ?_;refine t_k 7 ?_;refine t_k 9 ?_;refine r_d [8,10] ?_;refine c_s (fun K hK=>?_) ?_
       ·go_simp
        refine k_o hK ?_ (fun aR=>?_)
        ·exact c78_
        clear hK K ap;refine r_d [10] ?_;refine c_s (fun K hK=>?_) ?_
        ·go_simp
         refine k_o hK ?_ (fun aS=>?_)
         ·exact c78_
         clear hK K aR;refine r_d [11] ?_;refine c_s (fun K hK=>?_) ?_
         ·((refine step_append_lies _ (by rfl) _ _ _ (by rfl) (w.heap.size+1) 38 j4 _ 4 56 Tryz.underlying36 av bi bj bk rfl o_ (.slice Af n cf) n (rowV Rf) (by rfl) (own_below az.out (by repeat (first|exact Below.refl _ _|refine Below.drew ?_|refine Below.alloc ?_ Ab_ _))) ⟨_,0,none⟩ 1 1 [.int .i64 uo,.string (bstr un),.int .i64 us,.slice Au ul cu] (by rfl) (by rfl) (fun q x hq=>qjh _ _ _ _ _ _ q x hq) (qaw rfl rfl rfl rfl) o_ Aa_ o_ Ab_ _ rfl ?_;intro g5 c5 w5 ab ac aj af;have aa:=bw.out _ w5 (by repeat (first|exact Below.refl _ _|refine Below.drew ?_|refine Below.alloc ?_ Ab_ _)) ac))
          refine k_o hK ?_ (fun aT=>?_)
          ·exact c78_
          clear hK K aS;refine t_k 12 ?_;refine t_k 13 ?_;refine r_d [14] ?_;refine c_s (fun K hK=>?_) ?_
          ·(have b6:=aa.2.2.1.1;have b7:=aa.2.2.1.2;go_simp)
           refine k_o hK ?_ (fun b8=>?_)
           ·exact c78_
           clear hK K aT;refine wpAnyH_done k_ ?_ _;refine NoPanic.normal ?_;have aB:=z_ (cK.out _ w5 g5 c5 n HN.out (bh.out _ (by repeat (first|exact Below.refl _ _|refine Below.drew ?_|refine Below.alloc ?_ Ab_ _))) ac aj af ab);have aC:=z_ (aa.2.2.2 (.slice (some ⟨g5,0,none⟩) (n+1) c5));have aq:=z_ (bv.out g5 c5 n);clear ab ac aj aa;go_wp2;go_roundg (gk-1)
           case measure=>have:=aq.out;omega
           case rel=>exact ⟨_,Q,gp,cap,by rw [← an.out],z_ (by have:=aq.out;omega),aB,aC⟩
          exact a_l
         exact a_l
        exact a_l
       refine c_s (fun K hK=>?_) ?_
       ·go_simp
        refine k_o hK ?_ (fun aU=>?_)
        ·exact c78_
        clear hK K ap;refine r_d [8] ?_;refine c_s (fun K hK=>?_) ?_
        ·go_simp
         refine k_o hK ?_ (fun aV=>?_)
         ·exact c78_
         clear hK K aU;refine r_d [11] ?_;refine c_s (fun K hK=>?_) ?_
         ·((refine step_append_lies _ (by rfl) _ _ _ (by rfl) (w.heap.size+1) 38 j4 _ 4 56 Tryz.underlying36 av bi bj bk rfl o_ (.slice Af n cf) n (rowV Rf) (by rfl) (own_below az.out (by repeat (first|exact Below.refl _ _|refine Below.drew ?_|refine Below.alloc ?_ Ab_ _))) ⟨_,0,none⟩ 1 1 [.int .i64 uo,.string (bstr un),.int .i64 us,.slice Au ul cu] (by rfl) (by rfl) (fun q x hq=>qjh _ _ _ _ _ _ q x hq) (qaw rfl rfl rfl rfl) o_ Aa_ o_ Ab_ _ rfl ?_;intro g5 c5 w5 ab ac aj af;have aa:=bw.out _ w5 (by repeat (first|exact Below.refl _ _|refine Below.drew ?_|refine Below.alloc ?_ Ab_ _)) ac))
          refine k_o hK ?_ (fun aW=>?_)
          ·exact c78_
          clear hK K aV;refine t_k 12 ?_;refine t_k 13 ?_;refine r_d [14] ?_;refine c_s (fun K hK=>?_) ?_
          ·(have b6:=aa.2.2.1.1;have b7:=aa.2.2.1.2;go_simp)
           refine k_o hK ?_ (fun b9=>?_)
           ·exact c78_
           clear hK K aW;refine wpAnyH_done k_ ?_ _;refine NoPanic.normal ?_;have aB:=z_ (cK.out _ w5 g5 c5 n HN.out (bh.out _ (by repeat (first|exact Below.refl _ _|refine Below.drew ?_|refine Below.alloc ?_ Ab_ _))) ac aj af ab);have aC:=z_ (aa.2.2.2 (.slice (some ⟨g5,0,none⟩) (n+1) c5));have aq:=z_ (bv.out g5 c5 n);clear ab ac aj aa;go_wp2;go_roundg (gk-1)
           case measure=>have:=aq.out;omega
           case rel=>exact ⟨_,Q,gp,cap,by rw [← an.out],z_ (by have:=aq.out;omega),aB,aC⟩
          exact a_l
         exact a_l
        exact a_l
       exact a_l
      | true=>
       go_wp2_with fail
       refine wp_region_noPanic ?_;refine wp_region_held_drew (S:=(fun w'=>w'.cell? ⟨w2.heap.size,0,none⟩=some (.int .i64 uo)∧w'.cell? ⟨w2.heap.size,1,none⟩=some (.string (bstr un))∧w'.cell? ⟨w2.heap.size,2,none⟩=some (.int .i64 us)∧w'.cell? ⟨w2.heap.size,3,none⟩=some (.slice Au ul cu))) k_ ?_ (fun ap=>?_)
       ·exact ad.out _ b_.drew
       refine t_k 0 ?_;refine t_k 1 ?_;refine t_k 2 ?_;refine t_k 3 ?_;refine t_k 4 ?_;refine t_k 5 ?_;refine t_k 6 ?_;refine t_k 7 ?_;refine t_k 9 ?_;refine r_d [8,11] ?_;refine c_s (fun K hK=>?_) ?_
       ·go_simp
        refine k_o hK ?_ (fun aR=>?_)
        ·exact c78_
        clear hK K ap;refine t_k 10 ?_;refine r_d [11] ?_;refine c_s (fun K hK=>?_) ?_
        ·go_simp
         refine k_o hK ?_ (fun aS=>?_)
         ·exact c78_
         clear hK K aR;refine r_d [12] ?_;refine c_s (fun K hK=>?_) ?_
         ·((refine step_append_lies _ (by rfl) _ _ _ (by rfl) (w.heap.size+1) 38 j4 _ 4 56 Tryz.underlying36 av bi bj bk rfl o_ (.slice Af n cf) n (rowV Rf) (by rfl) (own_below az.out (by repeat (first|exact Below.refl _ _|refine Below.drew ?_|refine Below.alloc ?_ Ab_ _))) ⟨_,0,none⟩ 1 1 [.int .i64 0,.string { data:=#[] },.int .i64 0,.slice none 0 0] (by rfl) (by rfl) (fun q x hq=>qjh _ _ _ _ _ _ q x hq) (qaw rfl rfl rfl rfl) o_ Aa_ o_ Ab_ _ rfl ?_;intro g5 c5 w5 ab ac aj af;have aa:=bw.out _ w5 (by repeat (first|exact Below.refl _ _|refine Below.drew ?_|refine Below.alloc ?_ Ab_ _)) ac))
          refine k_o hK ?_ (fun aT=>?_)
          ·exact c78_
          clear hK K aS;refine t_k 13 ?_;refine t_k 14 ?_;refine r_d [15] ?_;refine c_s (fun K hK=>?_) ?_
          ·(have b6:=aa.2.2.1.1;have b7:=aa.2.2.1.2;go_simp)
           refine k_o hK ?_ (fun b8=>?_)
           ·exact c78_
           clear hK K aT;refine wpAnyH_done k_ ?_ _;refine NoPanic.normal ?_;have aB:=z_ (cL.out _ w5 g5 c5 n _ _ _ _ HN.out (bh.out _ (by repeat (first|exact Below.refl _ _|refine Below.drew ?_|refine Below.alloc ?_ Ab_ _))) ac aj af ab);have aC:=z_ (aa.2.2.2 (.slice (some ⟨g5,0,none⟩) (n+1) c5));have aq:=z_ (bv.out g5 c5 n);have cc:w.heap.size+1≤g5:=qb7 ab g5 rfl;have aX:g5≠gp:=by
            exact c79_
           obtain ⟨w6,aD⟩:=e_ (w5.setCell ⟨gp,kk*2+1,none⟩ (.slice (some ⟨g5,0,none⟩) (n+1) c5));have ae:=qs1 ab aX aD;have ak:=qbr Rf;rw [← HN.out] at ak;have e0:=(ae.cellAt (n*4) o_).trans (qda (rowV Rf) ak _ _ _ _).1;have e1:=(ae.cellAt (n*4+1) o_).trans (qda (rowV Rf) ak _ _ _ _).2.1;have e2:=(ae.cellAt (n*4+2) o_).trans (qda (rowV Rf) ak _ _ _ _).2.2.1;have e3:=(ae.cellAt (n*4+3) o_).trans (qda (rowV Rf) ak _ _ _ _).2.2.2;have t0:=ae.frozenAt (n*4);have t1:=ae.frozenAt (n*4+1);have t2:=ae.frozenAt (n*4+2);have t3:=ae.frozenAt (n*4+3);have dh:(0:Int)≤(n:Int):=o_;have di:(n:Int)<(n:Int)+1:=o_;rw [← aD];rw [← aD] at aB aC;have ce:w.heap.size≠g5:=o_;clear ab ac aj aa aD ae ak;go_wp2;go_roundg (gk-1)
           case measure=>have:=aq.out;omega
           case rel=>exact ⟨_,Q,gp,cap,by rw [← an.out],z_ (by have:=aq.out;omega),aB,z_ ((qs0 w6 ce _ _ _ _ _).trans aC.out)⟩
          exact a_l
         exact a_l
        exact a_l
       refine c_s (fun K hK=>?_) ?_
       ·go_simp
        refine k_o hK ?_ (fun aU=>?_)
        ·exact c78_
        clear hK K ap;refine r_d [8] ?_;refine c_s (fun K hK=>?_) ?_
        ·go_simp
         refine k_o hK ?_ (fun aV=>?_)
         ·exact c78_
         clear hK K aU;refine t_k 10 ?_;refine r_d [12] ?_;refine c_s (fun K hK=>?_) ?_
         ·((refine step_append_lies _ (by rfl) _ _ _ (by rfl) (w.heap.size+1) 38 j4 _ 4 56 Tryz.underlying36 av bi bj bk rfl o_ (.slice Af n cf) n (rowV Rf) (by rfl) (own_below az.out (by repeat (first|exact Below.refl _ _|refine Below.drew ?_|refine Below.alloc ?_ Ab_ _))) ⟨_,0,none⟩ 1 1 [.int .i64 0,.string { data:=#[] },.int .i64 0,.slice none 0 0] (by rfl) (by rfl) (fun q x hq=>qjh _ _ _ _ _ _ q x hq) (qaw rfl rfl rfl rfl) o_ Aa_ o_ Ab_ _ rfl ?_;intro g5 c5 w5 ab ac aj af;have aa:=bw.out _ w5 (by repeat (first|exact Below.refl _ _|refine Below.drew ?_|refine Below.alloc ?_ Ab_ _)) ac))
          refine k_o hK ?_ (fun aW=>?_)
          ·exact c78_
          clear hK K aV;refine t_k 13 ?_;refine t_k 14 ?_;refine r_d [15] ?_;refine c_s (fun K hK=>?_) ?_
          ·(have b6:=aa.2.2.1.1;have b7:=aa.2.2.1.2;go_simp)
           refine k_o hK ?_ (fun b9=>?_)
           ·exact c78_
           clear hK K aW;refine wpAnyH_done k_ ?_ _;refine NoPanic.normal ?_;have aB:=z_ (cL.out _ w5 g5 c5 n _ _ _ _ HN.out (bh.out _ (by repeat (first|exact Below.refl _ _|refine Below.drew ?_|refine Below.alloc ?_ Ab_ _))) ac aj af ab);have aC:=z_ (aa.2.2.2 (.slice (some ⟨g5,0,none⟩) (n+1) c5));have aq:=z_ (bv.out g5 c5 n);have cc:w.heap.size+1≤g5:=qb7 ab g5 rfl;have aX:g5≠gp:=by
            exact c79_
           obtain ⟨w6,aD⟩:=e_ (w5.setCell ⟨gp,kk*2+1,none⟩ (.slice (some ⟨g5,0,none⟩) (n+1) c5));have ae:=qs1 ab aX aD;have ak:=qbr Rf;rw [← HN.out] at ak;have e0:=(ae.cellAt (n*4) o_).trans (qda (rowV Rf) ak _ _ _ _).1;have e1:=(ae.cellAt (n*4+1) o_).trans (qda (rowV Rf) ak _ _ _ _).2.1;have e2:=(ae.cellAt (n*4+2) o_).trans (qda (rowV Rf) ak _ _ _ _).2.2.1;have e3:=(ae.cellAt (n*4+3) o_).trans (qda (rowV Rf) ak _ _ _ _).2.2.2;have t0:=ae.frozenAt (n*4);have t1:=ae.frozenAt (n*4+1);have t2:=ae.frozenAt (n*4+2);have t3:=ae.frozenAt (n*4+3);have dh:(0:Int)≤(n:Int):=o_;have di:(n:Int)<(n:Int)+1:=o_;rw [← aD];rw [← aD] at aB aC;have ce:w.heap.size≠g5:=o_;clear ab ac aj aa aD ae ak;go_wp2;go_roundg (gk-1)
           case measure=>have:=aq.out;omega
           case rel=>exact ⟨_,Q,gp,cap,by rw [← an.out],z_ (by have:=aq.out;omega),aB,z_ ((qs0 w6 ce _ _ _ _ _).trans aC.out)⟩
          exact a_l
         exact a_l
        exact a_l
       exact a_l
end Go.Proofs.YtiilamngcoegiaaGreat.rebw
