
import Derived.Test.YtiilamngcoegiaaGreatPk18
import Derived.Deep.DeepCutAuto
import Derived.Deep.LoopGhost
namespace Go.Proofs.YtiilamngcoegiaaGreat.rebw
open Go.ChangeShapes Go.WideShapes Go.ChangeAt Go.RowKit
open mem rowl trm terml termb termt termx termro tma tmr tmf tmg tmc rebm rebp rebq rebn rebi
theorem qz0 (w:World){p q:Addr}(h:p.block≠q.block)(u v:Value):(w.setCell p u).setCell q v=(w.setCell q v).setCell p u:=by
 simp only [World.setCell];congr 1
 apply Array.ext
 ·simp
 ·intro i h1 h2
  simp only [Array.getElem_modify];by_cases ha:p.block=i
  ·by_cases hb:q.block=i
   ·exact absurd (ha.trans hb.symm) h
   ·simp [ha,hb]
  ·by_cases hb:q.block=i
   ·simp [ha,hb]
   ·simp [ha,hb]
theorem qap {w w':World}{r:Option Nat}{g j:Nat}(hg:w.grownBy w' r)(h:r=some g∨w.heap.size≤g)(u:Value):w.grownBy (w'.setCell ⟨g,j,none⟩ u) r:=
 ⟨hg.os,hg.tape,hg.output,by simpa [World.setCell] using hg.size,fun k hk hn=>(Below.heap_setCell w' ⟨g,j,none⟩ u k (fun e=>by
  have e':k=g:=e;subst e';rcases h with h|h
  ·exact hn h.symm
  ·omega)).trans (hg.block k hk hn)⟩
section
variable {N Z M B gp cap:Nat} {X:List Nat} {F:TermM→List TermM→Option TermM} {Nd Gd:TermM→Prop} {root:TermM} {wl:World} {T2 T4:TypeId} {e f:Ent} {Q:List Ent} {w w1 w2 w3:World}
theorem qwe {Q:List Ent}{w w':World}(h:PathR N wl B gp cap X T2 T4 Q w)(hb:Below w.heap.size w w'):PathR N wl B gp cap X T2 T4 Q w':=
 ⟨h.below.trans (hb.mono h.below.size),h.hB,qa2 h.row hb,h.node,h.chain,fun e he=>qa2 (h.done e he) hb,h.apart,fun e he x hx=>⟨qbf _ (qdm (Chg.of_below hb) (fun _ hk=>.inl hk)) (h.el e he x hx).1,(h.el e he x hx).2⟩,h.hX⟩
theorem next (h:RebI N Z M F Nd Gd root wl B gp cap X T2 T4 e Q w){w':World}(hb:Below w.heap.size w w'):RebI N Z M F Nd Gd root wl B gp cap X T2 T4 e Q w':=⟨qwe h.path hb,h.each,h.ans⟩
abbrev put4 (w:World)(g j:Nat)(u0 u1 u2 u3:Value):World:=(((w.setCell ⟨g,j,none⟩ u0).setCell ⟨g,j+1,none⟩ u1).setCell ⟨g,j+2,none⟩ u2).setCell ⟨g,j+3,none⟩ u3
theorem qwf (w:World){g j x i:Nat}(h:x≠g)(v u0 u1 u2 u3:Value):put4 (w.setCell ⟨x,i,none⟩ v) g j u0 u1 u2 u3=(put4 w g j u0 u1 u2 u3).setCell ⟨x,i,none⟩ v:=by
 have k:∀ (w:World) (y:Nat) (u:Value),(w.setCell ⟨x,i,none⟩ v).setCell ⟨g,y,none⟩ u=(w.setCell ⟨g,y,none⟩ u).setCell ⟨x,i,none⟩ v:=fun w y u=>qz0 w h v u
 unfold put4;rw [k,k,k,k]
theorem qz1 {w:World}{g cap n B:Nat}{T:TypeId}{R:List (TermM×Value)}(hn:n=R.length){z0 z1 z2 z3:Value}(h:w.ownsRow B T 4 (.slice (some ⟨g,0,none⟩) (n+1) cap) (n+1) (rowV R++[z0,z1,z2,z3]))(u:TermM)(vu:Value):
  (put4 w g (n*4) (.int .i64 u.op) (.string (bstr u.name)) (.int .i64 u.sort) vu).ownsRow B T 4 (.slice (some ⟨g,0,none⟩) (n+1) cap) (n+1) (rowV (R++[(u,vu)])):=by
 have h':=qa4 (qa4 (qa4 (qa4 h (n*4) (.int .i64 u.op)) (n*4+1) (.string (bstr u.name))) (n*4+2) (.int .i64 u.sort)) (n*4+3) vu;have hl:=qbo R;rw [← hn] at hl;rw [List.set_append_right _ _ o_,List.set_append_right _ _ o_,List.set_append_right _ _ o_,List.set_append_right _ _ o_,hl] at h';simp only [Nat.sub_self,Nat.add_sub_cancel_left] at h';rw [qbv];exact h'
theorem qru (w:World){g x:Nat}(h:x≠g)(j:Nat)(u0 u1 u2 u3:Value):(put4 w g j u0 u1 u2 u3).heap[x]? =w.heap[x]? := by
 unfold put4;rw [Below.heap_setCell _ ⟨g,j+3,none⟩ u3 x h,Below.heap_setCell _ ⟨g,j+2,none⟩ u2 x h,Below.heap_setCell _ ⟨g,j+1,none⟩ u1 x h,Below.heap_setCell _ ⟨g,j,none⟩ u0 x h]
theorem qj0 (w:World)(a b c d:Value)(t:TypeId):∀ (j:Nat) (x:Value),[a,b,c,d][j]? =some x→(w.alloc (.cells #[a,b,c,d] t)).cell? ((⟨w.heap.size,0,none⟩:Addr).add j)=some x:=by
 intro j x hx;match j,hx with
 | 0,hx=>simp at hx;subst hx;simp [Addr.add]
 | 1,hx=>simp at hx;subst hx;simp [Addr.add]
 | 2,hx=>simp at hx;subst hx;simp [Addr.add]
 | 3,hx=>simp at hx;subst hx;simp [Addr.add]
theorem qcv {a b c d:Value}(ha:a.oneCell'=true)(hb:b.oneCell'=true)(hc:c.oneCell'=true)(hd:d.oneCell'=true):∀ x∈[a,b,c,d],x.oneCell'=true:=by
 intro x hx;simp at hx;rcases hx with rfl|rfl|rfl|rfl<;>assumption
theorem c73_ {p:Prop}(h:p:=by
 rw [List.getElem?_append_right o_,hl,Nat.add_sub_cancel_left];rfl
):p:=h
theorem qcy {n:Nat}(l:List Value)(hl:l.length=n*4)(a b c d:Value):(l++[a,b,c,d])[n*4]? =some a∧(l++[a,b,c,d])[n*4+1]? =some b∧(l++[a,b,c,d])[n*4+2]? =some c∧(l++[a,b,c,d])[n*4+3]? =some d:=by
 refine ⟨?_,?_,?_,?_⟩
 ·rw [List.getElem?_append_right o_,hl,Nat.sub_self];rfl
 ·exact c73_
 ·exact c73_
 ·exact c73_
theorem qrv {w5 w6:World}{B n g5 gp i cap:Nat}{T:TypeId}{xs:List Value}{v:Value}(h:w5.ownsRow B T 4 (.slice (some ⟨g5,0,none⟩) n cap) n xs)(aa:g5≠gp)(hw:w6=w5.setCell ⟨gp,i,none⟩ v):w6.ownsRow B T 4 (.slice (some ⟨g5,0,none⟩) n cap) n xs:=by
 subst hw;exact (Chg.set (S:=[gp]) (by simp) v).own h (fun x hx=>by simp [Value.ownBlock] at hx;subst hx;simpa using aa)
theorem qCb (hF:Makes F Nd Gd Z)(h:RebI N Z M F Nd Gd root wl B gp cap X T2 T4 e (f::Q) w)(hn:¬ e.R.length<e.t.args.length){u:TermM}{vu:Value}(hf:F e.t (e.R.map Prod.fst)=some u)(hb:Bnd u)(ab:Below w.heap.size w w1)
  (hu:FormP 21 0 w.heap.size (tmr.qb0 ((gp::dvB (e::f::Q))++X) w) u w1 vu) (hb2:Below w1.heap.size w1 w2) {gd cd i k:Nat} (ac:f.dv.ownBlock=some gd∨gd=w2.heap.size) (aa:gd<w3.heap.size)
  (hg:w2.grownBy w3 f.dv.ownBlock) (hk:k=f.R.length) (hi:i=Q.length) (hr:w3.ownsRow B T4 4 (.slice (some ⟨gd,0,none⟩) (k+1) cd) (k+1) (rowV (f.R++[(u,vu)]))):
  RebI N Z M F Nd Gd root wl B gp cap X T2 T4 (putE f u vu (.slice (some ⟨gd,0,none⟩) (k+1) cd)) Q (w3.setCell ⟨gp,i*2+1,none⟩ (.slice (some ⟨gd,0,none⟩) (k+1) cd)):=by
 subst hk hi;exact RebI.pop hF h hn hf hb ab hu hb2 rfl ac aa hg hr
theorem qCu (hF:Makes F Nd Gd Z)(h:RebI N Z M F Nd Gd root wl B gp cap X T2 T4 e (f::Q) w)(hn:¬ e.R.length<e.t.args.length){u:TermM}{vu:Value}(hf:F e.t (e.R.map Prod.fst)=some u)(hb:Bnd u)(ae:Below w.heap.size w w1)
  (hu:FormP 21 0 w.heap.size (tmr.qb0 ((gp::dvB (e::f::Q))++X) w) u w1 vu) (hb2:Below w1.heap.size w1 w2) {gd cd i k:Nat} (ac:f.dv.ownBlock=some gd∨gd=w2.heap.size) (ad:gd<w3.heap.size) (hsz:w.heap.size≤w2.heap.size)
  (hg:w2.grownBy w3 f.dv.ownBlock) (hk:k=f.R.length) (hi:i=Q.length) {z0 z1 z2 z3:Value} (hr:w3.ownsRow B T4 4 (.slice (some ⟨gd,0,none⟩) (k+1) cd) (k+1) (rowV f.R++[z0,z1,z2,z3])):
  RebI N Z M F Nd Gd root wl B gp cap X T2 T4 (putE f u vu (.slice (some ⟨gd,0,none⟩) (k+1) cd)) Q (put4 (w3.setCell ⟨gp,i*2+1,none⟩ (.slice (some ⟨gd,0,none⟩) (k+1) cd)) gd (k*4) (.int .i64 u.op) (.string (bstr u.name)) (.int .i64 u.sort) vu):=by
 have af:gp≠gd:=by
  intro e';subst e';rcases ac with h1|h1
  ·have aa:=h.path.apart
   rw [List.nodup_cons] at aa;exact aa.1 (qed (e:=f) (by simp) h1)
  ·have:=(h.path.lt gp (by simp)).2
   omega
 rw [qwf _ af];have ab:f.dv.ownBlock=some gd∨w2.heap.size≤gd:=ac.imp id (fun h=>by omega);refine qCb (w2:=w2) (w3:=put4 w3 gd (k*4) (.int .i64 u.op) (.string (bstr u.name)) (.int .i64 u.sort) vu) hF h hn hf hb ae hu hb2 ac (by simpa [put4,World.setCell] using ad) (qap (qap (qap (qap hg ab _) ab _) ab _) ab _) hk hi (qz1 hk hr u vu)
end
theorem qwg:(Tryz.prog.info? 215).map (fun i=>(i.zero,i.size,i.bytes))=some (some (.agg #[.pointer none,.slice none 0 0]),2,32):=by kernel_rfl
theorem qqy (w:World)(u v:Value)(t:TypeId)(b:Nat)(h:b=w.heap.size):∀ (j:Nat) (x:Value),[u,v][j]? =some x→(w.alloc (.cells #[u,v] t)).cell? ((⟨b,0,none⟩:Addr).add j)=some x:=by
 subst h;exact termx.qe2 w u v t
def RebP (F:TermM→List TermM→Option TermM)(Gd:TermM→Prop)(X0:List Nat)(root:TermM)(w:World)(ex:Ending)(w':World):Prop:=
 ∃ u vu r,ex=.returned (.tuple #[aggT u vu,.bool r])∧(r=false→rebM F root=none∧u=zT)∧(r=true→rebM F root=some u∧Gd u∧Bnd u)∧HasTs 22 0 (tmr.qb0 X0 w') vu u.args∧Below w.heap.size w w'
theorem c71_ {p:Prop}(h:p:=by
 (try dsimp only);first|(exact aa.1)|(exact aa.2.1 _)|(exact ad.out _ (by repeat (first|exact Below.refl _ _|refine Below.drew ?_|refine Below.alloc ?_ (by first|(simp;done)|(simp;omega)) _)))
):p:=h
theorem c72_ {p:Prop}(h:p:=by
 rcases aj with h5|h5
 ·exact (ai.out g5 h5).1
 ·have h6:g5=w4.heap.size+1:=by rw [h5];simp
  omega
):p:=h
set_option maxRecDepth 100000 in
set_option maxHeartbeats 16000000 in
theorem qpl {N Z M:Nat}{F:TermM→List TermM→Option TermM}{Nd Gd:TermM→Prop}(f:Nat)(bu cb:Array Value)(eg:∀ args w,(callFunc f args).run Tryz.prog w=.ok (.enter f args) w)(hF:Makes F Nd Gd Z)(hZ:Z*M≤1048576+Z)(hM:M≤1048577)(root:TermM)(aZ:size root≤M)(cL:Nd root)(g0 o0:Nat)(v0:Value)(w:World)(X0:List Nat)(b9:∀ k∈X0,k<w.heap.size)(hb:qzz f bu cb N X0 F Nd Gd w)
  (hn:qhf N w ⟨g0,o0,root,v0,[],.slice none 0 0⟩):Calls Tryz.prog 96 #[.pointer (some ⟨g0,o0,none⟩),.func (.func f) bu cb] w (RebP F Gd X0 root w):=by
 have cM:=z_ hb;have cc:=z_ hn;have HF:=z_ hF;obtain ⟨j0,bv,bw,bx,bz⟩:=info_parts qwg;obtain ⟨j4,au,bg,bh,bi⟩:=info_parts qb1;obtain ⟨O,cN,aD⟩:∃ O,(∀ W,(Instr.makeSlice 213 (.int .i64 0) (.int .i64 20)).run Tryz.prog W=.ok (.slice (some ⟨W.heap.size,0,none⟩) 0 20) (W.alloc O))∧∀ W:World,(W.alloc O).ownsRow W.heap.size 215 2 (.slice (some ⟨W.heap.size,0,none⟩) 0 20) 0 []:=by
  refine ⟨.cells (madeCells (Value.agg #[.pointer none,.slice none 0 0]).cells ((20:Int).toNat*j0.size)) 215,fun W=>?_,fun W=>?_⟩
  ·exact run_make W _ _ _ _ Tryz.underlying213 bv bw .i64 .i64 0 20 o_ o_ (by rw [bz];omega) o_
  ·exact World.ownsRow_made W _ 20 n_ (by unfold maxLen;omega) (by rw [size_madeCells,bx];rfl)
 have a2:=z_ (aD (w.alloc (.cells #[.int .i64 0,.string { data:=#[] },.int .i64 0,.slice none 0 0] 38)));rw [show (w.alloc (.cells #[.int .i64 0,.string { data:=#[] },.int .i64 0,.slice none 0 0] 38)).heap.size=w.heap.size+1 by simp] at a2;have av:Below w.heap.size w (w.alloc (.cells #[.int .i64 0,.string { data:=#[] },.int .i64 0,.slice none 0 0] 38)):=b_.alloc n_ _;have aH:(w.alloc (.cells #[.int .i64 0,.string { data:=#[] },.int .i64 0,.slice none 0 0] 38)).heap[w.heap.size]? =some (.cells #[.int .i64 0,.string { data:=#[] },.int .i64 0,.slice none 0 0] 38 (0,0)):=termt.qa5 _ _ _ rfl;have a6:=z_ aH;have ce:=z_ av;clear hb hn hF aD av aH;go_enter Tryz.func96,Tryz.ntmps96
 go_wp2_with (at_builtin;go_loud (refine qaw rfl _ _ _ rfl (w.heap.size+1) 215 j0 _ 2 32 Tryz.underlying213 bv bw bx bz rfl o_ (w.heap.size+1) 0 20 [] rfl (qa2 a2.out (b_.alloc n_ _)) ⟨w.heap.size+2,0,none⟩ 1 1 [.pointer (some ⟨g0,o0,none⟩),.slice none 0 0] rfl rfl (qqy _ _ _ _ _ (by simp)) (termx.qgg rfl rfl) (by unfold maxLen;omega) o_ (by first|(simp;done)|(simp;omega)) ?_);intro g' cap' w1 aE a7 hg1 bA bB)
 have aX:Below (w.heap.size+1) (w.alloc (.cells #[.int .i64 0,.string { data:=#[] },.int .i64 0,.slice none 0 0] 38)) w1:=by
  refine Below.grown ?_ a7 (by first|(simp;done)|(simp;omega)) (by intro k hk;cases hk;exact Nat.le_refl _);exact (b_.alloc (by simp) _).alloc (by first|(simp;done)|(simp;omega)) _
 have am:Hid (RebI N Z M F Nd Gd root w (w.heap.size+1) g' cap' (w.heap.size::X0) 215 38 ⟨g0,o0,root,v0,[],.slice none 0 0⟩ [] w1):=z_ (RebI.start ⟨ce.out.trans (aX.mono (Nat.le_succ _)),Nat.le_succ _,aE,by simpa using cc.out,trivial,by
   intro x hx;simp at hx;subst hx;exact ⟨rfl,.inl ⟨rfl,rfl⟩⟩,by simp [dvB,Value.ownBlock],(by
   intro x hx y hy;simp at hx;subst hx
   cases hy),by intro q hq;rcases List.mem_cons.1 hq with rfl|hq;(exact Nat.lt_succ_self _);(exact Nat.lt_succ_of_lt (b9 q hq))⟩ rfl rfl aZ cL)
 have HX:Hid (w1.heap[w.heap.size]? =some (.cells #[.int .i64 0,.string { data:=#[] },.int .i64 0,.slice none 0 0] 38 (0,0))):=z_ ((aX.block _ (Nat.lt_succ_self _)).trans a6.out);clear aE a7 hg1 bA bB aX cN a6 ce a2 cc;go_wp2;go_loopg [6] (left root [] []) (fun gk v6 wr=>∃ (e:Ent) (Q:List Ent) (gp cap:Nat),v6=.slice (some ⟨gp,0,none⟩) (Q.length+1) cap∧Hid (left e.t (e.R.map Prod.fst) (Q.map pair)≤gk)∧Hid (RebI N Z M F Nd Gd root w (w.heap.size+1) gp cap (w.heap.size::X0) 215 38 e Q wr)∧Hid (wr.heap[w.heap.size]? =some (.cells #[.int .i64 0,.string { data:=#[] },.int .i64 0,.slice none 0 0] 38 (0,0))))
 case atStart=>exact ⟨_,[],g',cap',rfl,z_ n_,am,HX⟩
 case round=>
  clear am HX;obtain ⟨⟨ge,oe,t,v,R,dv⟩,Q,gp,cap,rfl,bC,HI,HX⟩:=hrel;obtain ⟨k,hk⟩:=e_ (Q.length);have HK:=z_ hk;rw [← hk];have hlen:=HI.out.len;have hown:=HI.out.path.row;obtain ⟨cg,ch⟩:=qd5 (e:=⟨ge,oe,t,v,R,dv⟩) hk;have ag:wr.ownsRow (w.heap.size+1) 215 2 (.slice (some ⟨gp,0,none⟩) (k+1) cap) (k+1) (qbd (⟨ge,oe,t,v,R,dv⟩::Q)):=by rw [hk];exact hown
  have s1:=(ag.cellAt (k*2) o_).trans cg;have s2:=(ag.cellAt (k*2+1) o_).trans ch;obtain ⟨Ad,cd,ci,_⟩:=qae (HI.out.path.done _ List.mem_cons_self);simp only [] at ci s1 s2;subst ci;obtain ⟨⟨n0,n1,n2,n3⟩,bj,bD,_,bE⟩:=HI.out.path.node _ List.mem_cons_self;simp only [] at n0 n1 n2 n3 bj bD bE;obtain ⟨Aa,ca,rfl,_⟩:=HasR.shape bj rfl;have aY:=HI.out.path.below;have bk:=l_ n0;simp only [] at bk;have m0:=(aY.cell (p:=⟨ge,oe,none⟩) bk).trans n0;have m3:=(aY.cell (p:=⟨ge,oe+3,none⟩) bk).trans n3;have cj:ge<wr.heap.size:=w_ bk aY.size;have hwz:=aY.size;have dh:w.heap.size+1≤gp∧gp<wr.heap.size:=HI.out.path.lt gp (by simp);have cO:=z_ ag;have cP:=z_ bj;have di:=z_ bD;have bF:=z_ bE;have dj:=z_ aY;obtain ⟨m,hm⟩:=e_ (R.length);obtain ⟨al,bl⟩:=e_ (t.args.length);have aI:=z_ (And.intro hm bl);rw [← hm] at s2;rw [← bl] at m3;have cQ:k≤1048576:=o_;clear hk hlen hown cg ch n0 n1 n2 n3 bj bD bE ag aY;obtain ⟨wo,cR⟩:∃ wo,wo=wr:=⟨wr,rfl⟩;subst cR;have i1:(0:Int)≤(k:Int):=o_;have i2:(k:Int)<((k:Int)+1):=o_;have cS:(R.length≤t.args.length):=(HI.out.each _ List.mem_cons_self).2.1;have ck:al≤1048576:=by
   have h1:=(HI.out.each _ List.mem_cons_self).1;have h2:=termro.qao t;have h3:=qaq t.args;simp only [] at h1;omega
  rw [← hm,← bl] at cS;clear hm bl;obtain ⟨W1,aJ⟩:=e_ (wo.alloc (.cells #[.pointer (some ⟨ge,oe,none⟩),.slice Ad m cd] 215));have av:=fr1_ aJ;have cT:W1.heap.size=wo.heap.size+1:=by rw [aJ];simp
  have aH:=fr2_ aJ;have am:=z_ (next HI.out av);have a6:=z_ ((av.block _ o_).trans HX.out);have c0:W1.cell? ⟨wo.heap.size,0,none⟩=some (.pointer (some ⟨ge,oe,none⟩)):=h_ W1 _ 0 _ _ _ aH;have c1:W1.cell? ⟨wo.heap.size,1,none⟩=some (.slice Ad m cd):=h_ W1 _ 1 _ _ _ aH;have cl:=(av.cell (p:=⟨ge,oe+3,none⟩) cj).trans m3;have cm:=(av.cell (p:=⟨ge,oe,none⟩) cj).trans m0;by_cases hlt:m<al
  ·have d1:decide ((m:Int)<(al:Int))=true:=d_
   obtain ⟨kn,g2,o2,B2,cx,cn,rfl,_,hg2,f0,f1,f2,f3,co,aX⟩:=qaj cP.out (j:=m) (by have:=aI.out.2;omega);have aw:m<t.args.length:=by have:=aI.out.2;omega
   obtain ⟨x,hx⟩:∃ x:Ent,x=⟨g2,o2+m*4,t.args.getD m default,.slice B2 (t.args.getD m default).args.length cx,[],.slice none 0 0⟩:=⟨_,rfl⟩;have cp:Hid (qhf N w x):=z_ (by rw [hx];exact ⟨⟨f0,f1,f2,f3⟩,by rw [cn];exact co.up (Nat.le_succ _),aX,(bF.out 1 m aw g2 o2 ca rfl).1,fun q=>(bF.out (q+1) m aw g2 o2 ca rfl).2 _ f3⟩)
   have bG:Hid (qnl ⟨ge,oe,t,.slice (some ⟨g2,o2,none⟩) t.args.length ca,R,.slice Ad R.length cd⟩ x):=z_ (by
    rw [hx]
    exact ⟨by show R.length<t.args.length;rw [← aI.out.1];exact aw,by show t.args.getD m default=t.args.getD R.length default;rw [← aI.out.1]⟩)
   have cq:∀ y∈(⟨ge,oe,t,.slice (some ⟨g2,o2,none⟩) t.args.length ca,R,.slice Ad R.length cd⟩::Q:List Ent),¬ (y.g=g2∧y.o=o2+m*4):=fun y hy=>by
    have h1:=qfc (e:=x) (Q:=⟨ge,oe,t,.slice (some ⟨g2,o2,none⟩) t.args.length ca,R,.slice Ad R.length cd⟩::Q) ⟨bG.out,am.out.path.chain⟩ y hy;have h2:=qyo cp.out (am.out.path.node y hy) h1;rw [hx] at h2;exact h2
   have ct:Hid (∀ q,Calls Tryz.prog 159 #[.slice (some ⟨gp,0,none⟩) (k+1) cap,.pointer (some ⟨g2,o2+m*4,none⟩)] ((wo.alloc (.cells #[.pointer (some ⟨ge,oe,none⟩),.slice Ad m cd] 215)).drewN q) fun e w'=>e=.returned (.bool false)∧Below W1.heap.size W1 w'):=z_ (fun q=>by
    have aK:Below W1.heap.size W1 (W1.drewN q):=qa3 b_ q;have h:=qnv _ (by simp) (by have:=HK.out;simp only [List.length_cons];omega) _ gp cap g2 (o2+m*4) (W1.drewN q) (next am.out aK).path.row cq (fun y hy=>((am.out.path.node y hy).2.2.2.1.below am.out.path.below).below aK) (((bF.out 1 m aw g2 o2 ca rfl).1.below am.out.path.below).below aK);simp only [List.length_cons] at h;rw [← HK.out] at h;rw [← aJ];refine h.mono ?_;rintro e w' ⟨rfl,rfl⟩
    exact ⟨rfl,aK⟩)
   have i3:(0:Int)≤(m:Int):=o_;have i4:(m:Int)<(al:Int):=o_;have bm:=z_ hx;have dk:=aI;clear co aX cn cq hx f0 f1 f2 f3;go_wp2_with fail
   go_quiet (fail)
   go_wp2_with fail
   go_quiet (fail)
   go_wp2_with fail
   refine (ct.out _).mono ?_;rintro e' w2 ⟨rfl,hb2⟩;have cv:=z_ (next am.out hb2);have bn:=z_ ((hb2.block _ o_).trans a6.out);have ah:=cv.out.path.row;simp only [List.length_cons] at ah;rw [← HK.out] at ah;have a2:=z_ ah;have dl:w.heap.size+1≤w2.heap.size:=by have:=hb2.size;omega
   have cU:gp<w2.heap.size:=by have:=hb2.size;omega
   clear ah aJ aH av hb2 c0 c1 m0 cm m3 cl s1 s2 ct;go_wp2_with (at_builtin;go_loud (refine qaw rfl _ _ _ rfl (w.heap.size+1) 215 j0 _ 2 32 Tryz.underlying213 bv bw bx bz rfl o_ gp (k+1) cap (qbd (⟨ge,oe,t,.slice (some ⟨g2,o2,none⟩) t.args.length ca,R,.slice Ad R.length cd⟩::Q)) rfl (qa2 a2.out (b_.alloc n_ _)) ⟨w2.heap.size,0,none⟩ 1 1 [.pointer (some ⟨g2,o2+m*4,none⟩),.slice none 0 0] rfl rfl (qqy _ _ _ _ _ rfl) (termx.qgg rfl rfl) (by unfold maxLen;omega) o_ (by first|(simp;done)|(simp;omega)) ?_);intro g4 a8 w4 aF aL hg4 bH bI)
   have bJ:Below w2.heap.size w2 (w2.alloc (.cells #[.pointer (some ⟨g2,o2+m*4,none⟩),.slice none 0 0] 215)):=b_.alloc n_ _
   have cV:Hid (RebI N Z M F Nd Gd root w (w.heap.size+1) g4 a8 (w.heap.size::X0) 215 38 x (⟨ge,oe,t,.slice (some ⟨g2,o2,none⟩) t.args.length ca,R,.slice Ad R.length cd⟩::Q) w4):=z_ (by
    refine (next cv.out bJ).push HF.out cp.out bG.out (by rw [bm.out]) (by rw [bm.out]) ?_ aL hg4;have e1:(⟨ge,oe,t,.slice (some ⟨g2,o2,none⟩) t.args.length ca,R,.slice Ad R.length cd⟩::Q:List Ent).length.succ=k+1+1:=by rw [List.length_cons,← HK.out]
    rw [e1,bm.out]
    exact aF)
   have cW:Hid (w4.heap[w.heap.size]? =some (.cells #[.int .i64 0,.string { data:=#[] },.int .i64 0,.slice none 0 0] 38 (0,0))):=z_ ((aL.block _ (by first|(simp;done)|(simp;omega)) (by intro e';injection e';omega)).trans ((bJ.block _ o_).trans bn.out));have cw:=z_ (RebI.left_push (Q:=Q) bG.out (by rw [bm.out]));have an:Hid ((⟨ge,oe,t,.slice (some ⟨g2,o2,none⟩) t.args.length ca,R,.slice Ad R.length cd⟩::Q:List Ent).length=k+1):=z_ (by rw [List.length_cons,← HK.out]);clear aF aL hg4 bH bI bJ;go_wp2;go_roundg (gk-1)
   case measure=>have h1:=cw.out;have h2:=bC.out;(try simp only [] at h1 h2);omega
   case rel=>exact ⟨x,_,g4,a8,by rw [an.out],z_ (by have h1:=cw.out;have h2:=bC.out;(try simp only [] at h1 h2);omega),cV,cW⟩
  ·have d1:decide ((m:Int)<(al:Int))=false:=f_
   have aG:¬ R.length<t.args.length:=by have:=aI.out;omega
   have bo:=z_ aG
   have cy:Hid (∀ q,Calls Tryz.prog f (bu++(#[.pointer (some ⟨ge,oe,none⟩),.slice Ad m cd]++cb)) ((wo.alloc (.cells #[.pointer (some ⟨ge,oe,none⟩),.slice Ad m cd] 215)).drewN q) fun ex w'=>∃ WD u vu r,Below W1.heap.size W1 WD∧ex=.returned (.tuple #[aggT u vu,.bool r])∧(r=false→F t (R.map Prod.fst)=none)∧(r=true→F t (R.map Prod.fst)=some u∧Bnd u)∧FormP 21 0 WD.heap.size (tmr.qb0 ((gp::dvB (⟨ge,oe,t,.slice Aa t.args.length ca,R,.slice Ad R.length cd⟩::Q))++(w.heap.size::X0)) WD) u w' vu∧Below WD.heap.size WD w'):=z_ (fun q=>by
    have aK:Below W1.heap.size W1 (W1.drewN q):=qa3 b_ q;have aM:=next am.out aK;have h:=cM.out ((gp::dvB (⟨ge,oe,t,.slice Aa t.args.length ca,R,.slice Ad R.length cd⟩::Q))++(w.heap.size::X0)) ⟨ge,oe,t,.slice Aa t.args.length ca,R,.slice Ad R.length cd⟩ (W1.drewN q) aM.path.below (fun y hy=>(aM.path.all y hy).imp (fun h=>h.elim (fun h=>by rcases List.mem_cons.1 h with rfl|h;(exact .inr n_);(exact .inl h)) .inr) id) (aM.path.node _ List.mem_cons_self) (aM.each _ List.mem_cons_self).2.2.2.2 (aM.each _ List.mem_cons_self).2.2.1 aM.row (aM.rows hZ);have cX:R.length=m:=aI.out.1.symm;simp only [] at h;rw [← aJ];rw [cX] at h ⊢;refine h.mono ?_;rintro e w' ⟨u,vu,r,h1,h2,h3,h4,h5⟩
    exact ⟨_,u,vu,r,aK,h1,h2,h3,h4,h5⟩)
   clear aG;go_wp2_with fail
   go_quiet (fail)
   go_wp2_with fail
   refine (cy.out _).mono ?_;rintro ex w2 ⟨WD,u,vu,r,bp,rfl,cz,cA,bK,hb2⟩;have aq:=z_ (next am.out bp);have cY:=z_ ((bp.block _ o_).trans a6.out);have bL:=z_ bK;have cZ:=z_ cz;have c2:=z_ cA;have ba:=z_ hb2;have dm:wo.heap.size+1≤WD.heap.size:=by have:=bp.size;omega
   have c3:WD.heap.size≤w2.heap.size:=hb2.size;have cB:Sub (tmr.qb0 ((gp::dvB (⟨ge,oe,t,.slice Aa t.args.length ca,R,.slice Ad R.length cd⟩::Q))++(w.heap.size::X0)) WD) w2:=(qdb _ _).trans (Sub.below hb2);have bM:=bK w2 cB (Kept.refl _ _);obtain ⟨Au,cu,rfl,_⟩:=HasR.shape bM rfl;have dn:=z_ bM;have bn:Hid (w2.heap[w.heap.size]? =some (.cells #[.int .i64 0,.string { data:=#[] },.int .i64 0,.slice none 0 0] 38 (0,0))):=z_ ((hb2.block _ o_).trans cY.out);unfold aggT;obtain ⟨uo,bN⟩:=e_ (u.op);obtain ⟨un,bO⟩:=e_ (u.name);obtain ⟨us,bP⟩:=e_ (u.sort);obtain ⟨ul,bQ⟩:=e_ (u.args.length);have bR:=z_ (And.intro bN (And.intro bO (And.intro bP bQ)));rw [← bN,← bO,← bP,← bQ];clear aJ aH av bp bK cz cA hb2 cB bM bN bO bP bQ c0 c1 m0 cm m3 cl s1 s2 cy;obtain ⟨W3,ax⟩:=e_ (w2.alloc (.cells #[.int .i64 uo,.string (bstr un),.int .i64 us,.slice Au ul cu] 38));have bS:=fr1_ ax;have dp:=fr3_ ax;have c4:=fr2_ ax;obtain ⟨b0,b1,b2,b3⟩:=grami.box4 c4;have bb:=z_ ((bS.block _ o_).trans bn.out);obtain ⟨z0,z1,z2,z3⟩:=grami.box4 bb.out;have q0:W3.frozen? ⟨w.heap.size,0,none⟩=false:=g_ W3 _ 0 _ _ bb.out;have q1:W3.frozen? ⟨w.heap.size,1,none⟩=false:=g_ W3 _ 1 _ _ bb.out;have q2:W3.frozen? ⟨w.heap.size,2,none⟩=false:=g_ W3 _ 2 _ _ bb.out;have q3:W3.frozen? ⟨w.heap.size,3,none⟩=false:=g_ W3 _ 3 _ _ bb.out;have bc:=z_ bS;have bq:=z_ aq.out.path.below;have cC:Hid (Below w.heap.size w W3):=z_ ((bq.out.trans (ba.out.mono bq.out.size)).trans (bS.mono (by have:=bq.out.size;omega)));cases r with
   | false=>
    have aN:Hid (∀ u0 u1 u2 u3,RebP F Gd X0 root w (.returned (.tuple #[.agg #[.int .i64 0,.string { data:=#[] },.int .i64 0,.slice none 0 0],.bool false])) (set4 W3 w.heap.size u0 u1 u2 u3)):=z_ (fun u0 u1 u2 u3=>
     ⟨zT,.slice none 0 0,false,rfl,fun _=>⟨aq.out.fail bo.out (cZ.out rfl),rfl⟩,fun h=>(by cases h),HasR.nil _ _ _ (by unfold maxLen;omega) _,qa6 cC.out n_ _ _ _ _⟩)
    go_upto_region 10 with fail
    rw [← ax];clear ax;go_wp2;refine bodyPost_ret (v:=.tuple #[.agg #[.int .i64 0,.string { data:=#[] },.int .i64 0,.slice none 0 0],.bool false]) (by simp [results,Tryz.results96,go_sem,z0,z1,z2,z3]) rfl ?_;exact aN.out _ _ _ _
   | true=>
    obtain ⟨bT,cD⟩:=c2.out rfl
    have aO:=z_ (And.intro bT (And.intro (HF.out.good (aq.out.each _ List.mem_cons_self).2.2.2.2 (fun a ha=>by
     obtain ⟨y,hy,rfl⟩:=List.mem_map.1 ha
     exact (aq.out.each _ List.mem_cons_self).2.2.1 y hy) bT) cD))
    clear bT cD;cases Q with
    | nil=>
     obtain rfl:k=0:=HK.out
     have aN:Hid (∀ u0 u1 u2 u3,RebP F Gd X0 root w (.returned (.tuple #[.agg #[.int .i64 uo,.string (bstr un),.int .i64 us,.slice Au ul cu],.bool true])) (set4 W3 w.heap.size u0 u1 u2 u3)):=z_ (fun u0 u1 u2 u3=>by
      obtain ⟨e1,e2,e3,e4⟩:=bR.out;have hc:Chg ((gp::dvB [⟨ge,oe,t,.slice Aa t.args.length ca,R,.slice Ad R.length cd⟩])++(w.heap.size::X0)) WD (set4 W3 w.heap.size u0 u1 u2 u3):=((((((Chg.of_below ba.out).trans (Chg.of_below bc.out)).trans (Chg.set (by simp) u0)).trans (Chg.set (by simp) u1)).trans (Chg.set (by simp) u2)).trans (Chg.set (by simp) u3));have hv:=bL.out (tmr.qb0 X0 (set4 W3 w.heap.size u0 u1 u2 u3)) (rebq.qdm hc (fun k hk=>.inl (by simp [hk]))) (((Kept.below bc.out n_).trans (qay o_ _ _ _ _)).trans (qk4 (fun k hk=>by have:=b9 k hk;have:=bq.out.size;omega)))
      exact ⟨u,.slice Au u.args.length cu,true,by unfold aggT;rw [← e1,← e2,← e3,← e4],fun h=>(by cases h),fun _=>⟨aq.out.last bo.out aO.out.1,aO.out.2.1,aO.out.2.2⟩,hv,qa6 cC.out n_ _ _ _ _⟩)
     go_upto_region 10 with fail
     rw [← ax];clear ax;go_wp2;refine bodyPost_ret (v:=.tuple #[.agg #[.int .i64 uo,.string (bstr un),.int .i64 us,.slice Au ul cu],.bool true]) (by simp [results,Tryz.results96,go_sem,z0,z1,z2,z3]) rfl ?_;exact aN.out _ _ _ _
    | cons fe Q=>
     obtain ⟨gf,og,tf,vf,Rf,df⟩:=fe;obtain ⟨kk,rfl⟩:∃ kk,k=kk+1:=⟨Q.length,by have:=HK.out;simpa using this⟩;have an:Hid (kk=Q.length):=z_ (by have:=HK.out;simpa using this);obtain ⟨Af,cf,cE,_⟩:=qae (aq.out.path.done ⟨gf,og,tf,vf,Rf,df⟩ (by simp));simp only [] at cE;subst cE;have bd:=z_ (next (next aq.out ba.out) bc.out);have br:W3.ownsRow (w.heap.size+1) 215 2 (.slice (some ⟨gp,0,none⟩) (kk+1) cap) (kk+1) (qbd (⟨gf,og,tf,vf,Rf,.slice Af Rf.length cf⟩::Q)):=by
      have h1:=bd.out.path.row;have e1:(⟨ge,oe,t,.slice Aa t.args.length ca,R,.slice Ad R.length cd⟩::⟨gf,og,tf,vf,Rf,.slice Af Rf.length cf⟩::Q:List Ent).length=kk+1+1:=by simp [an.out]
      rw [e1] at h1;have h2:=qek h1 (m:=kk+1) o_;rwa [qg2 (by simp [an.out])] at h2
     have c6:=z_ br;have dq:kk+1≤cap:=(termz.qe9 br).2.2;have p1:=(br.cellAt (kk*2+1) o_).trans (qd5 (e:=⟨gf,og,tf,vf,Rf,.slice Af Rf.length cf⟩) an.out).2;simp only [] at p1;have cF:Hid (W3.ownsRow (w.heap.size+1) 38 4 (.slice Af Rf.length cf) Rf.length (rowV Rf)):=z_ (bd.out.path.done ⟨gf,og,tf,vf,Rf,.slice Af Rf.length cf⟩ (by simp));have cG:Rf.length<tf.args.length:=bd.out.path.chain.1.1;have bU:tf.args.length≤1048576:=by
      have h1:=(bd.out.each ⟨gf,og,tf,vf,Rf,.slice Af Rf.length cf⟩ (by simp)).1;have h2:=termro.qao tf;have h3:=qaq tf.args;simp only [] at h1;omega
     have be:∀ q,(Value.slice Af Rf.length cf).ownBlock=some q→q≠gp∧w.heap.size+1≤q∧q<WD.heap.size:=fun q hq=>by
      have h0:=qed (e:=⟨gf,og,tf,vf,Rf,.slice Af Rf.length cf⟩) (Q:=⟨ge,oe,t,.slice Aa t.args.length ca,R,.slice Ad R.length cd⟩::⟨gf,og,tf,vf,Rf,.slice Af Rf.length cf⟩::Q) (by simp) hq;refine ⟨fun e'=>?_,aq.out.path.lt q (List.mem_cons_of_mem _ h0)⟩;have h1:=bd.out.path.apart;rw [List.nodup_cons] at h1;subst e';exact h1.1 h0
     have ai:=z_ be
     have cH:Hid (∀ (wA w5:World) (g5 c5 n:Nat),n=Rf.length→Below w2.heap.size w2 wA→wA.grownBy w5 (Value.slice Af n cf).ownBlock→((Value.slice Af n cf).ownBlock=some g5∨g5=wA.heap.size)→g5<w5.heap.size→w5.ownsRow (w.heap.size+1) 38 4 (.slice (some ⟨g5,0,none⟩) (n+1) c5) (n+1) (rowV Rf++[.int .i64 uo,.string (bstr un),.int .i64 us,.slice Au ul cu])→
       RebI N Z M F Nd Gd root w (w.heap.size+1) gp cap (w.heap.size::X0) 215 38 (putE ⟨gf,og,tf,vf,Rf,.slice Af Rf.length cf⟩ u (.slice Au u.args.length cu) (.slice (some ⟨g5,0,none⟩) (n+1) c5)) Q (w5.setCell ⟨gp,kk*2+1,none⟩ (.slice (some ⟨g5,0,none⟩) (n+1) c5))):=z_ (fun wA w5 g5 c5 n hn hA hg bV hlt ho=>by
      obtain ⟨e1,e2,e3,e4⟩:=bR.out;subst hn;refine qCb HF.out aq.out bo.out aO.out.1 aO.out.2.2 ba.out bL.out hA bV hlt hg rfl an.out ?_;rw [qbv,← e4];show w5.ownsRow _ _ _ _ _ (rowV Rf++[.int .i64 u.op,.string (bstr u.name),.int .i64 u.sort,.slice Au ul cu]);rw [← e1,← e2,← e3]
      exact ho)
     have cI:Hid (∀ (wA w5:World) (g5 c5 n:Nat) (y0 y1 y2 y3:Value),n=Rf.length→Below w2.heap.size w2 wA→wA.grownBy w5 (Value.slice Af n cf).ownBlock→((Value.slice Af n cf).ownBlock=some g5∨g5=wA.heap.size)→g5<w5.heap.size→w5.ownsRow (w.heap.size+1) 38 4 (.slice (some ⟨g5,0,none⟩) (n+1) c5) (n+1) (rowV Rf++[y0,y1,y2,y3])→
       RebI N Z M F Nd Gd root w (w.heap.size+1) gp cap (w.heap.size::X0) 215 38 (putE ⟨gf,og,tf,vf,Rf,.slice Af Rf.length cf⟩ u (.slice Au u.args.length cu) (.slice (some ⟨g5,0,none⟩) (n+1) c5)) Q (put4 (w5.setCell ⟨gp,kk*2+1,none⟩ (.slice (some ⟨g5,0,none⟩) (n+1) c5)) g5 (n*4) (.int .i64 uo) (.string (bstr un)) (.int .i64 us) (.slice Au ul cu))):=z_ (fun wA w5 g5 c5 n y0 y1 y2 y3 hn hA hg bV hlt ho=>by
      obtain ⟨e1,e2,e3,e4⟩:=bR.out;subst hn;rw [e1,e2,e3,e4]
      exact qCu HF.out aq.out bo.out aO.out.1 aO.out.2.2 ba.out bL.out hA bV hlt (by have:=hA.size;omega) hg rfl an.out ho)
     have bs:Hid (∀ g5 c5 n,left (putE ⟨gf,og,tf,vf,Rf,.slice Af Rf.length cf⟩ u (.slice Au u.args.length cu) (.slice (some ⟨g5,0,none⟩) (n+1) c5)).t ((putE ⟨gf,og,tf,vf,Rf,.slice Af Rf.length cf⟩ u (.slice Au u.args.length cu) (.slice (some ⟨g5,0,none⟩) (n+1) c5)).R.map Prod.fst) (Q.map pair)<gk):=z_ (fun g5 c5 n=>w_ (RebI.left_pop (e:=⟨ge,oe,t,.slice Aa t.args.length ca,R,.slice Ad R.length cd⟩)) bC.out)
     have cJ:Hid (∀ (wA w5:World),Below w2.heap.size w2 wA→wA.grownBy w5 (Value.slice Af Rf.length cf).ownBlock→w5.heap[w.heap.size]? =some (.cells #[.int .i64 0,.string { data:=#[] },.int .i64 0,.slice none 0 0] 38 (0,0))):=z_ (fun wA w5 hA hg=>by
      refine (hg.block _ (by have:=hA.size;omega) (fun e'=>?_)).trans ((hA.block _ o_).trans bn.out);have:=(ai.out _ e'.symm).2.1
      omega)
     obtain ⟨n,hn⟩:=e_ (Rf.length);have HN:=z_ hn;rw [← hn] at p1 cG cF cJ ai;have c7:n≤1048576:=o_;clear br be hn cG bU z0 z1 z2 z3 q0 q1 q2 q3;have c8:(kk:Int)+1≤(cap:Int):=o_;have d7:(((kk:Int)+1)==0)=false:=by simp;omega
     have d8:decide ((kk:Int)+1=0)=false:=f_;go_upto_region 10 with fail
     rw [← ax];clear ax;go_upto_region 15 with fail
     go_cut [71] (fun c9 wx=>∃ b:Bool,c9=Value.bool b∧Below W3.heap.size W3 wx)
     case first=>
      go_region
      all_goals (go_wp2_with fail;go_meet;refine ⟨_,rfl,?_⟩;repeat (first|exact Below.refl _ _|refine Below.drew ?_|refine qa3 ?_ _|refine Below.alloc ?_ (by first|(simp;done)|(simp;omega)) _|refine Below.setCell ?_ (by first|(simp;done)|(simp;omega)) _))
     case rest=>
      obtain ⟨b,rfl,aP⟩:=hcut;obtain ⟨w4,rfl⟩:∃ w4,w4=wc:=⟨wc,rfl⟩;have cK:W3.heap.size≤w4.heap.size:=aP.size;have dr:w.heap.size+1≤w4.heap.size:=o_;have da:gp<w4.heap.size:=o_;have dt:¬ w4.heap.size=gp:=o_;have db:¬ gp=w4.heap.size:=o_;have du:=(aP.cell (p:=⟨gp,kk*2+1,none⟩) (show gp<W3.heap.size by omega)).trans p1;have bW:=z_ (qa2 c6.out aP);have ay:=z_ (qa2 cF.out aP);have az:w2.heap.size<W3.heap.size:=o_
      have ad:Hid (∀ w',Below w4.heap.size w4 w'→w'.cell? ⟨w2.heap.size,0,none⟩=some (.int .i64 uo)∧w'.cell? ⟨w2.heap.size,1,none⟩=some (.string (bstr un))∧w'.cell? ⟨w2.heap.size,2,none⟩=some (.int .i64 us)∧w'.cell? ⟨w2.heap.size,3,none⟩=some (.slice Au ul cu)):=z_ (fun w' h'=>by
       have h2:=aP.trans (h'.mono cK)
       exact ⟨(h2.cell (p:=⟨w2.heap.size,0,none⟩) az).trans b0,(h2.cell (p:=⟨w2.heap.size,1,none⟩) az).trans b1,(h2.cell (p:=⟨w2.heap.size,2,none⟩) az).trans b2,(h2.cell (p:=⟨w2.heap.size,3,none⟩) az).trans b3⟩)
      have bf:Hid (∀ w',Below w4.heap.size w4 w'→Below w2.heap.size w2 w'):=z_ (fun w' h'=>bc.out.trans ((aP.trans (h'.mono cK)).mono bc.out.size));have bX:gp≠w2.heap.size:=o_
      have bt:Hid (∀ (wA w5:World),Below w4.heap.size w4 wA→wA.grownBy w5 (Value.slice Af n cf).ownBlock→(w5.cell? ⟨w2.heap.size,0,none⟩=some (.int .i64 uo)∧w5.cell? ⟨w2.heap.size,1,none⟩=some (.string (bstr un))∧w5.cell? ⟨w2.heap.size,2,none⟩=some (.int .i64 us)∧w5.cell? ⟨w2.heap.size,3,none⟩=some (.slice Au ul cu))∧
        (∀ v,(w5.setCell ⟨gp,kk*2+1,none⟩ v).cell? ⟨w2.heap.size,0,none⟩=some (.int .i64 uo)∧(w5.setCell ⟨gp,kk*2+1,none⟩ v).cell? ⟨w2.heap.size,1,none⟩=some (.string (bstr un))∧(w5.setCell ⟨gp,kk*2+1,none⟩ v).cell? ⟨w2.heap.size,2,none⟩=some (.int .i64 us)∧(w5.setCell ⟨gp,kk*2+1,none⟩ v).cell? ⟨w2.heap.size,3,none⟩=some (.slice Au ul cu))∧
        (w5.cell? ⟨gp,kk*2+1,none⟩=some (.slice Af n cf)∧w5.frozen? ⟨gp,kk*2+1,none⟩=false)∧(∀ v,(w5.setCell ⟨gp,kk*2+1,none⟩ v).heap[w.heap.size]? =some (.cells #[.int .i64 0,.string { data:=#[] },.int .i64 0,.slice none 0 0] 38 (0,0)))):=z_ (fun wA w5 hA hg=>by
       have dw:=hA.size;obtain ⟨d0,d1,d2,d3⟩:=ad.out wA hA
       have dc:some w2.heap.size≠(Value.slice Af n cf).ownBlock:=fun e'=>by
        have:=(ai.out _ e'.symm).2.2;omega
       have c:∀ i,w5.cell? ⟨w2.heap.size,i,none⟩=wA.cell? ⟨w2.heap.size,i,none⟩:=fun i=>hg.cell_far ⟨w2.heap.size,i,none⟩ (by show w2.heap.size<_;omega) dc
       have k:∀ v i,(w5.setCell ⟨gp,kk*2+1,none⟩ v).cell? ⟨w2.heap.size,i,none⟩=w5.cell? ⟨w2.heap.size,i,none⟩:=fun v i=>World.cell?_setCell_other w5 ⟨gp,kk*2+1,none⟩ ⟨w2.heap.size,i,none⟩ v (fun e'=>bX (congrArg Addr.block e'))
       have ho:=World.ownsRow.kept (qa2 bW.out hA) hg (.inr (fun e'=>(ai.out gp (by rw [← e'];rfl)).1 rfl));have bU:=qd5 (e:=⟨gf,og,tf,vf,Rf,.slice Af Rf.length cf⟩) (Q:=Q) an.out;have bY:=(ho.cellAt (kk*2+1) o_).trans bU.2;simp only [] at bY;rw [← HN.out] at bY;refine ⟨⟨(c 0).trans d0,(c 1).trans d1,(c 2).trans d2,(c 3).trans d3⟩,fun v=>⟨(k v 0).trans ((c 0).trans d0),(k v 1).trans ((c 1).trans d1),(k v 2).trans ((c 2).trans d2),(k v 3).trans ((c 3).trans d3)⟩,⟨bY,ho.frozenAt _⟩,fun v=>?_⟩;rw [Below.heap_setCell w5 ⟨gp,kk*2+1,none⟩ v w.heap.size (by show w.heap.size≠gp;omega)]
       exact cJ.out wA w5 (bf.out _ hA) hg)
      have dx:(0:Int)≤(kk:Int):=o_;have dy:IntKind.i64.wrap (kk:Int)=(kk:Int):=IntWalk.i64_in _ o_;have dz:(0:Int)≤(kk:Int)∧(kk:Int)<(kk:Int)+1:=o_;have dA:(kk:Int)<(kk:Int)+1:=o_;clear p1 b0 b1 b2 b3 aP;cases b with
      | false=>
       go_wp2_with fail
       refine wp_region_noPanic ?_;refine wp_region_held_drew (S:=(fun w'=>w'.cell? ⟨w2.heap.size,0,none⟩=some (.int .i64 uo)∧w'.cell? ⟨w2.heap.size,1,none⟩=some (.string (bstr un))∧w'.cell? ⟨w2.heap.size,2,none⟩=some (.int .i64 us)∧w'.cell? ⟨w2.heap.size,3,none⟩=some (.slice Au ul cu))) k_ ?_ (fun ao=>?_)
       ·exact ad.out _ b_.drew
       refine t_k 0 ?_;refine t_k 1 ?_;refine t_k 2 ?_;refine t_k 3 ?_;refine t_k 4 ?_;refine t_k 5 ?_;refine t_k 6 ?_;refine t_k 7 ?_;refine t_k 9 ?_;refine r_d [8,10] ?_;refine c_s (fun K hK=>?_) ?_
       ·go_simp
        refine k_o hK ?_ (fun aQ=>?_)
        ·exact c71_
        clear hK K ao;refine r_d [10] ?_;refine c_s (fun K hK=>?_) ?_
        ·go_simp
         refine k_o hK ?_ (fun aR=>?_)
         ·exact c71_
         clear hK K aQ;refine r_d [11] ?_;refine c_s (fun K hK=>?_) ?_
         ·((refine step_append_lies _ (by rfl) _ _ _ (by rfl) (w.heap.size+1) 38 j4 _ 4 56 Tryz.underlying36 au bg bh bi rfl o_ (.slice Af n cf) n (rowV Rf) (by rfl) (qa2 ay.out (by repeat (first|exact Below.refl _ _|refine Below.drew ?_|refine Below.alloc ?_ (by first|(simp;done)|(simp;omega)) _))) ⟨_,0,none⟩ 1 1 [.int .i64 uo,.string (bstr un),.int .i64 us,.slice Au ul cu] (by rfl) (by rfl) (fun q x hq=>qj0 _ _ _ _ _ _ q x hq) (qcv rfl rfl rfl rfl) o_ (by unfold maxLen;omega) o_ (by first|(simp;done)|(simp;omega)) _ rfl ?_;intro g5 c5 w5 ab ac aj af;have aa:=bt.out _ w5 (by repeat (first|exact Below.refl _ _|refine Below.drew ?_|refine Below.alloc ?_ (by first|(simp;done)|(simp;omega)) _)) ac))
          refine k_o hK ?_ (fun aS=>?_)
          ·exact c71_
          clear hK K aR;refine t_k 12 ?_;refine t_k 13 ?_;refine r_d [14] ?_;refine c_s (fun K hK=>?_) ?_
          ·(have bZ:=aa.2.2.1.1;have b4:=aa.2.2.1.2;go_simp)
           refine k_o hK ?_ (fun b5=>?_)
           ·exact c71_
           clear hK K aS;refine wpAnyH_done k_ ?_ _;refine NoPanic.normal ?_;have aA:=z_ (cH.out _ w5 g5 c5 n HN.out (bf.out _ (by repeat (first|exact Below.refl _ _|refine Below.drew ?_|refine Below.alloc ?_ (by first|(simp;done)|(simp;omega)) _))) ac aj af ab);have aB:=z_ (aa.2.2.2 (.slice (some ⟨g5,0,none⟩) (n+1) c5));have ap:=z_ (bs.out g5 c5 n);clear ab ac aj aa;go_wp2;go_roundg (gk-1)
           case measure=>have:=ap.out;omega
           case rel=>exact ⟨_,Q,gp,cap,by rw [← an.out],z_ (by have:=ap.out;omega),aA,aB⟩
          exact a_l
         exact a_l
        exact a_l
       refine c_s (fun K hK=>?_) ?_
       ·go_simp
        refine k_o hK ?_ (fun aT=>?_)
        ·exact c71_
        clear hK K ao;refine r_d [8] ?_;refine c_s (fun K hK=>?_) ?_
        ·go_simp
         refine k_o hK ?_ (fun aU=>?_)
         ·exact c71_
         clear hK K aT;refine r_d [11] ?_;refine c_s (fun K hK=>?_) ?_
         ·((refine step_append_lies _ (by rfl) _ _ _ (by rfl) (w.heap.size+1) 38 j4 _ 4 56 Tryz.underlying36 au bg bh bi rfl o_ (.slice Af n cf) n (rowV Rf) (by rfl) (qa2 ay.out (by repeat (first|exact Below.refl _ _|refine Below.drew ?_|refine Below.alloc ?_ (by first|(simp;done)|(simp;omega)) _))) ⟨_,0,none⟩ 1 1 [.int .i64 uo,.string (bstr un),.int .i64 us,.slice Au ul cu] (by rfl) (by rfl) (fun q x hq=>qj0 _ _ _ _ _ _ q x hq) (qcv rfl rfl rfl rfl) o_ (by unfold maxLen;omega) o_ (by first|(simp;done)|(simp;omega)) _ rfl ?_;intro g5 c5 w5 ab ac aj af;have aa:=bt.out _ w5 (by repeat (first|exact Below.refl _ _|refine Below.drew ?_|refine Below.alloc ?_ (by first|(simp;done)|(simp;omega)) _)) ac))
          refine k_o hK ?_ (fun aV=>?_)
          ·exact c71_
          clear hK K aU;refine t_k 12 ?_;refine t_k 13 ?_;refine r_d [14] ?_;refine c_s (fun K hK=>?_) ?_
          ·(have bZ:=aa.2.2.1.1;have b4:=aa.2.2.1.2;go_simp)
           refine k_o hK ?_ (fun b6=>?_)
           ·exact c71_
           clear hK K aV;refine wpAnyH_done k_ ?_ _;refine NoPanic.normal ?_;have aA:=z_ (cH.out _ w5 g5 c5 n HN.out (bf.out _ (by repeat (first|exact Below.refl _ _|refine Below.drew ?_|refine Below.alloc ?_ (by first|(simp;done)|(simp;omega)) _))) ac aj af ab);have aB:=z_ (aa.2.2.2 (.slice (some ⟨g5,0,none⟩) (n+1) c5));have ap:=z_ (bs.out g5 c5 n);clear ab ac aj aa;go_wp2;go_roundg (gk-1)
           case measure=>have:=ap.out;omega
           case rel=>exact ⟨_,Q,gp,cap,by rw [← an.out],z_ (by have:=ap.out;omega),aA,aB⟩
          exact a_l
         exact a_l
        exact a_l
       exact a_l
      | true=>
       go_wp2_with fail
       refine wp_region_noPanic ?_;refine wp_region_held_drew (S:=(fun w'=>w'.cell? ⟨w2.heap.size,0,none⟩=some (.int .i64 uo)∧w'.cell? ⟨w2.heap.size,1,none⟩=some (.string (bstr un))∧w'.cell? ⟨w2.heap.size,2,none⟩=some (.int .i64 us)∧w'.cell? ⟨w2.heap.size,3,none⟩=some (.slice Au ul cu))) k_ ?_ (fun ao=>?_)
       ·exact ad.out _ b_.drew
       refine t_k 0 ?_;refine t_k 1 ?_;refine t_k 2 ?_;refine t_k 3 ?_;refine t_k 4 ?_;refine t_k 5 ?_;refine t_k 6 ?_;refine t_k 7 ?_;refine t_k 9 ?_;refine r_d [8,11] ?_;refine c_s (fun K hK=>?_) ?_
       ·go_simp
        refine k_o hK ?_ (fun aQ=>?_)
        ·exact c71_
        clear hK K ao;refine t_k 10 ?_;refine r_d [11] ?_;refine c_s (fun K hK=>?_) ?_
        ·go_simp
         refine k_o hK ?_ (fun aR=>?_)
         ·exact c71_
         clear hK K aQ;refine r_d [12] ?_;refine c_s (fun K hK=>?_) ?_
         ·((refine step_append_lies _ (by rfl) _ _ _ (by rfl) (w.heap.size+1) 38 j4 _ 4 56 Tryz.underlying36 au bg bh bi rfl o_ (.slice Af n cf) n (rowV Rf) (by rfl) (qa2 ay.out (by repeat (first|exact Below.refl _ _|refine Below.drew ?_|refine Below.alloc ?_ (by first|(simp;done)|(simp;omega)) _))) ⟨_,0,none⟩ 1 1 [.int .i64 0,.string { data:=#[] },.int .i64 0,.slice none 0 0] (by rfl) (by rfl) (fun q x hq=>qj0 _ _ _ _ _ _ q x hq) (qcv rfl rfl rfl rfl) o_ (by unfold maxLen;omega) o_ (by first|(simp;done)|(simp;omega)) _ rfl ?_;intro g5 c5 w5 ab ac aj af;have aa:=bt.out _ w5 (by repeat (first|exact Below.refl _ _|refine Below.drew ?_|refine Below.alloc ?_ (by first|(simp;done)|(simp;omega)) _)) ac))
          refine k_o hK ?_ (fun aS=>?_)
          ·exact c71_
          clear hK K aR;refine t_k 13 ?_;refine t_k 14 ?_;refine r_d [15] ?_;refine c_s (fun K hK=>?_) ?_
          ·(have bZ:=aa.2.2.1.1;have b4:=aa.2.2.1.2;go_simp)
           refine k_o hK ?_ (fun b5=>?_)
           ·exact c71_
           clear hK K aS;refine wpAnyH_done k_ ?_ _;refine NoPanic.normal ?_;have aA:=z_ (cI.out _ w5 g5 c5 n _ _ _ _ HN.out (bf.out _ (by repeat (first|exact Below.refl _ _|refine Below.drew ?_|refine Below.alloc ?_ (by first|(simp;done)|(simp;omega)) _))) ac aj af ab);have aB:=z_ (aa.2.2.2 (.slice (some ⟨g5,0,none⟩) (n+1) c5));have ap:=z_ (bs.out g5 c5 n);have b7:w.heap.size+1≤g5:=qb4 ab g5 rfl;have aW:g5≠gp:=by
            exact c72_
           obtain ⟨w6,aC⟩:=e_ (w5.setCell ⟨gp,kk*2+1,none⟩ (.slice (some ⟨g5,0,none⟩) (n+1) c5));have ae:=qrv ab aW aC;have ak:=qbo Rf;rw [← HN.out] at ak;have e0:=(ae.cellAt (n*4) o_).trans (qcy (rowV Rf) ak _ _ _ _).1;have e1:=(ae.cellAt (n*4+1) o_).trans (qcy (rowV Rf) ak _ _ _ _).2.1;have e2:=(ae.cellAt (n*4+2) o_).trans (qcy (rowV Rf) ak _ _ _ _).2.2.1;have e3:=(ae.cellAt (n*4+3) o_).trans (qcy (rowV Rf) ak _ _ _ _).2.2.2;have t0:=ae.frozenAt (n*4);have t1:=ae.frozenAt (n*4+1);have t2:=ae.frozenAt (n*4+2);have t3:=ae.frozenAt (n*4+3);have dd:(0:Int)≤(n:Int):=o_;have de:(n:Int)<(n:Int)+1:=o_;rw [← aC];rw [← aC] at aA aB;have b8:w.heap.size≠g5:=o_;clear ab ac aj aa aC ae ak;go_wp2;go_roundg (gk-1)
           case measure=>have:=ap.out;omega
           case rel=>exact ⟨_,Q,gp,cap,by rw [← an.out],z_ (by have:=ap.out;omega),aA,z_ ((qru w6 b8 _ _ _ _ _).trans aB.out)⟩
          exact a_l
         exact a_l
        exact a_l
       refine c_s (fun K hK=>?_) ?_
       ·go_simp
        refine k_o hK ?_ (fun aT=>?_)
        ·exact c71_
        clear hK K ao;refine r_d [8] ?_;refine c_s (fun K hK=>?_) ?_
        ·go_simp
         refine k_o hK ?_ (fun aU=>?_)
         ·exact c71_
         clear hK K aT;refine t_k 10 ?_;refine r_d [12] ?_;refine c_s (fun K hK=>?_) ?_
         ·((refine step_append_lies _ (by rfl) _ _ _ (by rfl) (w.heap.size+1) 38 j4 _ 4 56 Tryz.underlying36 au bg bh bi rfl o_ (.slice Af n cf) n (rowV Rf) (by rfl) (qa2 ay.out (by repeat (first|exact Below.refl _ _|refine Below.drew ?_|refine Below.alloc ?_ (by first|(simp;done)|(simp;omega)) _))) ⟨_,0,none⟩ 1 1 [.int .i64 0,.string { data:=#[] },.int .i64 0,.slice none 0 0] (by rfl) (by rfl) (fun q x hq=>qj0 _ _ _ _ _ _ q x hq) (qcv rfl rfl rfl rfl) o_ (by unfold maxLen;omega) o_ (by first|(simp;done)|(simp;omega)) _ rfl ?_;intro g5 c5 w5 ab ac aj af;have aa:=bt.out _ w5 (by repeat (first|exact Below.refl _ _|refine Below.drew ?_|refine Below.alloc ?_ (by first|(simp;done)|(simp;omega)) _)) ac))
          refine k_o hK ?_ (fun aV=>?_)
          ·exact c71_
          clear hK K aU;refine t_k 13 ?_;refine t_k 14 ?_;refine r_d [15] ?_;refine c_s (fun K hK=>?_) ?_
          ·(have bZ:=aa.2.2.1.1;have b4:=aa.2.2.1.2;go_simp)
           refine k_o hK ?_ (fun b6=>?_)
           ·exact c71_
           clear hK K aV;refine wpAnyH_done k_ ?_ _;refine NoPanic.normal ?_;have aA:=z_ (cI.out _ w5 g5 c5 n _ _ _ _ HN.out (bf.out _ (by repeat (first|exact Below.refl _ _|refine Below.drew ?_|refine Below.alloc ?_ (by first|(simp;done)|(simp;omega)) _))) ac aj af ab);have aB:=z_ (aa.2.2.2 (.slice (some ⟨g5,0,none⟩) (n+1) c5));have ap:=z_ (bs.out g5 c5 n);have b7:w.heap.size+1≤g5:=qb4 ab g5 rfl;have aW:g5≠gp:=by
            exact c72_
           obtain ⟨w6,aC⟩:=e_ (w5.setCell ⟨gp,kk*2+1,none⟩ (.slice (some ⟨g5,0,none⟩) (n+1) c5));have ae:=qrv ab aW aC;have ak:=qbo Rf;rw [← HN.out] at ak;have e0:=(ae.cellAt (n*4) o_).trans (qcy (rowV Rf) ak _ _ _ _).1;have e1:=(ae.cellAt (n*4+1) o_).trans (qcy (rowV Rf) ak _ _ _ _).2.1;have e2:=(ae.cellAt (n*4+2) o_).trans (qcy (rowV Rf) ak _ _ _ _).2.2.1;have e3:=(ae.cellAt (n*4+3) o_).trans (qcy (rowV Rf) ak _ _ _ _).2.2.2;have t0:=ae.frozenAt (n*4);have t1:=ae.frozenAt (n*4+1);have t2:=ae.frozenAt (n*4+2);have t3:=ae.frozenAt (n*4+3);have dd:(0:Int)≤(n:Int):=o_;have de:(n:Int)<(n:Int)+1:=o_;rw [← aC];rw [← aC] at aA aB;have b8:w.heap.size≠g5:=o_;clear ab ac aj aa aC ae ak;go_wp2;go_roundg (gk-1)
           case measure=>have:=ap.out;omega
           case rel=>exact ⟨_,Q,gp,cap,by rw [← an.out],z_ (by have:=ap.out;omega),aA,z_ ((qru w6 b8 _ _ _ _ _).trans aB.out)⟩
          exact a_l
         exact a_l
        exact a_l
       exact a_l
end Go.Proofs.YtiilamngcoegiaaGreat.rebw
