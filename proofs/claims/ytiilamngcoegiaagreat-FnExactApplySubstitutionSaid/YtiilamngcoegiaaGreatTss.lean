
import Derived.Test.YtiilamngcoegiaaGreatTsr
namespace Go.Proofs.YtiilamngcoegiaaGreat.tss
open Go.ChangeShapes Go.WideShapes Go.ChangeAt Go.RowKit
open mem subs setm sets sortm sortp sorti sortu rowl sigm sigs sigk trm terml termb termt termx rowg gram gramn grami formnd formf tsa tsm tsj tsk tsn tso tsp tsq tsr
abbrev STrm (x y gx ox:Nat)(v0 v1 v2 u0 u1 u2 u3 a0 a1 a2 a3:Value)(W w:World):Prop:=(Box34 x y v0 v1 v2 u0 u1 u2 u3 w∧w.cell? ⟨gx,ox,none⟩=some a0∧w.cell? ⟨gx,ox+1,none⟩=some a1∧w.cell? ⟨gx,ox+2,none⟩=some a2∧w.cell? ⟨gx,ox+3,none⟩=some a3)∧Below W.heap.size W w
theorem STrm.of {x y gx ox:Nat}{v0 v1 v2 u0 u1 u2 u3 a0 a1 a2 a3:Value}{W w:World}(h:STrm x y gx ox v0 v1 v2 u0 u1 u2 u3 a0 a1 a2 a3 W W)(hb:Below W.heap.size W w):STrm x y gx ox v0 v1 v2 u0 u1 u2 u3 a0 a1 a2 a3 W w:=by
 have k:∀ {a:Addr} {v:Value},W.cell? a=some v→w.cell? a=some v:=fun {a v} h=>(hb.cell (p:=a) (l_ h)).trans h
 exact ⟨⟨Box34.below h.1.1 hb,k h.1.2.1,k h.1.2.2.1,k h.1.2.2.2.1,k h.1.2.2.2.2⟩,hb⟩
abbrev STwo (x y:Nat)(v0 v1 v2 u0 u1 u2 u3:Value)(gr:Nat)(a0 a1:Nat)(W w:World):Prop:=(Box34 x y v0 v1 v2 u0 u1 u2 u3 w∧w.cell? ⟨gr,0,none⟩=some (.int .i64 (a0:Int))∧w.cell? ⟨gr,1,none⟩=some (.int .i64 (a1:Int)))∧Below W.heap.size W w
theorem STwo.of {x y:Nat}{v0 v1 v2 u0 u1 u2 u3:Value}{gr a0 a1:Nat}{W w:World}(h:STwo x y v0 v1 v2 u0 u1 u2 u3 gr a0 a1 W W)(hb:Below W.heap.size W w):STwo x y v0 v1 v2 u0 u1 u2 u3 gr a0 a1 W w:=by
 have k:∀ {a:Addr} {v:Value},W.cell? a=some v→w.cell? a=some v:=fun {a v} h=>(hb.cell (p:=a) (l_ h)).trans h
 exact ⟨⟨Box34.below h.1.1 hb,k h.1.2.1,k h.1.2.2⟩,hb⟩
theorem qBl {l:List Nat}(h:l.length=2):∃ a b,l=[a,b]:=by
 match l,h with
 | [a,b],_=>exact ⟨a,b,rfl⟩
theorem qtd (L:List Nat)(x:Nat):ivs (nats (L++[x]))=ivs (nats L)++[.int .i64 (x:Int)]:=by rw [qv5,qs8];rfl
def SrtC (P:List (List UInt8))(Q:List (Int×Int))(O:List OpM)(n:Nat):Prop:=∀ (va vb vc:Value) (t:TermM) (v:Value) (w:World) (lo:Nat),HasG w va vb vc P Q O→HasTs n lo w v t.args→Bnd t→qau P Q O t→
 Calls Tryz.prog 135 #[.agg #[va,vb,vc],aggT t v] w fun e w'=>e=.returned (.int .i64 ((sortsT (clo P.length (prs Q)) O t:Nat):Int))∧Below w.heap.size w w'
theorem c97_ {p:Prop}(h:p:=by
 (try dsimp only);exact HS.out.of (by first|exact b_.drew|exact aa.out _|exact ad.out|exact ab.out _|exact ak.out)
):p:=h
theorem c98_ {p:Prop}(h:p:=by
 rintro e w5 ⟨rfl,af⟩;have aZ:=z_ (ae.out.trans (af.mono ae.out.size));clear af;go_wp2;go_ret;exact ⟨rfl,aZ.out⟩
):p:=h
theorem c99_ {p:Prop}(h:p:=by
 (try dsimp only);exact bh.out _ (by first|exact HB.out.drew|exact ai.out|exact aO.out _|exact ad.out)
):p:=h
theorem c100_ {p:Prop}(h:p:=by
 (try dsimp only);first|(with_reducible assumption)|(exact bg)
):p:=h
set_option maxRecDepth 50000 in
set_option maxHeartbeats 16000000 in
theorem qo6 (P:List (List UInt8))(Q:List (Int×Int))(O:List OpM)(an:qad P Q O=true){N:Nat}(hS:∀ k,N=k+1→SrtC P Q O k):SrtC P Q O N:=by
 intro va vb vc t v w lo h ht hB hF;have aC:=(qa9 an).1;obtain ⟨p1,p2,p3,p4,_⟩:=qax aC;have aD:=qgx aC;have bM:=qc3 P.length (prs Q);have b7:=pow8 p2;obtain ⟨ac,ay,_⟩:=(qam P Q O t).1 hF;have aq:=z_ (qki (clo P.length (prs Q)) O t);have aL:=z_ (qeg aD O);rw [bM] at aL;obtain ⟨sv,aM⟩:=e_ (sortsT (clo P.length (prs Q)) O t);rw [← aM] at aq ⊢;have bo:=z_ (fun W (hW:Below w.heap.size w W)=>qg5 P Q p1 p2 o_ p3 va vb W (h.s.below n_ hW));have bp:Hid (∀ kn,N=kn+1→∀ (x:TermM) (vx:Value) (W:World),Below w.heap.size w W→HasTs kn lo W vx x.args→Bnd x→qau P Q O x→Calls Tryz.prog 135 #[.agg #[va,vb,vc],aggT x vx] W fun e w'=>e=.returned (.int .i64 ((sortsT (clo P.length (prs Q)) O x:Nat):Int))∧Below W.heap.size W w'):=z_ (fun kn e x vx W hW hx b8 b9=>hS kn e va vb vc x vx W lo (h.below n_ hW) hx b8 b9);obtain ⟨B,cb,rfl,_⟩:=HasR.shape ht rfl
 have aE:Hid (∀ k:Nat,t.op=(k:Int)→(O.getD k default).ass=true→(O.getD k default).com=true→∀ W vs,Below w.heap.size w W→Has W vs (ivs (nats (t.args.map (sortsT (clo P.length (prs Q)) O))))→Calls Tryz.prog 180 #[.agg #[va,vb,vc],.int .i64 (k:Int),vs] W fun e w'=>e=.returned (.int .i64 (sv:Int))∧Below W.heap.size W w'):=z_ (fun k hk ha hc W vs hW hv=>by
  have ao:t.op≠-1:=o_;obtain ⟨n1,_,n3,_,n5,_⟩:=qew an ac ao;rw [hk,Int.toNat_natCast] at n1 n5;have n6:=n5 (by rw [ha];rfl);have hr:=qwy P Q O an k n1 (t.args.map (sortsT (clo P.length (prs Q)) O)) n6.1 (by rw [List.length_map];exact n6.2) (by rw [List.length_map];exact n3) (qcr (_U:=[]) (fun a _=>aL.out a)) va vb vc vs W (h.below n_ hW) hv;have e:sv=V true (clo P.length (prs Q)) (O.getD k default).decls (t.args.map (sortsT (clo P.length (prs Q)) O)) (2 ^ (t.args.map (sortsT (clo P.length (prs Q)) O)).length-1):=by
   rw [aq.out,if_neg ao,hk,Int.toNat_natCast,sortsA,ha,hc];rfl
  rw [← e] at hr
  exact hr)
 have aF:Hid (∀ k:Nat,t.op=(k:Int)→(O.getD k default).ass=true→(O.getD k default).com=false→∀ W vs,Below w.heap.size w W→Has W vs (ivs (nats (t.args.map (sortsT (clo P.length (prs Q)) O))))→Calls Tryz.prog 181 #[.agg #[va,vb,vc],.int .i64 (k:Int),vs] W fun e w'=>e=.returned (.int .i64 (sv:Int))∧Below W.heap.size W w'):=z_ (fun k hk ha hc W vs hW hv=>by
  have ao:t.op≠-1:=o_;obtain ⟨n1,_,n3,_,n5,_⟩:=qew an ac ao;rw [hk,Int.toNat_natCast] at n1 n5;have n6:=n5 (by rw [ha];rfl);have hr:=qpt P Q O an k n1 (t.args.map (sortsT (clo P.length (prs Q)) O)) n6.1 (by rw [List.length_map];exact n6.2) (by rw [List.length_map];exact n3) (qcr (_U:=[]) (fun a _=>aL.out a)) va vb vc vs W (h.below n_ hW) hv;have e:sv=V false (clo P.length (prs Q)) (O.getD k default).decls (t.args.map (sortsT (clo P.length (prs Q)) O)) (2 ^ (t.args.map (sortsT (clo P.length (prs Q)) O)).length-1):=by
   rw [aq.out,if_neg ao,hk,Int.toNat_natCast,sortsA,ha,hc];rfl
  rw [← e] at hr
  exact hr)
 have aG:Hid (∀ k:Nat,t.op=(k:Int)→(O.getD k default).ass=false→∀ (A:List Nat),A.length=t.args.length→(∀ i,A.getD i 0<2 ^ P.length)→∀ W vs,Below w.heap.size w W→Has W vs (ivs (nats A))→Calls Tryz.prog 182 #[.agg #[va,vb,vc],.int .i64 (k:Int),vs] W fun e w'=>e=.returned (.int .i64 ((upC (clo P.length (prs Q)) (giveR (O.getD k default).decls A):Nat):Int))∧Below W.heap.size W w'):=z_ (fun k hk ha A hA au W vs hW hv=>by
  have ao:t.op≠-1:=o_;obtain ⟨n1,_,_,_,_,n6⟩:=qew an ac ao;rw [hk,Int.toNat_natCast] at n1 n6
  exact qps P Q O an k n1 A (by rw [hA];exact n6 ha) (fun i=>w_ (au i) o_) va vb vc vs W (h.below n_ hW) hv)
 have bq:Hid (∀ k:Nat,t.op=(k:Int)→(O.getD k default).ass=false→(O.getD k default).com=false→sv=upC (clo P.length (prs Q)) (giveR (O.getD k default).decls (t.args.map (sortsT (clo P.length (prs Q)) O)))):=z_ (fun k hk ha hc=>by
  rw [aq.out,if_neg o_,hk,Int.toNat_natCast,sortsA,ha,hc]
  rfl)
 have br:Hid (∀ k:Nat,t.op=(k:Int)→(O.getD k default).ass=false→(O.getD k default).com=true→t.args.length=2∧∀ a b,t.args.map (sortsT (clo P.length (prs Q)) O)=[a,b]→sv=upC (clo P.length (prs Q)) (giveR (O.getD k default).decls [a,b]) ||| upC (clo P.length (prs Q)) (giveR (O.getD k default).decls [b,a])):=z_ (fun k hk ha hc=>by
  have ao:t.op≠-1:=o_;obtain ⟨_,_,_,_,n5,n6⟩:=qew an ac ao;rw [hk,Int.toNat_natCast] at n5 n6;refine ⟨by rw [n6 ha];exact (n5 (by rw [hc];simp)).1,fun a b e=>?_⟩;rw [aq.out,if_neg ao,hk,Int.toNat_natCast,sortsA,ha,hc,e]
  exact qCt _ _ a b)
 obtain ⟨A1,c1,A2,c2,A3,c3,rfl,rfl,rfl,_,_,_,h'⟩:=h.shape;have bN:=z_ ht;have bO:=z_ ay;have bd:=z_ (qCf (clo P.length (prs Q)) O t.args);have bs:=z_ h'.o
 have aR:Hid (t.op=-1→(0≤t.sort∧t.sort<P.length)∧sv=(clo P.length (prs Q)).getD t.sort.toNat 0):=z_ (fun e=>by
  have h9:=ac;unfold qbu at h9;rw [if_pos e] at h9
  exact ⟨h9.2.1,by rw [aq.out,if_pos e]⟩)
 have be:Hid (t.op≠-1→∃ k:Nat,t.op=(k:Int)∧k<O.length∧t.args.length≤7):=z_ (fun e=>by
  obtain ⟨n1,n2,n3,_⟩:=qew an ac e
  exact ⟨t.op.toNat,by omega,n1,n3⟩)
 obtain ⟨L,hL⟩:=e_ (t.args);obtain ⟨q,hq⟩:=e_ (t.args.length);have bf:Hid (q=L.length):=z_ (by rw [hq,hL]);obtain ⟨to,az⟩:=e_ (t.op);obtain ⟨tn,bP⟩:=e_ (t.name);obtain ⟨ts,bt⟩:=e_ (t.sort);obtain ⟨m1,aj⟩:=e_ (P.length);obtain ⟨m2,aN⟩:=e_ (Q.length);obtain ⟨m3,aH⟩:=e_ (O.length);unfold aggT;rw [← hq,← az,← bP,← bt,← aj,← aN,← aH];rw [← aj] at aL b7;rw [← aj,← aN] at bo;rw [← aj,← aN,← aH] at bp;rw [← az,← aj,← aN,← aH,← hL] at aE aF;rw [← az,← aj,← aN,← aH,← hq] at aG;rw [← az,← aj,← hL] at bq;rw [← az,← aj,← hq,← hL] at br;rw [← az,← bt,← aj] at aR;rw [← az,← aH,← hq] at be;rw [← hq,← hL] at bN;rw [← hL] at bO bd;rw [← aj] at bd;rw [← aH] at bs;obtain ⟨U,hU⟩:=e_ (clo m1 (prs Q));have bQ:Hid (U.length=m1):=z_ (by rw [hU];exact qc3 _ _);have bR:Hid (Lim U):=z_ (by rw [hU,aj];exact aD);rw [← hU] at aL bo bp aE aF aG bq br aR bd;clear h h' ht hB hF ac ay aC p1 p2 p3 p4 aD bM aq aM hq hL az bP bt aj aN aH hS an hU;obtain ⟨W,hW⟩:=e_ ((w.alloc (.cells #[.slice A1 m1 c1,.slice A2 m2 c2,.slice A3 m3 c3] 46)).alloc (.cells #[.int .i64 to,.string (bstr tn),.int .i64 ts,.slice B q cb] 38));have bS:Below w.heap.size w W:=by
  rw [hW];exact v_
 have bT:Box34 w.heap.size (w.heap.size+1) (.slice A1 m1 c1) (.slice A2 m2 c2) (.slice A3 m3 c3) (.int .i64 to) (.string (bstr tn)) (.int .i64 ts) (.slice B q cb) W:=by
  rw [hW];exact ⟨tsl.box3 (tsl.qbh _ _ _),box4 (termt.qa5 _ _ _ (by simp))⟩
 have HX:=z_ bT;have aI:=z_ bS;have HZ:Hid (W.heap.size=w.heap.size+1+1):=z_ (by rw [hW];simp);obtain ⟨⟨x0,x1,x2⟩,y0,y1,y2,y3⟩:=bT;clear bS;obtain ⟨j0,ca,cc,ce,cf⟩:=info_parts qdf;by_cases hv:to=-1
 ·obtain ⟨⟨cK,cL⟩,aM⟩:=aR.out hv
  obtain ⟨s,rfl⟩:∃ s:Nat,ts=(s:Int):=⟨ts.toNat,by omega⟩;rw [Int.toNat_natCast] at aM;have cg:s<m1:=o_;have aq:=z_ aM;subst hv;clear aM aR be;go_enter Tryz.func135,Tryz.ntmps135
  go_wp2_with fail
  rw [← hW];clear hW;go_wp2_with fail
  refine wp_region_noPanic ?_;refine wp_region_held_drew (S:=(Box34 w.heap.size (w.heap.size+1) (.slice A1 m1 c1) (.slice A2 m2 c2) (.slice A3 m3 c3) (.int .i64 (-1)) (.string (bstr tn)) (.int .i64 (s:Int)) (.slice B q cb))) k_ ?_ (fun ah=>?_)
  ·exact HX.out
  refine t_k 0 ?_;refine t_k 1 ?_;refine t_k 3 ?_;refine t_k 4 ?_;refine r_d [2] ?_;refine c_s (fun K hK=>?_) ?_
  ·(go_simp;refine (bo.out W.drew aI.out.drew).mono ?_;rintro e w1 ⟨cM,rfl,hown,bu⟩;obtain ⟨gu,cu,rfl,cN,cO⟩:=qb5 hown (by intro e;have:=hown.1;rw [e] at this;simp at this;omega);obtain ⟨d0,_⟩:=qbe hown cg;rw [← aq.out] at d0;have bg:=Box34.below (w:=W.drew) HX.out bu;have ch:Hid (Below w.heap.size w w1):=z_ (aI.out.drew.trans (bu.mono aI.out.size));have j1:(0:Int)≤(s:Int):=o_;have j2:(s:Int)<(m1:Int):=o_;clear hown bu;(try dsimp only))
   refine k_o hK ?_ (fun al=>?_)
   ·exact c100_
   clear hK K ah;refine r_d [5] ?_;refine c_s (fun K hK=>?_) ?_
   ·go_simp
    refine k_o hK ?_ (fun am=>?_)
    ·exact c100_
    clear hK K al;refine r_d [6] ?_;refine c_s (fun K hK=>?_) ?_
    ·go_simp
     refine k_o hK ?_ (fun av=>?_)
     ·exact c100_
     clear hK K am;refine r_d [7] ?_;refine c_s (fun K hK=>?_) ?_
     ·go_simp
      refine k_o hK ?_ (fun bv=>?_)
      ·exact c100_
      clear hK K av;refine wpAnyH_done k_ ?_ _;refine NoPanic.normal ?_;go_wp2;go_ret;exact ⟨rfl,ch.out⟩
     exact a_l
    exact a_l
   exact a_l
  exact a_l
 ·obtain ⟨k,hk,ci,cP⟩:=be.out hv
  have v1:(to==-1)=false:=by simp [hv]
  have v2:decide (to=-1)=false:=decide_eq_false hv;have HV:=z_ hv;have HK:=z_ hk;obtain ⟨ap,oo,Ad,cd,cj,_,aS,e0,e1,e2,e3,e4,_,_,_⟩:=qcg bs.out ci;have ck:=z_ (And.intro e0 (And.intro e1 (And.intro e2 (And.intro e3 e4))));subst cj;clear aR be hv hk e0 e1 e2 e3 e4 bs;go_enter Tryz.func135,Tryz.ntmps135
  go_wp2_with fail
  rw [← hW];clear hW;go_wp2
  have aT:Hid ((W.alloc (.cells #[] 3)).ownsRow W.heap.size 3 1 (.slice (some ⟨w.heap.size+1+1,0,none⟩) 0 0) 0 (ivs (nats ([]:List Nat)))):=z_ (by
   rw [← HZ.out];have:=World.ownsRow_lit (e:=3) (size:=1) W #[] 0 n_ (by unfold maxLen;omega) rfl
   simpa [ivs,nats] using this)
  clear x0 x1 x2 y0 y1 y2 y3;go_loopw [5,6] (fun v5 v6 wr=>∃ p:Nat,v6=.int .i64 p∧p≤q∧Hid (wr.ownsRow W.heap.size 3 1 v5 p (ivs (nats ((L.take p).map (sortsT U O)))))∧Hid (Below W.heap.size W wr)) (fun _ i _=>q-(intOf i).toNat)
  case atStart=>exact ⟨0,rfl,y_,z_ (by simpa using aT.out),z_ (b_.alloc n_ _)⟩
  case round=>
   obtain ⟨p,rfl,hp,HO,HB⟩:=hrel;clear aT;have hsz:=HB.out.size;have bU:=Box34.below HX.out HB.out;have cl:=z_ bU;obtain ⟨⟨x0,x1,x2⟩,y0,y1,y2,y3⟩:=bU;have aw:=z_ (aI.out.trans (HB.out.mono aI.out.size));by_cases hlt:p<q
   ·obtain ⟨kn,gx,ox,B2,cx,cm,rfl,_,aA,f0,f1,f2,f3,bw,bx⟩:=qaj bN.out hlt
    have aU:=aw.out;have aV:L.getD p default∈L:=by rw [List.getD_eq_getElem?_getD,List.getElem?_eq_getElem (by have:=bf.out;omega)];exact List.getElem_mem _
    have bz:=bO.out _ aV;have aJ:=z_ (bd.out p (by have:=bf.out;omega));have g0:=(aU.cell (p:=⟨gx,ox+p*4,none⟩) aA).trans f0;have g1:=(aU.cell (p:=⟨gx,ox+p*4+1,none⟩) aA).trans f1;have g2:=(aU.cell (p:=⟨gx,ox+p*4+2,none⟩) aA).trans f2;have g3:=(aU.cell (p:=⟨gx,ox+p*4+3,none⟩) aA).trans f3;obtain ⟨x,hx⟩:=e_ (L.getD p default);rw [← hx] at g0 g1 g2 g3 bw bx bz aJ;have bV:Hid (∀ W',Below w.heap.size w W'→Calls Tryz.prog 135 #[.agg #[.slice A1 m1 c1,.slice A2 m2 c2,.slice (some ⟨ap,oo,none⟩) m3 c3],.agg #[.int .i64 x.op,.string (bstr x.name),.int .i64 x.sort,.slice B2 x.args.length cx]] W' fun e w'=>e=.returned (.int .i64 ((sortsT U O x:Nat):Int))∧Below W'.heap.size W' w'):=z_ (fun W' bW=>bp.out kn cm x (.slice B2 x.args.length cx) W' bW (bw.below n_ bW) bx bz);obtain ⟨xv,bX⟩:=e_ (sortsT U O x);rw [← bX] at bV aJ
    have bh:Hid (∀ w',Below W.heap.size W w'→(Box34 w.heap.size (w.heap.size+1) (.slice A1 m1 c1) (.slice A2 m2 c2) (.slice (some ⟨ap,oo,none⟩) m3 c3) (.int .i64 to) (.string (bstr tn)) (.int .i64 ts) (.slice (some ⟨gx,ox,none⟩) q cb) w'∧w'.cell? ⟨gx,ox+p*4,none⟩=some (.int .i64 x.op)∧w'.cell? ⟨gx,ox+p*4+1,none⟩=some (.string (bstr x.name))∧w'.cell? ⟨gx,ox+p*4+2,none⟩=some (.int .i64 x.sort)∧w'.cell? ⟨gx,ox+p*4+3,none⟩=some (.slice B2 x.args.length cx))∧Below W.heap.size W w'):=z_ (fun w' bA=>by
     have bi:=aI.out.trans (bA.mono aI.out.size);rw [hx]
     exact ⟨⟨Box34.below HX.out bA,(bi.cell (p:=⟨gx,ox+p*4,none⟩) aA).trans f0,(bi.cell (p:=⟨gx,ox+p*4+1,none⟩) aA).trans f1,(bi.cell (p:=⟨gx,ox+p*4+2,none⟩) aA).trans f2,(bi.cell (p:=⟨gx,ox+p*4+3,none⟩) aA).trans f3⟩,bA⟩)
    have i1:(0:Int)≤(p:Int):=o_;have i2:(p:Int)<(q:Int):=o_;have d1:decide ((p:Int)<(q:Int))=true:=d_;obtain ⟨wo,rfl⟩:∃ wo,wo=wr:=⟨wr,rfl⟩;clear f0 f1 f2 f3 bw bx bz aV hx bX aU;go_wp2_with fail
    refine wp_region_noPanic ?_;refine wp_region_held_drew (S:=(fun w'=>(Box34 w.heap.size (w.heap.size+1) (.slice A1 m1 c1) (.slice A2 m2 c2) (.slice (some ⟨ap,oo,none⟩) m3 c3) (.int .i64 to) (.string (bstr tn)) (.int .i64 ts) (.slice (some ⟨gx,ox,none⟩) q cb) w'∧w'.cell? ⟨gx,ox+p*4,none⟩=some (.int .i64 x.op)∧w'.cell? ⟨gx,ox+p*4+1,none⟩=some (.string (bstr x.name))∧w'.cell? ⟨gx,ox+p*4+2,none⟩=some (.int .i64 x.sort)∧w'.cell? ⟨gx,ox+p*4+3,none⟩=some (.slice B2 x.args.length cx))∧Below W.heap.size W w')) k_ ?_ (fun ah=>?_)
    ·exact bh.out _ (by first|exact HB.out.drew|exact ai.out|exact aO.out _|exact ad.out)
    refine t_k 0 ?_;refine t_k 1 ?_;refine t_k 2 ?_;refine t_k 3 ?_;refine t_k 4 ?_;refine t_k 5 ?_;refine t_k 6 ?_;refine r_d [7] ?_;refine c_s (fun K hK=>?_) ?_
    ·(go_simp;refine (bV.out _ aw.out.drew).mono ?_;rintro e w2 ⟨rfl,hb2⟩;have bj:Hid (Below wo.heap.size wo w2):=z_ (b_.drew.trans hb2);have ai:Hid (Below W.heap.size W w2):=z_ (HB.out.trans (bj.out.mono hsz));have bY:=z_ (qa2 HO.out bj.out);have aO:Hid (∀ ob,Below W.heap.size W (w2.alloc ob)):=z_ (fun ob=>ai.out.alloc ai.out.size ob);have cn:Hid (∀ ob,Below wo.heap.size wo (w2.alloc ob)):=z_ (fun ob=>bj.out.alloc bj.out.size ob);have co:Hid (∀ ob,Below w2.heap.size w2 (w2.alloc ob)):=z_ (fun ob=>b_.alloc n_ ob);have bZ:Hid (∀ ob,W.heap.size≤(w2.alloc ob).heap.size):=z_ (fun ob=>(aO.out ob).size);clear hb2;(try dsimp only))
     refine k_o hK ?_ (fun al=>?_)
     ·exact c99_
     clear hK K ah;refine r_d [8] ?_;refine c_s (fun K hK=>?_) ?_
     ·go_simp
      refine k_o hK ?_ (fun am=>?_)
      ·exact c99_
      clear hK K al;refine r_d [9] ?_;refine c_s (fun K hK=>?_) ?_
      ·(refine qbb (by rfl) _ _ _ (by rfl) W.heap.size 3 j0 (.int .i64 0) 1 8 Tryz.underlying60 ca cc ce cf rfl o_ _ p _ (by rfl) (qa2 bY.out (co.out _)) ⟨w2.heap.size,0,none⟩ 1 1 [.int .i64 (xv:Int)] (by rfl) o_ (by rfl) (qfg _ _ _) (qgc _ rfl) (by unfold maxLen;omega) o_ (bZ.out _) ?_;intro g4 bB w5 aB aW cp bC;have ad:Hid (Below W.heap.size W w5):=z_ ((aO.out _).grown aW (bZ.out _) (qb4 bY.out));clear aW cp bC)
       refine k_o hK ?_ (fun av=>?_)
       ·exact c99_
       clear hK K am;refine t_k 10 ?_;refine wpAnyH_done k_ ?_ _;refine NoPanic.normal ?_;have cq:Hid (w5.ownsRow W.heap.size 3 1 (.slice (some ⟨g4,0,none⟩) (p+1) bB) (p+1) (ivs (nats ((L.take (p+1)).map (sortsT U O))))):=z_ (by rw [aJ.out,qtd];exact aB);clear aB;go_wp2;go_roundw
       case rel=>exact ⟨p+1,by go_num,by omega,cq,ad⟩
       case measure=>simp [intOf];omega
      exact a_l
     exact a_l
    exact a_l
   ·obtain rfl:p=q:=o_
    have d1:decide ((p:Int)<(p:Int))=false:=f_;have ct:Hid ((L.take p).map (sortsT U O)=L.map (sortsT U O)):=z_ (by rw [bf.out,List.take_length]);have ho:=HO.out;rw [ct.out] at ho;have cv:=z_ ho;obtain ⟨Ar,cr,rfl,_⟩:=qae ho;have cw:=z_ (Has.of_own ho);obtain ⟨e0,e1,e2,e3,e4⟩:=ck.out;have c0:=(aw.out.cell (p:=⟨ap,oo+k*5,none⟩) aS).trans e0;have bD:=(aw.out.cell (p:=⟨ap,oo+k*5+1,none⟩) aS).trans e1;have b0:=(aw.out.cell (p:=⟨ap,oo+k*5+2,none⟩) aS).trans e2;have b1:=(aw.out.cell (p:=⟨ap,oo+k*5+3,none⟩) aS).trans e3;have c4:=(aw.out.cell (p:=⟨ap,oo+k*5+4,none⟩) aS).trans e4;have b2:=z_ (aE.out k HK.out);have b3:=z_ (aF.out k HK.out);have bk:=z_ (aG.out k HK.out);have aX:=z_ (bq.out k HK.out);have aY:=z_ (br.out k HK.out);obtain ⟨⟨nm,ds,ass,com,un⟩,b4⟩:∃ op,op=O.getD k default:=⟨_,rfl⟩;rw [← b4] at c0 bD b0 b1 c4 b2 b3 bk aX aY;simp only [] at c0 bD b0 b1 c4;obtain ⟨dl,b5⟩:=e_ (ds.length);rw [← b5] at bD;have i1:(0:Int)≤(k:Int):=o_;have i2:(k:Int)<(m3:Int):=o_;have hk:=HK.out;subst hk;clear e0 e1 e2 e3 e4 b4 b5 ho HO;obtain ⟨WA,aK⟩:=e_ (wr.alloc (.cells #[.string (bstr nm),.slice Ad dl cd,.bool ass,.bool com,.int .i64 un] 124));have aP:=fr1_ aK;have bE:=fr2_ aK;have cQ:=z_ aP;have ae:=z_ (aw.out.trans (aP.mono aw.out.size));have bF:=z_ (Box34.below cl.out aP);have ax:=z_ (cw.out.below n_ aP);have bG:=z_ (qa2 cv.out aP);have kA:∀ {g y:Nat} {v:Value},wr.cell? ⟨g,y,none⟩=some v→∀ ob,(wr.alloc ob).cell? ⟨g,y,none⟩=some v:=fun {g y v} h ob=>(((Below.refl wr.heap.size wr).alloc n_ ob).cell (p:=⟨g,y,none⟩) (l_ h)).trans h
    have cy:=kA x0;have cz:=kA x1;have cA:=kA x2;have cB:=kA y0;have cC:=kA y1;have cD:=kA y2;have cE:=kA y3;clear aP bE kA;cases ass with
    | true=>
     cases com with
     | true=>
      go_wp2_with fail
      rw [← aK];refine (b2.out (by first|rfl|trivial) (by first|rfl|trivial) WA _ ae.out ax.out).mono ?_;exact c98_
     | false=>
      go_wp2_with fail
      rw [← aK];refine (b3.out (by first|rfl|trivial) (by first|rfl|trivial) WA _ ae.out ax.out).mono ?_;exact c98_
    | false=>
     have au:∀ i,(L.map (sortsT U O)).getD i 0<2 ^ m1:=qcr (_U:=[]) (fun a _=>aL.out a);have bl:(L.map (sortsT U O)).length=p:=by rw [List.length_map];exact bf.out.symm
     cases com with
     | true=>
      obtain ⟨bm,a2⟩:=aY.out (by first|rfl|trivial) (by first|rfl|trivial);obtain ⟨a,b,a6⟩:=qBl (bl.trans bm);rw [a6] at au;have ha:=au 0;have hb:=au 1;simp only [List.getD_cons_zero,List.getD_cons_succ] at ha hb;have hs:=a2 a b a6;have aQ:=z_ (bk.out (by first|rfl|trivial) [a,b] (by rw [bm];rfl) au)
      have bn:=z_ (bk.out (by first|rfl|trivial) [b,a] (by rw [bm];rfl) (fun i=>by
       match i with
       | 0=>exact hb
       | 1=>exact ha
       | i+2=>simp;exact Nat.two_pow_pos _))
      have a7:Hid (Has WA (.slice Ar p cr) (ivs (nats [a,b]))):=z_ (a6 ▸ ax.out);have ag:WA.ownsRow W.heap.size 3 1 (.slice Ar p cr) p (ivs (nats [a,b])):=a6 ▸ bG.out;obtain ⟨gr,cap,b6,bH,bI⟩:=qb5 ag (by simp [ivs,nats]);simp only [Value.slice.injEq] at b6;obtain ⟨rfl,_,rfl⟩:=b6;obtain ⟨r0,_⟩:=qbe ag (show 0<p by omega);obtain ⟨r1,_⟩:=qbe ag (show 1<p by omega);simp only [List.getD_cons_zero,List.getD_cons_succ] at r0 r1;subst bm;have cF:upC U (giveR ds [a,b])<256:=by
       have:=qiw (U:=U) bR.out (giveR ds [a,b]);rw [bQ.out] at this;omega
      have cG:upC U (giveR ds [b,a])<256:=by
       have:=qiw (U:=U) bR.out (giveR ds [b,a]);rw [bQ.out] at this;omega
      obtain ⟨u1,a8⟩:=e_ (upC U (giveR ds [a,b]));obtain ⟨u2,ba⟩:=e_ (upC U (giveR ds [b,a]));simp only [] at aQ bn hs;rw [← a8] at aQ hs cF;rw [← ba] at bn hs cG;have cH:=qjf u1 u2 o_ o_;rw [← hs] at cH;have HS:Hid (STwo w.heap.size (w.heap.size+1) (.slice A1 m1 c1) (.slice A2 m2 c2) (.slice (some ⟨ap,oo,none⟩) m3 c3) (.int .i64 (k:Int)) (.string (bstr tn)) (.int .i64 ts) (.slice B 2 cb) gr a b WA WA):=z_ ⟨⟨bF.out,r0,r1⟩,Below.refl _ _⟩;have bb:∀ ob,Below WA.heap.size WA (WA.alloc ob).drew:=fun ob=>(b_.alloc n_ ob).drew
      have aa:=z_ bb;clear bb a8 ba hs a2 a6 ha hb au bl ag bH bI;go_wp2_with fail
      rw [← aK];clear aK cy cz cA cB cC cD cE x0 x1 x2 y0 y1 y2 y3;refine wp_region_noPanic ?_;refine wp_region_held_drew (S:=(STwo w.heap.size (w.heap.size+1) (.slice A1 m1 c1) (.slice A2 m2 c2) (.slice (some ⟨ap,oo,none⟩) m3 c3) (.int .i64 (k:Int)) (.string (bstr tn)) (.int .i64 ts) (.slice B 2 cb) gr a b WA)) k_ ?_ (fun ah=>?_)
      ·exact HS.out.of (by first|exact b_.drew|exact aa.out _|exact ad.out|exact ab.out _|exact ak.out)
      refine t_k 0 ?_;refine t_k 1 ?_;refine t_k 2 ?_;refine t_k 3 ?_;refine t_k 5 ?_;refine t_k 6 ?_;refine t_k 7 ?_;refine t_k 8 ?_;refine t_k 9 ?_;refine t_k 10 ?_;refine t_k 11 ?_;refine t_k 12 ?_;refine t_k 13 ?_;refine r_d [4,14] ?_;refine c_s (fun K hK=>?_) ?_
      ·(go_simp;refine (aQ.out WA.drew _ ae.out.drew a7.out).mono ?_;rintro e w5 ⟨rfl,af⟩;have ad:Hid (Below WA.heap.size WA w5):=z_ (b_.drew.trans af);have ab:Hid (∀ ob,Below WA.heap.size WA (w5.alloc ob)):=z_ (fun ob=>ad.out.alloc ad.out.size ob);clear af;(try dsimp only))
       refine k_o hK ?_ (fun al=>?_)
       ·exact c97_
       clear hK K ah;refine r_d [14] ?_;refine c_s (fun K hK=>?_) ?_
       ·go_simp
        refine k_o hK ?_ (fun am=>?_)
        ·exact c97_
        clear hK K al;refine r_d [15] ?_;refine c_s (fun K hK=>?_) ?_
        ·(go_simp;refine (bn.out _ _ (ae.out.trans ((ab.out _).mono ae.out.size)) (qcz _ b a)).mono ?_;rintro e w6 ⟨rfl,bc⟩;have ak:Hid (Below WA.heap.size WA w6):=z_ ((ab.out (.cells #[.int .i64 (b:Int),.int .i64 (a:Int)] 3)).trans (bc.mono (ab.out _).size));clear bc;(try dsimp only))
         refine k_o hK ?_ (fun av=>?_)
         ·exact c97_
         clear hK K am;refine t_k 16 ?_;refine r_d [17] ?_;refine c_s (fun K hK=>?_) ?_
         ·go_simp
          refine k_o hK ?_ (fun bv=>?_)
          ·exact c97_
          clear hK K av;refine wpAnyH_done k_ ?_ _;refine NoPanic.normal ?_;go_wp2;go_ret;exact ⟨rfl,ae.out.trans (ak.out.mono ae.out.size)⟩
         exact a_l
        exact a_l
       exact a_l
      refine c_s (fun K hK=>?_) ?_
      ·go_simp
       refine k_o hK ?_ (fun bJ=>?_)
       ·exact c97_
       clear hK K ah;refine r_d [4] ?_;refine c_s (fun K hK=>?_) ?_
       ·(go_simp;refine (aQ.out _ _ (ae.out.trans ((aa.out _).mono ae.out.size)) (a7.out.below n_ (aa.out _))).mono ?_;rintro e w5 ⟨rfl,af⟩;have ad:Hid (Below WA.heap.size WA w5):=z_ ((aa.out (.cells #[.int .i64 (b:Int),.int .i64 (a:Int)] 3)).trans (af.mono (aa.out _).size));have cI:=z_ ((show Has (WA.alloc (.cells #[.int .i64 (b:Int),.int .i64 (a:Int)] 3)).drew _ _ from qcz WA.drew b a).below n_ af);clear af;(try dsimp only))
        refine k_o hK ?_ (fun bK=>?_)
        ·exact c97_
        clear hK K bJ;refine r_d [15] ?_;refine c_s (fun K hK=>?_) ?_
        ·(go_simp;refine (bn.out w5 _ (ae.out.trans (ad.out.mono ae.out.size)) cI.out).mono ?_;rintro e w6 ⟨rfl,bc⟩;have ak:Hid (Below WA.heap.size WA w6):=z_ (ad.out.trans (bc.mono ad.out.size));clear bc;(try dsimp only))
         refine k_o hK ?_ (fun bL=>?_)
         ·exact c97_
         clear hK K bK;refine t_k 16 ?_;refine r_d [17] ?_;refine c_s (fun K hK=>?_) ?_
         ·go_simp
          refine k_o hK ?_ (fun cJ=>?_)
          ·exact c97_
          clear hK K bL;refine wpAnyH_done k_ ?_ _;refine NoPanic.normal ?_;go_wp2;go_ret;exact ⟨rfl,ae.out.trans (ak.out.mono ae.out.size)⟩
         exact a_l
        exact a_l
       exact a_l
      exact a_l
     | false=>
      have HQ:=z_ (aX.out (by first|rfl|trivial) (by first|rfl|trivial));have aQ:=z_ (bk.out (by first|rfl|trivial) (L.map (sortsT U O)) bl au);clear au bl;go_wp2_with fail
      rw [← aK];refine (aQ.out WA _ ae.out ax.out).mono ?_;rintro e w5 ⟨rfl,af⟩;have aZ:=z_ (ae.out.trans (af.mono ae.out.size));clear af;go_wp2;go_ret;exact ⟨qaa (by rw [HQ.out]),aZ.out⟩
theorem qs3 (P:List (List UInt8))(Q:List (Int×Int))(O:List OpM)(aa:qad P Q O=true):∀ n,SrtC P Q O n
 | 0=>qo6 P Q O aa (fun k h=>by omega)
 | n+1=>qo6 P Q O aa (fun k h=>Nat.succ.inj h ▸ qs3 P Q O aa n)
end Go.Proofs.YtiilamngcoegiaaGreat.tss
