
import Derived.Test.YtiilamngcoegiaaGreatPk11
namespace Go.Proofs.YtiilamngcoegiaaGreat.termsi
set_option maxRecDepth 100000
open Go.ChangeShapes Go.WideShapes Go.ChangeAt Go.RowKit
open mem rowl trm trmv terml termb termt termv termro rowg termlc
abbrev d0:TermM×Value:=(default,undef)
def enc4 (p:TermM×Value):List Value:=[.int .i64 p.1.op,.string (bstr p.1.name),.int .i64 p.1.sort,p.2]
def fourP (es:List (TermM×Value)):List Value:=es.flatMap enc4
theorem qdc:∀ es,(fourP es).length=es.length*4
 | []=>rfl
 | a::l=>by show (enc4 a++fourP l).length=_;rw [List.length_append,qdc l];simp [enc4];omega
theorem qny (l m:List (TermM×Value)):fourP (l++m)=fourP l++fourP m:=by simp [fourP]
theorem qm2:∀ (es:List (TermM×Value)) (j:Nat),j<es.length→qcl (fourP es) j (es.getD j d0).1 (es.getD j d0).2
 | [],j,h=>by simp at h
 | a::l,0,_=>⟨rfl,rfl,rfl,rfl⟩
 | a::l,j+1,h=>by
  have hj:j<l.length:=by simpa using h
  obtain ⟨e0,e1,e2,e3⟩:=qm2 l j hj
  have k:∀ q,(fourP (a::l))[(j+1)*4+q]? =(fourP l)[j*4+q]? := fun q=>by
   show (enc4 a++fourP l)[(j+1)*4+q]? =_;rw [List.getElem?_append_right (by simp [enc4];omega)];congr 1
   simp [enc4];omega
  rw [List.getD_cons_succ];exact ⟨(k 0).trans e0,(k 1).trans e1,(k 2).trans e2,(k 3).trans e3⟩
theorem qgw:∀ (es:List (TermM×Value)) (k:Nat),(fourP es).take (k*4)=fourP (es.take k)
 | [],k=>by simp [fourP]
 | a::l,0=>by simp [fourP]
 | a::l,k+1=>by
  show (enc4 a++fourP l).take ((k+1)*4)=enc4 a++fourP (l.take k);rw [← qgw l k,List.take_append,List.take_of_length_le (by simp [enc4];omega)];congr 2
  simp [enc4];omega
theorem qkd:∀ (es:List (TermM×Value)) (k:Nat),(fourP es).drop (k*4)=fourP (es.drop k)
 | [],k=>by simp [fourP]
 | a::l,0=>by simp
 | a::l,k+1=>by
  show (enc4 a++fourP l).drop ((k+1)*4)=fourP (l.drop k);rw [← qkd l k,List.drop_append,List.drop_of_length_le (by simp [enc4];omega),List.nil_append];congr 1
  simp [enc4];omega
def El (n lo:Nat)(w:World)(p:TermM×Value):Prop:=HasTs n lo w p.2 p.1.args∧Bnd p.1
theorem qef {n lo:Nat}{w:World}:∀ {es:List (TermM×Value)},(∀ p∈es,El n lo w p)→∀ x∈fourP es,x.oneCell'=true
 | [],_,x,hx=>by simp [fourP] at hx
 | a::l,h,x,hx=>by
  have aa:x∈enc4 a++fourP l:=hx;rcases List.mem_append.1 aa with hx|hx
  ·obtain ⟨A,c,e,_⟩:=HasR.shape (h a (by simp)).1 rfl
   simp only [enc4,List.mem_cons,List.not_mem_nil,or_false] at hx;rcases hx with rfl|rfl|rfl|rfl
   ·rfl
   ·rfl
   ·rfl
   ·rw [e];rfl
  ·exact qef (fun p hp=>h p (by simp [hp])) x hx
theorem qwj {n lo b g cap m:Nat}{w wr:World}{es:List (TermM×Value)}(hm:m=es.length)(h:∀ p∈es,El n lo w p)(hb:Below w.heap.size w wr)(ho:wr.ownsRow b 38 4 (.slice (some ⟨g,0,none⟩) m cap) m (fourP es)):
  HasTs (n+1) 0 wr (.slice (some ⟨g,0,none⟩) m cap) (es.map (·.1)):=by
 have ab:wr.ownsRow 0 38 4 (.slice (some ⟨g,0,none⟩) m cap) m (fourP es):=by
  refine ⟨ho.1,?_⟩;rcases ho.2 with h2|⟨g',cap',cur,hv,hg,r⟩
  ·exact .inl h2
  ·exact .inr ⟨g',cap',cur,hv,y_,r⟩
 refine HasR.of_own ab (by simp [hm]) (fun j hj=>?_);have aa:j<es.length:=o_;obtain ⟨e0,e1,e2,e3⟩:=qm2 es j aa;have e:(es.map (·.1)).getD j default=(es.getD j d0).1:=by
  rw [List.getD_eq_getElem?_getD,List.getD_eq_getElem?_getD,List.getElem?_map,List.getElem?_eq_getElem aa];rfl
 have he:=h (es.getD j d0) (by rw [List.getD_eq_getElem?_getD,List.getElem?_eq_getElem aa];exact List.getElem_mem _);rw [e];refine ⟨enc4 (es.getD j d0),fun i hi=>?_,(es.getD j d0).2,rfl,HasR.mono (qa8 _) (he.1.below n_ hb) y_,he.2.1,he.2.2.1,he.2.2.2⟩;match i,hi with
 | 0,_=>exact e0
 | 1,_=>exact e1
 | 2,_=>exact e2
 | 3,_=>exact e3
abbrev S4n (w:World)(g o:Nat)(a b c e:Value)(w':World):Prop:=(w'.cell? ⟨g,o,none⟩=some a∧w'.cell? ⟨g,o+1,none⟩=some b∧w'.cell? ⟨g,o+2,none⟩=some c∧w'.cell? ⟨g,o+3,none⟩=some e)∧Below w.heap.size w w'
theorem S4n.next {w:World}{g o:Nat}{a b c e:Value}{w0 w1:World}(h:S4n w g o a b c e w0)(hg:g<w.heap.size)(hb:Below w.heap.size w0 w1):S4n w g o a b c e w1:=by
 have k:∀ z,w1.cell? ⟨g,z,none⟩=w0.cell? ⟨g,z,none⟩:=fun z=>hb.cell (p:=⟨g,z,none⟩) hg
 unfold S4n;rw [k,k,k,k];exact ⟨h.1,h.2.trans hb⟩
theorem S4n.al {w:World}{g o:Nat}{a b c e:Value}{w0:World}(h:S4n w g o a b c e w0)(hg:g<w.heap.size){ob:Obj}:S4n w g o a b c e (w0.alloc ob):=h.next hg (b_.alloc h.2.size ob)
theorem S4n.ald {w:World}{g o:Nat}{a b c e:Value}{w0:World}(h:S4n w g o a b c e w0.drew)(hg:g<w.heap.size){ob:Obj}:S4n w g o a b c e (w0.alloc ob).drew:=h.next hg ((Below.refl _ w0.drew).alloc h.2.size ob)
structure SI (n lo:Nat) (w:World) (L:List TermM) (i g cap:Nat) (es:List (TermM×Value)) (wr:World):Prop where
 len:i=es.length
 own:wr.ownsRow w.heap.size 38 4 (.slice (some ⟨g,0,none⟩) i cap) i (fourP es)
 below:Below w.heap.size w wr
 el:∀ p∈es,El n lo w p
 perm:(es.map (·.1)).Perm (L.take i)
 srt:Srt (es.map (·.1))
theorem qA1 {es:List (TermM×Value)}{j:Nat}(h:j<es.length):(es.map (·.1)).getD j default=(es.getD j d0).1:=by
 rw [List.getD_eq_getElem?_getD,List.getD_eq_getElem?_getD,List.getElem?_map,List.getElem?_eq_getElem h];rfl
theorem SI.next {n lo:Nat}{w:World}{L:List TermM}{i g cap:Nat}{es:List (TermM×Value)}{wr w9:World}{u:TermM}{vu:Value}{k g9 aa:Nat}(h:SI n lo w L i g cap es wr)(hu:u=L.getD i default)(hi:i<L.length)(ab:El n lo w (u,vu))(hk:k≤i)
  (h1:∀ j,k≤j→j<i→0<cmp (es.getD j d0).1 u) (h2:0<k→¬ 0<cmp (es.getD (k-1) d0).1 u) (hb:Below w.heap.size w w9)
  (ho:w9.ownsRow w.heap.size 38 4 (.slice (some ⟨g9,0,none⟩) (i+1) aa) (i+1) (fourP (es.take k)++enc4 (u,vu)++fourP (es.drop k))):∃ ac,SI n lo w L (i+1) g9 aa ac w9:=by
 have hl:=h.len
 obtain ⟨s1,s2⟩:=qA5 (l:=es.map (·.1)) (t:=u) (k:=k) h.srt (by simp;omega) (fun j ad ae=>by
  have hj:j<es.length:=by simpa using ae
  rw [qA1 hj];exact h1 j ad o_) (fun af=>by rw [qA1 o_];exact h2 af)
 have em:(es.take k++(u,vu)::es.drop k).map (·.1)=(es.map (·.1)).take k++u::(es.map (·.1)).drop k:=by simp
 refine ⟨es.take k++(u,vu)::es.drop k,?_,?_,hb,fun p hp=>?_,?_,by rw [em];exact s1⟩
 ·simp;omega
 ·rw [qny,show fourP ((u,vu)::es.drop k)=enc4 (u,vu)++fourP (es.drop k) from rfl,← List.append_assoc];exact ho
 ·rcases List.mem_append.1 hp with hp|hp
  ·exact h.el p (List.mem_of_mem_take hp)
  ·rcases List.mem_cons.1 hp with rfl|hp
   ·exact ab
   ·exact h.el p (List.mem_of_mem_drop hp)
 ·rw [em,List.take_succ_eq_append_getElem hi,← qar hi,← hu]
  exact s2.trans ((h.perm.cons u).trans (List.perm_append_comm (l₁:=[u])))
theorem qke (g i cap k:Nat)(hk:k≤i)(hi:i≤cap):∃ q,(∀ W,(Instr.sliceAt 36 (.slice (some ⟨g,0,none⟩) i cap) (some (.int .i64 k)) none none).run Tryz.prog W=.ok (.slice (some ⟨g,q,none⟩) (i-k) (cap-k)) W)∧(k<i→q=k*4):=by
 have hel:Tryz.prog.elem 36=38:=by kernel_rfl
 have ac:Tryz.prog.underlying 36=some (.slice (Tryz.prog.elem 36)):=by rw [hel];exact Tryz.underlying36
 obtain ⟨i0,ab,ad,ae,af⟩:=info_parts qb1;have hcs:Tryz.prog.cellsOf 38=4:=by kernel_rfl
 have aa:∀ W,(Instr.sliceAt 36 (.slice (some ⟨g,0,none⟩) i cap) (some (.int .i64 k)) none none).run Tryz.prog W=.ok (sliced (some ⟨g,0,none⟩) k i cap 4) W:=fun W=>by
  rw [run_sliceAt_slice W _ _ _ _ _ ac,run_slice_l W _ _ _ _ ac .i64 k o_ o_,hel,run_sizeOf W ab,hcs];rfl
 by_cases hc:cap=k
 ·exact ⟨0,fun W=>by rw [aa W,sliced,if_pos hc],fun h=>by omega⟩
 ·exact ⟨k*4,fun W=>by rw [aa W,sliced,if_neg hc];simp only [Option.map_some,Addr.add_lit,Nat.zero_add],fun _=>rfl⟩
theorem qrx (g i cap k:Nat)(hk:k≤cap):∀ W,(Instr.sliceAt 36 (.slice (some ⟨g,0,none⟩) i cap) none (some (.int .i64 k)) none).run Tryz.prog W=.ok (.slice (some ⟨g,0,none⟩) k cap) W:=by
 have hel:Tryz.prog.elem 36=38:=by kernel_rfl
 have ac:Tryz.prog.underlying 36=some (.slice (Tryz.prog.elem 36)):=by rw [hel];exact Tryz.underlying36
 obtain ⟨i0,aa,ad,ae,af⟩:=info_parts qb1;have hcs:Tryz.prog.cellsOf 38=4:=by kernel_rfl
 have ab:∀ W,(Instr.sliceAt 36 (.slice (some ⟨g,0,none⟩) i cap) none (some (.int .i64 k)) none).run Tryz.prog W=.ok (sliced (some ⟨g,0,none⟩) 0 k cap 4) W:=fun W=>by
  rw [run_sliceAt_slice W _ _ _ _ _ ac,run_slice_h W _ _ _ _ ac .i64 k o_ o_,hel,run_sizeOf W aa,hcs];rfl
 intro W;rw [ab W,sliced];by_cases hc:cap=0
 ·rw [if_pos hc];rfl
 ·rw [if_neg hc];rfl
theorem qnz {W W':World}{b g cap i k q:Nat}{es:List (TermM×Value)}(h:W.ownsRow b 38 4 (.slice (some ⟨g,0,none⟩) i cap) i (fourP es))(hi:i=es.length)(hq:k<i→q=k*4)(hb:Below W.heap.size W W'):∀ (j:Nat) (x:Value),(fourP (es.drop k))[j]? =some x→W'.cell? ((⟨g,q,none⟩:Addr).add j)=some x:=by
 intro j x hx;rw [← qkd,List.getElem?_drop] at hx;have hlt:k*4+j<i*4:=by have:=(List.getElem?_eq_some_iff.1 hx).1;rw [qdc] at this;omega
 have:=(qa2 h hb).cellAt (k*4+j) hlt;rw [hx] at this;rw [Addr.add_lit,hq o_];exact this
theorem qwk {W:World}{b g cap i:Nat}{xs:List Value}(h:W.ownsRow b 38 4 (.slice (some ⟨g,0,none⟩) i cap) i xs):∀ (j:Nat) (x:Value),xs[j]? =some x→W.cell? ((⟨g,0,none⟩:Addr).add j)=some x:=by
 intro j x hx;have hlt:j<i*4:=by have:=(List.getElem?_eq_some_iff.1 hx).1;rw [h.1] at this;exact this
 have:=h.cellAt j hlt;rw [hx] at this;rw [Addr.add_lit,Nat.zero_add];exact this
theorem qe9 {w:World}{base n g cap:Nat}{e:TypeId}{size:Nat}{xs:List Value}(h:w.ownsRow base e size (.slice (some ⟨g,0,none⟩) n cap) n xs):base≤g∧g<w.heap.size∧n≤cap:=by
 rcases h.2 with ⟨hv,_⟩|⟨g',cap',cur,hv,hb,hg,hc,_⟩
 ·cases hv
 ·simp only [Value.slice.injEq,Option.some.injEq,Addr.mk.injEq,and_true,true_and] at hv
  obtain ⟨rfl,rfl⟩:=hv;exact ⟨hb,(q_ hg),hc⟩
def qwl (n:Nat)(L:List TermM)(w:World)(e:Ending)(w':World):Prop:=∃ v',e=.returned v'∧HasTs (n+1) w.heap.size w' v' (qcd L)∧Below w.heap.size w w'
theorem j21_ {p:Prop}(h:p:=by
 (try dsimp only);first|(with_reducible assumption)|((with_reducible refine S4n.ald ?_ ac);with_reducible assumption)|((with_reducible refine S4n.al ?_ ac);with_reducible assumption)|(exact ⟨⟨z0,z1,z2,z3⟩,ai.out.drew⟩)
):p:=h
theorem c76_ {p:Prop}(h:p:=by
 clear ap au aN;generalize t5.W=W6 at ah ⊢
 obtain ⟨q,a7,hq⟩:=qke g i cap k hk bq;have av:=qrx g i cap k o_;have HQ:=z_ hq;have aP:=z_ (aZ.out.next ac (ah.out.mono aM));have aw:=z_ (qa2 ae.out.own ah.out);have bA:=ah.out.size;have bB:Hid ((fourP (es.take k)).length=k*4):=z_ (by rw [qdc,List.length_take];have:=ag.out;omega);have aQ:Hid ((fourP (es.drop k)).length=(i-k)*4):=z_ (by rw [qdc,List.length_drop,← ag.out]);have bC:(0:Int)≤(k:Int):=o_;have a8:(k:Int)≤(i:Int):=o_;have ba:(k:Int)≤(cap:Int):=o_;clear hq;go_wp2_with (at_builtin;refine qaw rfl _ _ _ rfl W6.heap.size 38 j0 _ 4 56 Tryz.underlying36 aI aJ aK aL rfl o_ W6.heap.size 0 0 [] rfl (World.ownsRow_lit (e:=38) (size:=4) W6 #[] 0 n_ (by unfold maxLen;omega) rfl) ⟨g,q,none⟩ (i-k) (cap-k) (fourP (es.drop k)) rfl aQ.out (qnz aw.out ag.out HQ.out (b_.alloc n_ _)) (qef (fun p hp=>ae.out.el p (List.mem_of_mem_drop hp))) (by unfold maxLen;omega) o_ (by simp) ?_;intro g4 ax w7 hown ao hg4 ay az)
 rw [List.nil_append,Nat.zero_add] at hown;have aa:Below W6.heap.size W6 w7:=((Below.refl W6.heap.size W6).alloc n_ _).grown ao (by simp) (by intro x hx;cases hx;exact Nat.le_refl _);have bb:Hid (W6.heap.size≤g4∧g4<w7.heap.size):=z_ ⟨(termsi.qe9 hown).1,ay⟩;have bc:=z_ hown;have ai:Hid (Below w.heap.size w w7):=z_ ((ae.out.below.trans (ah.out.mono aM)).trans (aa.mono o_));have bD:=aa.size;obtain ⟨⟨z0,z1,z2,z3⟩,_⟩:=(aP.out.next ac (aa.mono o_))
 have bd:Hid (w7.ownsRow w.heap.size 38 4 (.slice (some ⟨g,0,none⟩) k cap) k (fourP (es.take k))):=z_ (by
  have h:=qek (qa2 aw.out aa) hk
  rwa [qgw] at h)
 have be:¬ g=g4:=by have:=bb.out;omega
 clear hown ao hg4 az aa aP aw ah;refine wp_region_noPanic ?_;refine wp_region_held_drew (S:=(S4n w gL (oL+i*4) (.int .i64 u.op) (.string (bstr u.name)) (.int .i64 u.sort) (.slice A2 u.args.length c2))) k_ ?_ (fun aA=>?_)
 ·exact ⟨⟨z0,z1,z2,z3⟩,ai.out.drew⟩
 refine t_k 0 ?_;refine t_k 1 ?_;refine t_k 2 ?_;refine t_k 3 ?_;refine t_k 4 ?_;refine t_k 5 ?_;refine t_k 6 ?_;refine t_k 9 ?_;refine r_d [7] ?_;refine c_s (fun K hK=>?_) ?_
 ·go_simp
  refine k_o hK ?_ (fun aB=>?_)
  ·exact j21_
  clear hK K aA;refine r_d [8] ?_;refine c_s (fun K hK=>?_) ?_
  ·(refine qbc (by rfl) _ _ _ (by rfl) w.heap.size 38 j0 _ 4 56 Tryz.underlying36 aI aJ aK aL rfl o_ g k cap (fourP (es.take k)) (by rfl) (qa2 bd.out (b_.alloc n_ _).drew) ⟨w7.heap.size,0,none⟩ 1 1 (enc4 (u,.slice A2 u.args.length c2)) (by rfl) (by rfl) (fun q x hq=>qd4 w7 _ _ _ _ _ q x hq) (qcj rfl rfl rfl rfl) (by unfold maxLen;omega) o_ (by simp;omega) ?_;intro g8 aC w8 ab ad bf bg aD;have aj:Below w.heap.size w7 w8:=((Below.refl w.heap.size w7).alloc o_ _).drew.grown ad (by simp;omega) (by intro x hx;cases hx;exact aS);have bE:=S4n.next (by with_reducible assumption) ac ((Below.refl w.heap.size _).grown ad (by simp;omega) (by intro x hx;cases hx;exact aS));have bh:=z_ (qfz (qa2 bc.out ((Below.refl _ w7).alloc n_ _).drew) ad (fun x hx e=>by simp [Value.ownBlock] at hx e;omega));have aE:=(termsi.qe9 ab).1;have bF:=aj.size)
   refine k_o hK ?_ (fun aF=>?_)
   ·exact j21_
   clear hK K aB;refine r_d [10] ?_;refine c_s (fun K hK=>?_) ?_
   ·(refine qbc (by rfl) _ _ _ (by rfl) w.heap.size 38 j0 _ 4 56 Tryz.underlying36 aI aJ aK aL rfl o_ g8 (k+1) aC (fourP (es.take k)++enc4 (u,.slice A2 u.args.length c2)) (by rfl) ab ⟨g4,0,none⟩ (i-k) ax (fourP (es.drop k)) (by rfl) aQ.out (qwk bh.out) (qef (fun p hp=>ae.out.el p (List.mem_of_mem_drop hp))) (by unfold maxLen;omega) o_ o_ ?_;intro g9 aG w9 af ak bi bj aH;have am:Below w.heap.size w8 w9:=(Below.refl w.heap.size w8).grown ak o_ (by intro x hx;cases hx;exact aE);have bG:=S4n.next (by with_reducible assumption) ac am;have aR:Below w.heap.size w w9:=(ai.out.trans aj).trans am)
    refine k_o hK ?_ (fun bk=>?_)
    ·exact j21_
    clear hK K aF;refine t_k 11 ?_;refine wpAnyH_done k_ ?_ _;refine NoPanic.normal ?_;have HN:=z_ (SI.next ae.out HU.out aO HE.out hk HJ.out (fun h=>by have:=a6.out h;omega) aR (by rw [show i+1=k+1+(i-k) by omega];exact af));clear af ak bi aH ab ad bf aD a7 av z0 z1 z2 z3 aR;obtain ⟨bl,an⟩:=HN.out;have bm:=z_ an;clear an HN;go_wp2;go_roundw
    case rel=>exact ⟨i+1,g9,aG,bl,by rw [show k+1+(i-k)=i+1 by omega],by go_num,by omega,bm⟩
    case measure=>simp [intOf];omega
   exact a_l
  exact a_l
 exact a_l
):p:=h
set_option maxRecDepth 50000 in
set_option maxHeartbeats 8000000 in
theorem qwm {n lo:Nat}(L:List TermM)(v:Value)(w:World)(h:HasTs (n+1) lo w v L)(hsz:sizes L≤1048576):Calls Tryz.prog 118 #[v] w (qwl n L w):=by
 obtain ⟨A,c,rfl,h⟩:=HasR.shape h rfl;obtain ⟨j0,aI,aJ,aK,aL⟩:=info_parts qb1;have bu:=qaq L;obtain ⟨m,hm⟩:=e_ (L.length);rw [← hm] at h ⊢;have hm30:m≤1048576:=o_;have HM:=z_ hm
 have bv:Hid (∀ j,j<m→∃ (g o:Nat) (A2:Option Addr) (c2:Nat),A=some ⟨g,o,none⟩∧g<w.heap.size∧w.cell? ⟨g,o+j*4,none⟩=some (.int .i64 (L.getD j default).op)∧w.cell? ⟨g,o+j*4+1,none⟩=some (.string (bstr (L.getD j default).name))∧
   w.cell? ⟨g,o+j*4+2,none⟩=some (.int .i64 (L.getD j default).sort)∧w.cell? ⟨g,o+j*4+3,none⟩=some (.slice A2 (L.getD j default).args.length c2)∧El n lo w (L.getD j default,.slice A2 (L.getD j default).args.length c2)):=z_ (by
  intro j hj;obtain ⟨k,g,o,A2,c2,h0,h1,_,h2,h3,h4,h5,h6,h7,h8⟩:=qaj h hj;obtain rfl:n=k:=o_
  exact ⟨g,o,A2,c2,h1,h2,h3,h4,h5,h6,h7,h8⟩)
 have aV:Hid (∀ (g cap:Nat) (es:List (TermM×Value)) (wr:World),SI n lo w L m g cap es wr→Calls Tryz.prog 144 #[.slice (some ⟨g,0,none⟩) m cap] wr (qwl n L w)):=z_ (by
  intro g cap es wr hs;have hp:(es.map (·.1)).Perm L:=by
   have:=hs.perm;rwa [hm,List.take_length] at this
  have e:es.map (·.1)=qcd L:=qgz hs.srt hp;have hh:=qwj hs.len hs.el hs.below hs.own;rw [e] at hh;have aW:sizes (qcd L)≤1048576:=by
   rw [← e];have:sizes (es.map (·.1))=sizes L:=by
    unfold sizes;exact (hp.map _).sum_nat
   omega
  refine (qkc _ _ wr hh aW).mono ?_;rintro e w' ⟨v',rfl,h1,h2⟩
  exact ⟨v',rfl,HasR.mono (qa8 _) h1 hs.below.size,hs.below.trans (h2.mono hs.below.size)⟩)
 clear h hsz bu hm;go_enter Tryz.func118,Tryz.ntmps118
 have bw:Hid (SI n lo w L 0 w.heap.size 0 [] (w.alloc (.cells #[] 38))):=z_ ⟨rfl,World.ownsRow_lit (e:=38) (size:=4) w #[] 0 n_ (by unfold maxLen;omega) rfl,b_.alloc n_ _,fun p hp=>by simp at hp,by simp,List.Pairwise.nil⟩;go_wp2_with fail
 go_loopw [3,4] (fun v3 v4 wr=>∃ (i g cap:Nat) (es:List (TermM×Value)),v3=.slice (some ⟨g,0,none⟩) i cap∧v4=.int .i64 i∧i≤m∧Hid (SI n lo w L i g cap es wr)) (fun _ i _=>m-(intOf i).toNat)
 case atStart=>exact ⟨0,w.heap.size,0,[],rfl,rfl,y_,bw⟩
 case round=>
  obtain ⟨i,g,cap,es,rfl,rfl,hi,ae⟩:=hrel;by_cases hlt:i<m
  ·obtain ⟨gL,oL,A2,c2,rfl,ac,e0,e1,e2,e3,aX⟩:=bv.out i hlt
   obtain ⟨u,hu⟩:=e_ (L.getD i default);rw [← hu] at e0 e1 e2 e3 aX;have HU:=z_ hu;have HE:=z_ aX;have ag:=z_ ae.out.len;obtain ⟨aS,bx,bq⟩:=qe9 ae.out.own;have aY:=ae.out.below;have aM:=aY.size;have aZ:Hid (S4n w gL (oL+i*4) (.int .i64 u.op) (.string (bstr u.name)) (.int .i64 u.sort) (.slice A2 u.args.length c2) wr):=z_ (S4n.next ⟨⟨e0,e1,e2,e3⟩,Below.refl _ _⟩ ac aY);have bI:(0:Int)≤(i:Int):=o_;have bJ:(i:Int)<(m:Int):=o_;have aO:i<L.length:=by have:=HM.out;omega
   clear e0 e1 e2 e3 aX aY hu;obtain ⟨wo,bz⟩:∃ wo,wo=wr:=⟨wr,rfl⟩;subst bz;go_wp2;go_loopw [5] (fun v5 wr=>∃ k:Nat,v5=.int .i64 k∧k≤i∧Hid (∀ j,k≤j→j<i→0<cmp (es.getD j d0).1 u)∧Hid (Below wo.heap.size wo wr)) (fun k _=>(intOf k).toNat)
   case atStart=>exact ⟨i,rfl,Nat.le_refl _,z_ (fun j h1 h2=>by omega),z_ b_⟩
   case round=>
    obtain ⟨k,rfl,hk,HJ,ap⟩:=hrel;have au:=z_ (aZ.out.next ac (ap.out.mono aM));have aN:=z_ (qa2 ae.out.own ap.out);have a2:=ap.out.size;have nb:Nonempty (BoxC (Below wr.heap.size wr)):=⟨⟨_,Below.refl _ _⟩⟩;by_cases bK:k≤0
    ·have d1:decide ((0:Int)<(k:Int))=false:=f_
     have d3:decide (0<k)=false:=f_;have d4:¬ 0<k:=o_;have a6:Hid (0<k→¬ 0<cmp (es.getD (k-1) d0).1 u):=z_ (fun h=>by omega);go_wp2_with fail
     refine qa1 (C:=Below wr.heap.size wr) k_ k_ b_.drew ?_;repeat (go_big_quiet_step (fail))
     refine wpQuiet_nil ?_;rintro w5 ⟨t5,rfl⟩;have ah:=z_ (ap.out.trans (t5.h.mono a2));clear d1 d3 nb;exact c76_
    ·obtain ⟨p,hp⟩:∃ p,p+1=k:=⟨k-1,by omega⟩
     have d1:decide ((0:Int)<(k:Int))=true:=d_;have d3:decide (0<k)=true:=d_;have d4:0<k:=o_;have hw:IntKind.i64.wrap ((k:Int)-1)=(p:Int):=by rw [← hp,IntWalk.i64_in _ o_];omega
     have bn:p<es.length:=by have:=ag.out;omega
     obtain ⟨c0,c1,bo,c3⟩:=qm2 es p bn;have hel:=ae.out.el (es.getD p d0) (by rw [List.getD_eq_getElem?_getD,List.getElem?_eq_getElem bn];exact List.getElem_mem _);obtain ⟨⟨xt,xv⟩,bp⟩:∃ x,x=es.getD p d0:=⟨_,rfl⟩;rw [← bp] at c0 c1 bo c3 hel;obtain ⟨A7,c7,br,_⟩:=HasR.shape hel.1 rfl;simp only [] at br;subst br;have bs:=z_ bp;have q0:=(aN.out.cellAt (p*4) o_).trans c0;have q1:=(aN.out.cellAt (p*4+1) o_).trans c1;have q2:=(aN.out.cellAt (p*4+2) o_).trans bo;have q3:=(aN.out.cellAt (p*4+3) o_).trans c3;simp only [] at q0 q1 q2 q3;have ao:g<wr.heap.size:=o_;have aq:gL<wr.heap.size:=o_;have r0:∀ t:BoxC (Below wr.heap.size wr),t.W.cell? ⟨g,p*4,none⟩=some (.int .i64 xt.op):=fun t=>t.cell q0 ao
     have r1:∀ t:BoxC (Below wr.heap.size wr),t.W.cell? ⟨g,p*4+1,none⟩=some (.string (bstr xt.name)):=fun t=>t.cell q1 ao
     have r2:∀ t:BoxC (Below wr.heap.size wr),t.W.cell? ⟨g,p*4+2,none⟩=some (.int .i64 xt.sort):=fun t=>t.cell q2 ao
     have r3:∀ t:BoxC (Below wr.heap.size wr),t.W.cell? ⟨g,p*4+3,none⟩=some (.slice A7 xt.args.length c7):=fun t=>t.cell q3 ao
     obtain ⟨⟨z0,z1,z2,z3⟩,_⟩:=au.out;have s0:∀ t:BoxC (Below wr.heap.size wr),t.W.cell? ⟨gL,oL+i*4,none⟩=some (.int .i64 u.op):=fun t=>t.cell z0 aq
     have s1:∀ t:BoxC (Below wr.heap.size wr),t.W.cell? ⟨gL,oL+i*4+1,none⟩=some (.string (bstr u.name)):=fun t=>t.cell z1 aq
     have s2:∀ t:BoxC (Below wr.heap.size wr),t.W.cell? ⟨gL,oL+i*4+2,none⟩=some (.int .i64 u.sort):=fun t=>t.cell z2 aq
     have s3:∀ t:BoxC (Below wr.heap.size wr),t.W.cell? ⟨gL,oL+i*4+3,none⟩=some (.slice A2 u.args.length c2):=fun t=>t.cell z3 aq
     have aT:Hid (∀ t:BoxC (Below wr.heap.size wr),Calls Tryz.prog 82 #[.agg #[.int .i64 xt.op,.string (bstr xt.name),.int .i64 xt.sort,.slice A7 xt.args.length c7],.agg #[.int .i64 u.op,.string (bstr u.name),.int .i64 u.sort,.slice A2 u.args.length c2]] t.W fun e w'=>e=.returned (.int .i64 (cmp xt u))∧Below t.W.heap.size t.W w'):=z_ (fun t=>by
      have hb:=(ae.out.below.trans (ap.out.mono aM)).trans (t.h.mono o_)
      exact qhj xt u _ _ t.W (hel.1.below n_ hb) (HE.out.1.below n_ hb))
     have p1:(0:Int)≤(p:Int):=o_;have p2:(p:Int)<(i:Int):=o_;obtain ⟨r,hr⟩:=e_ (cmp xt u);rw [← hr] at aT;have bt:=z_ hr;have HP:=z_ hp;clear c0 c1 bo c3 q0 q1 q2 q3 z0 z1 z2 z3 bp hel hr bn hp;by_cases aU:0<r
     ·have d2:decide (0<r)=true:=decide_eq_true aU
      go_wp2_with fail
      refine qa1 (C:=Below wr.heap.size wr) k_ k_ b_.drew ?_;repeat (go_big_quiet_step ((go_at_call 82;exact (aT.out _).mono (fun _ _ h=>⟨h.1,BoxC.step _ h.2⟩))))
      refine wpQuiet_nil ?_;rintro w5 ⟨t5,rfl⟩;have ah:=z_ (ap.out.trans (t5.h.mono a2));clear r0 r1 r2 r3 s0 s1 s2 s3;go_wp2;go_roundw
      case measure=>have:=HP.out;simp [intOf];omega
      case rel=>exact ⟨p,by go_num,by have:=HP.out;omega,z_ (fun j bL bH=>by
       by_cases e:j=p
       ·subst e;rw [← bs.out];show 0<cmp xt u;rw [← bt.out];exact aU
       ·exact HJ.out j (by have:=HP.out;omega) bH),ah⟩
     ·have d2:decide (0<r)=false:=decide_eq_false aU
      have a6:Hid (0<k→¬ 0<cmp (es.getD (k-1) d0).1 u):=z_ (fun _=>by
       have e:k-1=p:=by have:=HP.out;omega
       rw [e,← bs.out];show ¬ 0<cmp xt u;rw [← bt.out];exact aU)
      go_wp2_with fail
      refine qa1 (C:=Below wr.heap.size wr) k_ k_ b_.drew ?_;repeat (go_big_quiet_step ((go_at_call 82;exact (aT.out _).mono (fun _ _ h=>⟨h.1,BoxC.step _ h.2⟩))))
      refine wpQuiet_nil ?_;rintro w5 ⟨t5,rfl⟩;have ah:=z_ (ap.out.trans (t5.h.mono a2));clear r0 r1 r2 r3 s0 s1 s2 s3 d1 d2 d3 nb aT;exact c76_
  ·obtain rfl:i=m:=o_
   have HR:=z_ (aV.out g cap es wr ae.out);go_wp2_with fail
   refine HR.out.mono ?_;rintro e w' ⟨v',rfl,h1,h2⟩;obtain ⟨A9,c9,rfl,_⟩:=HasR.shape h1 rfl;have HP:Hid (qwl n L w (.returned (.slice A9 (qcd L).length c9)) w'):=z_ ⟨_,rfl,h1,h2⟩;clear h1 h2;go_wp2;go_ret;exact HP.out
end Go.Proofs.YtiilamngcoegiaaGreat.termsi
