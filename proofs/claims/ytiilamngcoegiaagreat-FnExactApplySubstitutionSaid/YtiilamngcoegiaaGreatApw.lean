
import Derived.Test.YtiilamngcoegiaaGreatPk21
import Derived.Test.YtiilamngcoegiaaGreatTmo
import Derived.Test.YtiilamngcoegiaaGreatPk24
import Derived.BigQuiet
import Derived.Deep.DeepCutAuto
namespace Go.Proofs.YtiilamngcoegiaaGreat.fnExactApplySubstitution
set_option maxRecDepth 100000
open Go.ChangeShapes Go.WideShapes Go.ChangeAt Go.RowKit
open mem sortp sorti subs join sigm sigs sige rowl trm terml termb termt termu termx frm gram gramn gramt grami formt formm bndl bndt bndo bndm tmf tmg tmq tmk tmo scan rebp isub insm sapl iapl
theorem qBs {P:List (List UInt8)}{Q:List (Int×Int)}{O:List OpM}{σ:List BindM}{t u:TermM}(h:AppX P Q O σ t=some u):LimT u:=by
 by_cases hq:(qad P Q O=true∧SubP P Q O σ)∧qdp P Q O t
 ·rw [qm4 hq] at h
  have hg:=(qbl t).2 hq.2;have hσ:∀ b∈σ,qbx (grM P Q O) b.t:=fun b hb=>qdd (qkj hq.1.2 hb)
  rw [← qs1 hq.1.1 σ hσ t hg] at h;exact ((qkh (qbx (grM P Q O)) (qbx (grM P Q O)) (fun _ h _ ha=>qo1 h ha) (fun _ _ _ hd h hA=>(insn.qgv P Q O σ hσ).good hd.2 hA h) (fun t zs hd hA=>rfl) t hg).2 u h).1
 ·rw [qpv hq] at h;cases h
theorem Box34.belowB {x y:Nat}{v0 v1 v2 u0 u1 u2 u3:Value}{w w':World}{B:Nat}(h:Box34 x y v0 v1 v2 u0 u1 u2 u3 w)(hx:x<B)(hy:y<B)(hb:Below B w w'):Box34 x y v0 v1 v2 u0 u1 u2 u3 w':=by
 obtain ⟨⟨a,b,c⟩,d,e,f,g⟩:=h;exact ⟨⟨(hb.cell (p:=⟨x,0,none⟩) hx).trans a,(hb.cell (p:=⟨x,1,none⟩) hx).trans b,(hb.cell (p:=⟨x,2,none⟩) hx).trans c⟩,(hb.cell (p:=⟨y,0,none⟩) hy).trans d,(hb.cell (p:=⟨y,1,none⟩) hy).trans e,(hb.cell (p:=⟨y,2,none⟩) hy).trans f,(hb.cell (p:=⟨y,3,none⟩) hy).trans g⟩
theorem OB.lt {n lo:Nat}{w:World}{v:Value}{L:List BindM}{S:List Nat}(h:OB n lo w v L S):∀ k∈S,lo≤k∧k<w.heap.size:=by
 obtain ⟨xs,vs,us,Sa,Sb,ho,hS,ab,hj⟩:=h;intro k hk;rw [hS,List.mem_append] at hk;rcases hk with hk|hk
 ·rcases ho.2 with ⟨rfl,_⟩|⟨g,cap,cur,rfl,hg,hh,_⟩
  ·simp [Value.ownBlock] at hk
  ·simp [Value.ownBlock] at hk
   subst hk;exact ⟨hg,(q_ hh)⟩
 ·obtain ⟨j,aa,hk⟩:=List.mem_flatMap.1 hk
  rcases List.mem_append.1 hk with hk|hk
  ·exact (hj j (by simpa using aa)).2.2.1.lt k hk
  ·exact (hj j (by simpa using aa)).2.2.2.lt k hk
theorem OB.chg {n lo:Nat}{w w':World}{v:Value}{L:List BindM}{S S':List Nat}(h:OB n lo w v L S)(hc:Chg S' w w')(hd:∀ k∈S,k ∉ S'):OB n lo w' v L S:=by
 obtain ⟨xs,vs,us,Sa,Sb,ho,hS,ab,hj⟩:=h
 have aa:∀ j,j<L.length→∀ k∈Sa j++Sb j,k ∉ S':=fun j ac k hk=>hd k (by
  rw [hS,List.mem_append]
  exact .inr (List.mem_flatMap.2 ⟨j,by simpa using ac,hk⟩))
 exact ⟨xs,vs,us,Sa,Sb,hc.own ho (fun g hg=>hd g (by rw [hS,hg];simp)),hS,ab,fun i hi=>⟨(hj i hi).1,(hj i hi).2.1,(hj i hi).2.2.1.chg hc (fun k hk=>aa i hi k (List.mem_append.2 (.inl hk))),(hj i hi).2.2.2.chg hc (fun k hk=>aa i hi k (List.mem_append.2 (.inr hk)))⟩⟩
theorem qx6 (D:List (List Int×Int)):mkD (dls D)=cntD D:=by
 unfold mkD cntD dls;induction D with
 | nil=>rfl
 | cons a D ih=>simp only [List.map_cons,List.sum_cons,List.length_cons] at ih ⊢;omega
theorem qx7 (O:List OpM):mkO (ols O)≤4*cntO O:=by
 unfold mkO cntO ols;induction O with
 | nil=>simp
 | cons a O ih=>have:=qx6 a.decls;simp only [List.map_cons,List.sum_cons,List.length_cons,List.map_map] at ih ⊢;omega
theorem qCn {O:List OpM}(h:cntO O≤1048576):∀ d∈ols O,∀ m∈d,m≤2097152:=by
 intro d hd m hm;obtain ⟨o,ho,rfl⟩:=List.mem_map.1 hd;have h1:m+1≤mkD (dls o.decls):=qj5 (fun x:Nat=>x+1) hm;have h2:=qx6 o.decls;have h3:o.name.length+cntD o.decls≤_:=qj5 (fun o:OpM=>o.name.length+cntD o.decls) ho;unfold cntO at h;omega
theorem qod {n:Nat}(op:Int)(l:List UInt8)(s:Int)(L:List TermM)(v:Value)(w:World){lo k:Nat}(h:HasTs n lo w v (mkL tx L k))(hk:k+3*sizes L≤1073741824):
  Calls Tryz.prog 21 #[.agg #[.int .i64 op,.string (bstr l),.int .i64 s,v],.int .i64 k] w fun e w'=>e=.returned (.int .i64 ((k+3*sizes L:Nat):Int))∧Below w.heap.size w w':=by
 have HM:=z_ (fun W (hW:Below w.heap.size w W)=>qfy n L v W lo k (h.below n_ hW) hk);obtain ⟨A,c,rfl,_⟩:=HasR.shape h rfl;obtain ⟨q,hq⟩:=e_ ((mkL tx L k).length);obtain ⟨r,hr⟩:=e_ (k+3*sizes L);rw [← hq] at HM ⊢;rw [← hr] at HM ⊢;have aa:=hr;clear h hq aa hr;go_enter Tryz.func21,Tryz.ntmps21
 go_wp2_with fail
 refine (HM.out _ (b_.alloc n_ _)).mono ?_;rintro e w1 ⟨rfl,h1⟩;have H1:=z_ ((b_.alloc n_ _).trans (h1.mono (by simp)));clear h1;have n2:¬ (r:Int)<0:=o_;have n1:decide ((r:Int)<0)=false:=f_;go_wp2;go_ret;exact ⟨rfl,H1.out⟩
theorem j30_ {p:Prop}(h:p:=by
 (try dsimp only);first|(with_reducible exact hX)|(with_reducible exact hX.out _)|(with_reducible exact hX.out _ _ _ _)
):p:=h
theorem c119_ {p:Prop}(h:p:=by
 refine k_o hK ?_ (fun b1=>?_)
 ·exact j30_
 clear hK K b0;refine r_d [11] ?_;refine c_s (fun K hK=>?_) ?_
 ·go_simp
  refine k_o hK ?_ (fun b2=>?_)
  ·exact j30_
  clear hK K b1;refine r_d [12] ?_;refine c_s (fun K hK=>?_) ?_
  ·go_simp
   refine k_o hK ?_ (fun dN=>?_)
   ·exact j30_
   clear hK K b2;refine wpAnyH_done k_ ?_ _;refine NoPanic.normal ?_;go_wp2;go_meet
   exact ⟨y6.heap.size,F6,f6,rfl,rfl,z_ ⟨ae.out.alloc (Nat.le_trans ac.out ae.out.size) _,termt.qa5 _ _ _ rfl,(hT.out.below n_ (b_.alloc n_ _)).mono (qa8 _) y_⟩⟩
  exact a_l
 exact a_l
):p:=h
theorem c120_ {p:Prop}(h:p:=by
 refine k_o hK ?_ (fun aL=>?_)
 ·exact j30_
 clear hK K b4;refine r_d [12] ?_;refine c_s (fun K hK=>?_) ?_
 ·go_simp
  refine k_o hK ?_ (fun cy=>?_)
  ·exact j30_
  clear hK K aL;refine wpAnyH_done k_ ?_ _;refine NoPanic.normal ?_;go_wp2;go_meet
  exact ⟨ga,F6,f6,rfl,rfl,z_ ⟨qa6 ae.out aa.out _ _ _ _,qdq hA.out _ _ _ _,(HasR.kept (qa8 _) hT.out (qay aq.out _ _ _ _)).mono (qa8 _) y_⟩⟩
 exact a_l
):p:=h
theorem c121_ {p:Prop}(h:p:=by
 refine k_o hK ?_ (fun aP=>?_)
 ·exact j30_
 clear hK K aO;refine r_d [12] ?_;refine c_s (fun K hK=>?_) ?_
 ·go_simp
  refine k_o hK ?_ (fun cz=>?_)
  ·exact j30_
  clear hK K aP;refine wpAnyH_done k_ ?_ _;refine NoPanic.normal ?_;go_wp2;go_meet
  exact ⟨ga,F6,f6,rfl,rfl,z_ ⟨qa6 ae.out aa.out _ _ _ _,qdq hA.out _ _ _ _,(HasR.kept (qa8 _) hT.out (qay aq.out _ _ _ _)).mono (qa8 _) y_⟩⟩
 exact a_l
):p:=h
theorem c122_ {p:Prop}(h:p:=by
 refine k_o hK ?_ (fun aU=>?_)
 ·exact j30_
 clear hK K aT;refine r_d [12] ?_;refine c_s (fun K hK=>?_) ?_
 ·go_simp
  refine k_o hK ?_ (fun cA=>?_)
  ·exact j30_
  clear hK K aU;refine wpAnyH_done k_ ?_ _;refine NoPanic.normal ?_;go_wp2;go_meet
  exact ⟨ga,F6,f6,rfl,rfl,z_ ⟨qa6 ae.out aa.out _ _ _ _,qdq hA.out _ _ _ _,(HasR.kept (qa8 _) hT.out (qay aq.out _ _ _ _)).mono (qa8 _) y_⟩⟩
 exact a_l
):p:=h
theorem c123_ {p:Prop}(h:p:=by
 refine k_o hK ?_ (fun a2=>?_)
 ·exact j30_
 clear hK K aZ;refine r_d [12] ?_;refine c_s (fun K hK=>?_) ?_
 ·go_simp
  refine k_o hK ?_ (fun cB=>?_)
  ·exact j30_
  clear hK K a2;refine wpAnyH_done k_ ?_ _;refine NoPanic.normal ?_;go_wp2;go_meet
  exact ⟨ga,F6,f6,rfl,rfl,z_ ⟨qa6 ae.out aa.out _ _ _ _,qdq hA.out _ _ _ _,(HasR.kept (qa8 _) hT.out (qay aq.out _ _ _ _)).mono (qa8 _) y_⟩⟩
 exact a_l
):p:=h
theorem c124_ {p:Prop}(h:p:=by
 exact j30_
):p:=h
theorem c125_ {p:Prop}(h:p:=by
 (try dsimp only);first|(with_reducible assumption)|(exact bF)|(exact bG)
):p:=h
theorem c126_ {p:Prop}(h:p:=by
 (try dsimp only);first|(with_reducible assumption)|(exact bK)|(exact bL)
):p:=h
set_option maxHeartbeats 8000000 in
theorem go {n:Nat}(P:List (List UInt8))(Q:List (Int×Int))(O:List OpM)(va vb vc:Value)(σ:List BindM)(lv:Value)(t:TermM)(vt:Value)(w:World)(h:HasG w va vb vc P Q O)(hl:HasBs n 0 w lv σ)(ht:HasTs n 0 w vt t.args)(dd:Bnd t):
  Calls Tryz.prog 3 #[.agg #[va,vb,vc],lv,aggT t vt] w fun e w'=>e=.returned (.bool true)∧Below w.heap.size w w':=by
 have de:=z_ (fun W (hW:Below w.heap.size w W)=>qhg P Q O va vb vc W (h.below n_ hW));have dV:=z_ (fun W (hW:Below w.heap.size w W) r (h0:0≤r) (h1:r≤1048576)=>qze σ lv W (hl.below n_ hW) r h0 h1);have df:=z_ (fun W (hW:Below w.heap.size w W) r (h0:0≤r) (h1:r≤1048576)=>qge t.op t.name t.sort t.args vt W dd.1 (ht.below n_ hW) r h0 h1);have bR:=z_ (fun W (hW:Below w.heap.size w W) (hs:(Small P∧Q.length≤1048576)∧cntO O≤1048576)=>qj7 P Q O ⟨hs.1,qCj hs.2⟩ va vb vc W (h.below n_ hW));have bS:=z_ (fun W (hW:Below w.heap.size w W) (hs:bsz σ≤1048576)=>qx1 σ lv W (hl.below n_ hW) hs);have aI:=z_ (fun W (hW:Below w.heap.size w W) (hs:sizes t.args≤1048576)=>qgf t.op t.name t.sort t.args hs vt W (ht.below n_ hW));obtain ⟨X,hX⟩:=e_ (AppX P Q O σ t);obtain ⟨T,hT⟩:=e_ (X.getD zT);obtain ⟨z,hz⟩:=e_ (X.isSome);have bY:∀ (u:TermM) (r:Bool),(r=true→X=some u)→(r=false→X=none∧u=zT)→u=T∧r=z:=by
  intro u r h1 h2;cases r with
  | true=>have:=h1 rfl;rw [this] at hT hz;exact ⟨hT.symm,hz.symm⟩
  | false=>obtain ⟨e1,e2⟩:=h2 rfl;rw [e1] at hT hz;exact ⟨e2.trans hT.symm,hz.symm⟩
 have bp:Hid (∀ v1 v2 v3 v4 v5 W n4 cp n5 cq,HasG W v1 v2 v3 P Q O→HasBs n4 cp W v4 σ→HasTs n5 cq W v5 t.args→bsz σ≤1048576→sizes t.args≤1048576→Calls Tryz.prog 10 #[.agg #[v1,v2,v3],v4,aggT t v5] W fun e w'=>∃ v',e=.returned (.tuple #[aggT T v',.bool z])∧HasTs 22 W.heap.size w' v' T.args∧Below W.heap.size W w'):=z_ (fun v1 v2 v3 v4 v5 W n4 cp n5 cq hG h4 h5 ck dA=>by
  refine (qzc (lo:=0) P Q O v1 v2 v3 σ v4 t v5 W hG (HasR.mono (qav n4) h4 y_) ck (h5.mono (qa8 _) y_) dd dA).mono ?_;rintro e w' ⟨u,vu,r,rfl,h1,h2,h3,_,h4⟩;rw [← hX] at h1 h2;obtain ⟨rfl,rfl⟩:=bY u r h1 h2
  exact ⟨vu,rfl,h3,h4⟩)
 have bq:Hid (∀ v1 v2 v3 v4 v5 W n4 cp n5 cq,HasG W v1 v2 v3 P Q O→HasBs n4 cp W v4 σ→HasTs n5 cq W v5 t.args→bsz σ≤1048576→sizes t.args≤1048576→(∀ m,PlA m W v5 t.args)→Calls Tryz.prog 14 #[.agg #[v1,v2,v3],v4,aggT t v5] W fun e w'=>∃ v' S,e=.returned (.tuple #[aggT T v',.bool z])∧OT 38 (depth T) W.heap.size w' v' T.args S∧Below W.heap.size W w'):=z_ (fun v1 v2 v3 v4 v5 W n4 cp n5 cq hG h4 h5 ck dA hp=>by
  refine (qzd P Q O v1 v2 v3 σ v4 t v5 W hG h4 ck (h5.mono (qa8 _) y_) dd dA hp).mono ?_;rintro e w' ⟨u,vu,r,S,rfl,h1,h2,h3,h4⟩;rw [← hX] at h1 h2;obtain ⟨rfl,rfl⟩:=bY u r h1 h2
  exact ⟨vu,S,rfl,h3,h4⟩)
 have dh:Hid (sizes T.args≤1048576):=z_ (by
  cases hx:X with
  | none=>rw [hT,hx];show sizes zT.args≤1048576;have h1:sizes zT.args=0:=rfl;omega
  | some u=>
   rw [hT,hx];have h1:=(qBs (hX.symm.trans hx)).1;have h2:=termro.qao u;show sizes u.args≤1048576
   omega)
 have eA:=z_ (fun v1 v2 v3 u1 u2 u3 W (h1:HasG W v1 v2 v3 P Q O) (h2:HasG W u1 u2 u3 P Q O)=>qhe P Q O v1 v2 v3 u1 u2 u3 W h1 h2);have eB:=z_ (fun v1 v2 W n1 n2 lo lo' (h1:HasBs n1 lo W v1 σ) (h2:HasBs n2 lo' W v2 σ)=>qzh σ v1 v2 W h1 h2);have dW:=z_ (fun v1 v2 W n1 n2 lo lo' (hW:HasTs n1 lo W v1 t.args) (dB:HasTs n2 lo' W v2 t.args)=>qem t.op t.name t.sort t.args v1 v2 W hW dB);have di:=z_ (fun v1 v2 W n1 n2 lo lo' (hW:HasTs n1 lo W v1 T.args) (dB:HasTs n2 lo' W v2 T.args)=>qem T.op T.name T.sort T.args v1 v2 W hW dB);have dC:=z_ (fun v S W lo n1 (hO:OT 38 n1 lo W v T.args S)=>qh7 (k:=1) T.op T.name T.sort T.args v S W hO (by have:=dh.out;omega));have dj:=z_ (fun v W lo n1 (hO:HasTs n1 lo W v (mkL tx T.args 1))=>qod (k:=1) T.op T.name T.sort T.args v W hO (by have:=dh.out;omega));have dk:=z_ (fun v1 v2 v3 lo hi W (hs:(Small P∧Q.length≤1048576)∧cntO O≤1048576) (hh:hi≤W.heap.size) (h1:Rw lo hi W 9 1 v1 P.length) (h2:Rw lo hi W 201 2 v2 Q.length) (h3:OpR lo hi W v3 (ols O))=>qzr P.length Q.length hs.1.1.1 hs.1.2 (ols O) (by have:=qx7 O;omega) (qCn hs.2) v1 v2 v3 W hh h1 h2 h3);have eC:=z_ (fun v S W lo k (hO:OB (n+1) lo W v σ S) (hs:bsz σ≤1048576) (hk:k≤16777216)=>qzj (k:=k) σ v S W hO o_);have dX:Hid (∀ (v:Value) (S:List Nat) (W:World) (lo k:Nat),OT 38 (n+1) lo W v t.args S→sizes t.args≤1048576→k≤33554432→Calls Tryz.prog 20 #[.agg #[.int .i64 t.op,.string (bstr t.name),.int .i64 t.sort,v],.int .i64 k] W fun e w'=>∃ q:Nat,e=.returned (.int .i64 q)∧Chg S W w'):=z_ (fun v S W lo k hO hs hk=>(qh7 (k:=k) t.op t.name t.sort t.args v S W hO o_).mono (fun e w' h=>⟨_,h.1,h.2.2⟩));obtain ⟨B1,d1,rfl,_⟩:=HasR.shape ht rfl;obtain ⟨ml,dD⟩:=e_ (σ.length);obtain ⟨AL,cL,rfl,_⟩:=HasR.shape hl dD.symm;obtain ⟨A1,c1,A2,c2,A3,c3,rfl,rfl,rfl,_⟩:=h.shape
 have bZ:Hid (∀ {W v1 v2 v3},HasG W v1 v2 v3 P Q O→∃ A1 c1 A2 c2 A3 c3,v1=.slice A1 P.length c1∧v2=.slice A2 Q.length c2∧v3=.slice A3 O.length c3):=z_ (fun h=>by
  obtain ⟨A1,c1,A2,c2,A3,c3,e1,e2,e3,_⟩:=h.shape
  exact ⟨A1,c1,A2,c2,A3,c3,e1,e2,e3⟩)
 have br:Hid (∀ {W lo v S},OB (n+1) lo W v σ S→∃ A c,v=.slice A σ.length c):=z_ (fun h=>by
  obtain ⟨A,c,e,_⟩:=HasR.shape (OB.has h) rfl
  exact ⟨A,c,e⟩)
 have aK:Hid (∀ {W lo v S},OT 38 (n+1) lo W v t.args S→∃ A c,v=.slice A t.args.length c):=z_ (fun h=>OT.shape h)
 have aJ:Hid (∀ {W n1 lo v},HasTs n1 lo W v T.args→∃ A c,v=.slice A T.args.length c):=z_ (fun h=>by
  obtain ⟨A,c,e,_⟩:=HasR.shape h rfl
  exact ⟨A,c,e⟩)
 have cl:Hid (∀ {W lo v S},OT 38 (n+1) lo W v t.args S→∀ m,PlA m W v t.args):=z_ (fun h m=>qrj _ m h);unfold aggT at bp bq ⊢;obtain ⟨l1,dE⟩:=e_ (t.args.length);obtain ⟨o1,dY⟩:=e_ (t.op);obtain ⟨n1,dZ⟩:=e_ (t.name);obtain ⟨s1,ck⟩:=e_ (t.sort);obtain ⟨tl,d4⟩:=e_ (T.args.length);obtain ⟨tz,d5⟩:=e_ (1+3*sizes T.args);obtain ⟨tq,d6⟩:=e_ (T.op);obtain ⟨tn,d7⟩:=e_ (T.name);obtain ⟨ts,d8⟩:=e_ (T.sort);obtain ⟨m1,dF⟩:=e_ (P.length);obtain ⟨m2,dG⟩:=e_ (Q.length);obtain ⟨m3,d9⟩:=e_ (O.length);obtain ⟨mo,ea⟩:=e_ (mkO (ols O));have eb:Hid (cntO O≤1048576→mo≤4194304):=z_ (fun h=>by have:=qx7 O;omega);rw [← dE] at aK ⊢;rw [← dY,← dZ,← ck] at df aI bp bq dW dX ⊢;rw [← dE] at df aI;rw [← dD] at br;rw [← d6,← d7,← d8] at bp bq di dC dj;rw [← d4] at aJ;rw [← d5] at dC dj;rw [← dF,← dG,← d9] at de bR bZ ⊢;rw [← dF,← dG,← ea] at dk;obtain ⟨kk,ec⟩:=e_ (1+m1+2*m2+mo);rw [← ec] at dk;obtain ⟨ed,bs⟩:∃ p:Prop,p=((Small P∧m2≤1048576)∧cntO O≤1048576):=⟨_,rfl⟩;have eD:Hid (ed→kk≤16777216):=z_ (fun h=>by rw [bs] at h;have h1:=h.1.1.1;have h2:=h.1.2;have h3:=eb.out h.2;omega);have eE:Hid (tz≤4194304):=z_ (by have:=dh.out;omega);rw [← bs] at de bR;rw [← bs] at dk;clear h hl ht dd hX hT hz bY dE dY dZ ck dD d4 d5 d6 d7 d8 dF dG d9 ea ec eb bs dh;obtain ⟨W,hW⟩:=e_ ((w.alloc (.cells #[.slice A1 m1 c1,.slice A2 m2 c2,.slice A3 m3 c3] 28)).alloc (.cells #[.int .i64 o1,.string (bstr n1),.int .i64 s1,.slice B1 l1 d1] 32));have ee:Below w.heap.size w W:=by
  rw [hW];exact v_
 have ef:Box34 w.heap.size (w.heap.size+1) (.slice A1 m1 c1) (.slice A2 m2 c2) (.slice A3 m3 c3) (.int .i64 o1) (.string (bstr n1)) (.int .i64 s1) (.slice B1 l1 d1) W:=⟨box3 (by rw [hW];exact qbh _ _ _),box4 (by rw [hW];exact termt.qa5 _ _ _ (by simp))⟩;have HX:=z_ ef;have dl:=z_ ee;clear ee ef;obtain ⟨⟨x0,x1,x2⟩,_⟩:=HX.out;go_enter Tryz.func3,Tryz.ntmps3
 go_wp2_with fail
 rw [← hW];clear hW;refine (de.out _ dl.out).mono ?_;rintro e w1 ⟨r,rfl,hr,dm,ct,ax⟩;have cu:=z_ (dl.out.trans (ax.mono dl.out.size));have eg:=z_ (Box34.below HX.out ax);have HR:=z_ hr;clear ax HX dl hr x0 x1 x2 dm;by_cases eF:r<0
 ·go_wp2
  go_ret;exact ⟨rfl,cu.out⟩
 go_wp2_with fail
 refine (dV.out _ cu.out r o_ ct).mono ?_;rintro e w2 ⟨r',rfl,eh,dH,cv,hb2⟩;have cw:=z_ (cu.out.trans (hb2.mono cu.out.size));have dI:=z_ (Box34.below eg.out hb2);have ei:=z_ eh;clear hb2 eg cu eh dH;by_cases ej:r'<0
 ·go_wp2
  go_ret;exact ⟨rfl,cw.out⟩
 obtain ⟨_,y0,y1,y2,y3⟩:=dI.out;go_wp2_with fail
 refine (df.out _ cw.out r' o_ cv).mono ?_;rintro e w3 ⟨r3,rfl,cx,dJ,dK,al⟩;have dL:=z_ (cw.out.trans (al.mono cw.out.size));have dM:=z_ (Box34.below dI.out al);have dn:=z_ cx;clear al y0 y1 y2 y3 dI cw cx dJ;by_cases ek:r3<0
 ·go_wp2
  go_ret;exact ⟨rfl,dL.out⟩
 have ab:Hid (ed∧bsz σ≤1048576∧sizes t.args≤1048576):=z_ ⟨HR.out o_,by have:=ei.out o_;omega,by have:=dn.out o_;omega⟩;clear HR ei dn cv ct dK de dV df;have em:w.heap.size+2≤w3.heap.size:=by
  have h1:=l_ dM.out.2.1;have:w.heap.size+1<w3.heap.size:=h1;omega
 have ac:Hid (w.heap.size+2≤w3.heap.size):=z_ em;have bT:Hid (Below (w.heap.size+2) w3 w3):=z_ b_;have F3:Hid (∀ wk,Below (w.heap.size+2) w3 wk→Below w.heap.size w wk∧Box34 w.heap.size (w.heap.size+1) (.slice A1 m1 c1) (.slice A2 m2 c2) (.slice A3 m3 c3) (.int .i64 o1) (.string (bstr n1)) (.int .i64 s1) (.slice B1 l1 d1) wk∧True):=z_ (fun wk hk=>⟨dL.out.trans (hk.mono o_),Box34.belowB dM.out o_ o_ hk,trivial⟩);clear dL dM;go_upto_region 11 with fail
 go_cut [8,9] (fun s8 s9 wx=>∃ g8 F7 f7,s8=.pointer (some ⟨g8,0,none⟩)∧s9=.bool z∧Hid (Below (w.heap.size+2) w3 wx∧wx.heap[g8]? =some (.cells #[.int .i64 tq,.string (bstr tn),.int .i64 ts,.slice F7 tl f7] 38 (0,0))∧HasTs 22 0 wx (.slice F7 tl f7) T.args))
 case first=>
  refine wp_region_noPanic ?_;refine wp_region_held_drew (S:=(Box34 w.heap.size (w.heap.size+1) (.slice A1 m1 c1) (.slice A2 m2 c2) (.slice A3 m3 c3) (.int .i64 o1) (.string (bstr n1)) (.int .i64 s1) (.slice B1 l1 d1))) k_ ?_ (fun au=>?_)
  ·exact (F3.out _ bT.out.drew).2.1
  refine t_k 0 ?_;refine t_k 2 ?_;refine t_k 4 ?_;refine r_d [1,10] ?_;refine c_s (fun K hK=>?_) ?_
  ·(go_simp;refine (bR.out w3.drew (F3.out _ bT.out.drew).1 ab.out.1).mono ?_;rintro e y1 ⟨u1,u2,u3,rfl,hG,_,_,_,ax⟩;obtain ⟨J1,j1,J2,j2,J3,j3,rfl,rfl,rfl⟩:=bZ.out hG;replace hG:=z_ hG;have an:=z_ (bT.out.drew.trans (ax.mono (Nat.le_trans ac.out bT.out.drew.size)));have hX:=(F3.out y1 an.out).2.1;clear ax;(try dsimp only))
   refine k_o hK ?_ (fun av=>?_)
   ·exact c124_
   clear hK K au;refine r_d [3,10] ?_;refine c_s (fun K hK=>?_) ?_
   ·(go_simp;refine (bS.out y1 (F3.out _ an.out).1 ab.out.2.1).mono ?_;rintro e y3 ⟨u4,S4,rfl,hP,al⟩;obtain ⟨J5,j5,rfl⟩:=br.out hP;replace hP:=z_ (OB.has hP);have aj:=z_ (an.out.trans (al.mono (Nat.le_trans ac.out an.out.size)));have hX:=(F3.out y3 aj.out).2.1;replace hG:=z_ (hG.out.below n_ al);clear al;(try dsimp only))
    refine k_o hK ?_ (fun aw=>?_)
    ·exact c124_
    clear hK K av;refine r_d [5,10] ?_;refine c_s (fun K hK=>?_) ?_
    ·(go_simp;refine (aI.out y3 (F3.out _ aj.out).1 ab.out.2.2).mono ?_;rintro e y5 ⟨u5,S5,rfl,hQ,ad⟩;obtain ⟨J6,j6,rfl⟩:=aK.out hQ;replace hQ:=z_ hQ;have ag:=z_ (aj.out.trans (ad.mono (Nat.le_trans ac.out aj.out.size)));have hX:=(F3.out y5 ag.out).2.1;replace hG:=z_ (hG.out.below n_ ad);replace hP:=z_ (HasR.below (qav _) hP.out n_ ad);clear ad;(try dsimp only))
     refine k_o hK ?_ (fun aB=>?_)
     ·exact c124_
     clear hK K aw;refine r_d [6,10] ?_;refine c_s (fun K hK=>?_) ?_
     ·(go_simp;refine (bp.out _ _ _ _ _ y5 _ _ _ _ hG.out hP.out hQ.out.has ab.out.2.1 ab.out.2.2).mono ?_;rintro e y6 ⟨u6,rfl,hT,ah⟩;obtain ⟨F6,f6,rfl⟩:=aJ.out hT;replace hT:=z_ hT;have ae:=z_ (ag.out.trans (ah.mono (Nat.le_trans ac.out ag.out.size)));have hX:=(F3.out y6 ae.out).2.1;clear ah;(try dsimp only))
      refine k_o hK ?_ (fun b0=>?_)
      ·exact c124_
      clear hK K aB;refine t_k 7 ?_;refine t_k 8 ?_;refine t_k 9 ?_;refine r_d [10] ?_;refine c_s (fun K hK=>?_) ?_
      ·(go_simp;have hX:=z_ (fun ob=>(F3.out _ (ae.out.alloc (Nat.le_trans ac.out ae.out.size) ob)).2.1))
       exact c119_
      exact a_l
     refine c_s (fun K hK=>?_) ?_
     ·(go_simp;obtain ⟨yA,af⟩:=e_ (y5.alloc (.cells #[.int .i64 0,.string { data:=#[] },.int .i64 0,.slice none 0 0] 38));have ak:=fr1_ af;have hA:=fr2_ af;have aa:(w.heap.size+2)≤y5.heap.size:=Nat.le_trans ac.out (ag.out).size;rw [← af];clear af;have ai:=z_ (ag.out.trans (ak.mono (Nat.le_trans ac.out ag.out.size)));have hX:=(F3.out yA ai.out).2.1;replace hG:=z_ (hG.out.below n_ ak);replace hP:=z_ (HasR.below (qav _) hP.out n_ ak);replace hQ:=z_ (hQ.out.below ak);clear ak;obtain ⟨ga,ao⟩:=e_ (y5.heap.size);rw [← ao] at aa hA ⊢;clear ao;replace aa:=z_ aa;replace hA:=z_ hA;(try dsimp only))
      refine k_o hK ?_ (fun b3=>?_)
      ·exact c124_
      clear hK K aB;refine r_d [6] ?_;refine c_s (fun K hK=>?_) ?_
      ·(go_simp;refine (bp.out _ _ _ _ _ yA _ _ _ _ hG.out hP.out hQ.out.has ab.out.2.1 ab.out.2.2).mono ?_;rintro e y6 ⟨u6,rfl,hT,ah⟩;obtain ⟨F6,f6,rfl⟩:=aJ.out hT;replace hT:=z_ hT;have aq:Hid (ga<(yA).heap.size):=z_ (q_ hA.out);have ae:=z_ (ai.out.trans (ah.mono (Nat.le_trans ac.out ai.out.size)));have hX:=(F3.out y6 ae.out).2.1;replace hA:=z_ ((ah.block _ (q_ hA.out)).trans hA.out);clear ah;(try dsimp only))
       refine k_o hK ?_ (fun b4=>?_)
       ·exact c124_
       clear hK K b3;refine t_k 7 ?_;refine t_k 8 ?_;refine t_k 9 ?_;refine r_d [11] ?_;refine c_s (fun K hK=>?_) ?_
       ·(obtain ⟨z0,z1,z2,z3⟩:=box4 hA.out;have q0:=g_ y6 _ 0 _ _ hA.out;have q1:=g_ y6 _ 1 _ _ hA.out;have q2:=g_ y6 _ 2 _ _ hA.out;have q3:=g_ y6 _ 3 _ _ hA.out;go_simp;have hX:=z_ (fun u0 u1 u2 u3=>(F3.out _ (qa6 ae.out aa.out u0 u1 u2 u3)).2.1))
        exact c120_
       exact a_l
      exact a_l
     exact a_l
    refine c_s (fun K hK=>?_) ?_
    ·(go_simp;obtain ⟨yA,af⟩:=e_ (y3.alloc (.cells #[.int .i64 0,.string { data:=#[] },.int .i64 0,.slice none 0 0] 38));have ak:=fr1_ af;have hA:=fr2_ af;have aa:(w.heap.size+2)≤y3.heap.size:=Nat.le_trans ac.out (aj.out).size;rw [← af];clear af;have ai:=z_ (aj.out.trans (ak.mono (Nat.le_trans ac.out aj.out.size)));have hX:=(F3.out yA ai.out).2.1;replace hG:=z_ (hG.out.below n_ ak);replace hP:=z_ (HasR.below (qav _) hP.out n_ ak);clear ak;obtain ⟨ga,ao⟩:=e_ (y3.heap.size);rw [← ao] at aa hA ⊢;clear ao;replace aa:=z_ aa;replace hA:=z_ hA;(try dsimp only))
     refine k_o hK ?_ (fun aM=>?_)
     ·exact c124_
     clear hK K aw;refine r_d [5] ?_;refine c_s (fun K hK=>?_) ?_
     ·(go_simp;refine (aI.out yA (F3.out _ ai.out).1 ab.out.2.2).mono ?_;rintro e y5 ⟨u5,S5,rfl,hQ,ad⟩;obtain ⟨J6,j6,rfl⟩:=aK.out hQ;replace hQ:=z_ hQ;have ag:=z_ (ai.out.trans (ad.mono (Nat.le_trans ac.out ai.out.size)));have hX:=(F3.out y5 ag.out).2.1;replace hG:=z_ (hG.out.below n_ ad);replace hP:=z_ (HasR.below (qav _) hP.out n_ ad);replace hA:=z_ ((ad.block _ (q_ hA.out)).trans hA.out);clear ad;(try dsimp only))
      refine k_o hK ?_ (fun aN=>?_)
      ·exact c124_
      clear hK K aM;refine r_d [6] ?_;refine c_s (fun K hK=>?_) ?_
      ·(go_simp;refine (bp.out _ _ _ _ _ y5 _ _ _ _ hG.out hP.out hQ.out.has ab.out.2.1 ab.out.2.2).mono ?_;rintro e y6 ⟨u6,rfl,hT,ah⟩;obtain ⟨F6,f6,rfl⟩:=aJ.out hT;replace hT:=z_ hT;have aq:Hid (ga<(y5).heap.size):=z_ (q_ hA.out);have ae:=z_ (ag.out.trans (ah.mono (Nat.le_trans ac.out ag.out.size)));have hX:=(F3.out y6 ae.out).2.1;replace hA:=z_ ((ah.block _ (q_ hA.out)).trans hA.out);clear ah;(try dsimp only))
       refine k_o hK ?_ (fun aO=>?_)
       ·exact c124_
       clear hK K aN;refine t_k 7 ?_;refine t_k 8 ?_;refine t_k 9 ?_;refine r_d [11] ?_;refine c_s (fun K hK=>?_) ?_
       ·(obtain ⟨z0,z1,z2,z3⟩:=box4 hA.out;have q0:=g_ y6 _ 0 _ _ hA.out;have q1:=g_ y6 _ 1 _ _ hA.out;have q2:=g_ y6 _ 2 _ _ hA.out;have q3:=g_ y6 _ 3 _ _ hA.out;go_simp;have hX:=z_ (fun u0 u1 u2 u3=>(F3.out _ (qa6 ae.out aa.out u0 u1 u2 u3)).2.1))
        exact c121_
       exact a_l
      exact a_l
     exact a_l
    exact a_l
   refine c_s (fun K hK=>?_) ?_
   ·(go_simp;obtain ⟨yA,af⟩:=e_ (y1.alloc (.cells #[.int .i64 0,.string { data:=#[] },.int .i64 0,.slice none 0 0] 38));have ak:=fr1_ af;have hA:=fr2_ af;have aa:(w.heap.size+2)≤y1.heap.size:=Nat.le_trans ac.out (an.out).size;rw [← af];clear af;have ai:=z_ (an.out.trans (ak.mono (Nat.le_trans ac.out an.out.size)));have hX:=(F3.out yA ai.out).2.1;replace hG:=z_ (hG.out.below n_ ak);clear ak;obtain ⟨ga,ao⟩:=e_ (y1.heap.size);rw [← ao] at aa hA ⊢;clear ao;replace aa:=z_ aa;replace hA:=z_ hA;(try dsimp only))
    refine k_o hK ?_ (fun aQ=>?_)
    ·exact c124_
    clear hK K av;refine r_d [3] ?_;refine c_s (fun K hK=>?_) ?_
    ·(go_simp;refine (bS.out yA (F3.out _ ai.out).1 ab.out.2.1).mono ?_;rintro e y3 ⟨u4,S4,rfl,hP,al⟩;obtain ⟨J5,j5,rfl⟩:=br.out hP;replace hP:=z_ (OB.has hP);have aj:=z_ (ai.out.trans (al.mono (Nat.le_trans ac.out ai.out.size)));have hX:=(F3.out y3 aj.out).2.1;replace hG:=z_ (hG.out.below n_ al);replace hA:=z_ ((al.block _ (q_ hA.out)).trans hA.out);clear al;(try dsimp only))
     refine k_o hK ?_ (fun aR=>?_)
     ·exact c124_
     clear hK K aQ;refine r_d [5] ?_;refine c_s (fun K hK=>?_) ?_
     ·(go_simp;refine (aI.out y3 (F3.out _ aj.out).1 ab.out.2.2).mono ?_;rintro e y5 ⟨u5,S5,rfl,hQ,ad⟩;obtain ⟨J6,j6,rfl⟩:=aK.out hQ;replace hQ:=z_ hQ;have ag:=z_ (aj.out.trans (ad.mono (Nat.le_trans ac.out aj.out.size)));have hX:=(F3.out y5 ag.out).2.1;replace hG:=z_ (hG.out.below n_ ad);replace hP:=z_ (HasR.below (qav _) hP.out n_ ad);replace hA:=z_ ((ad.block _ (q_ hA.out)).trans hA.out);clear ad;(try dsimp only))
      refine k_o hK ?_ (fun aS=>?_)
      ·exact c124_
      clear hK K aR;refine r_d [6] ?_;refine c_s (fun K hK=>?_) ?_
      ·(go_simp;refine (bp.out _ _ _ _ _ y5 _ _ _ _ hG.out hP.out hQ.out.has ab.out.2.1 ab.out.2.2).mono ?_;rintro e y6 ⟨u6,rfl,hT,ah⟩;obtain ⟨F6,f6,rfl⟩:=aJ.out hT;replace hT:=z_ hT;have aq:Hid (ga<(y5).heap.size):=z_ (q_ hA.out);have ae:=z_ (ag.out.trans (ah.mono (Nat.le_trans ac.out ag.out.size)));have hX:=(F3.out y6 ae.out).2.1;replace hA:=z_ ((ah.block _ (q_ hA.out)).trans hA.out);clear ah;(try dsimp only))
       refine k_o hK ?_ (fun aT=>?_)
       ·exact c124_
       clear hK K aS;refine t_k 7 ?_;refine t_k 8 ?_;refine t_k 9 ?_;refine r_d [11] ?_;refine c_s (fun K hK=>?_) ?_
       ·(obtain ⟨z0,z1,z2,z3⟩:=box4 hA.out;have q0:=g_ y6 _ 0 _ _ hA.out;have q1:=g_ y6 _ 1 _ _ hA.out;have q2:=g_ y6 _ 2 _ _ hA.out;have q3:=g_ y6 _ 3 _ _ hA.out;go_simp;have hX:=z_ (fun u0 u1 u2 u3=>(F3.out _ (qa6 ae.out aa.out u0 u1 u2 u3)).2.1))
        exact c122_
       exact a_l
      exact a_l
     exact a_l
    exact a_l
   exact a_l
  refine c_s (fun K hK=>?_) ?_
  ·(go_simp;obtain ⟨yA,af⟩:=e_ ((w3.alloc (.cells #[.int .i64 0,.string { data:=#[] },.int .i64 0,.slice none 0 0] 38)).drew);have ak:Below w3.drew.heap.size w3.drew yA:=(by rw [af];exact (Below.refl (w3.drew).heap.size (w3.drew)).alloc n_ (.cells #[.int .i64 0,.string { data:=#[] },.int .i64 0,.slice none 0 0] 38));have hA:yA.heap[w3.heap.size]? =some (.cells #[.int .i64 0,.string { data:=#[] },.int .i64 0,.slice none 0 0] 38 (0,0)):=(by rw [af];exact termt.qa5 w3 _ _ rfl);have aa:(w.heap.size+2)≤w3.heap.size:=Nat.le_trans ac.out (bT.out.drew).size;rw [← af];clear af;have ai:=z_ (bT.out.drew.trans (ak.mono (Nat.le_trans ac.out bT.out.drew.size)));have hX:=(F3.out yA ai.out).2.1;clear ak;obtain ⟨ga,ao⟩:=e_ (w3.heap.size);rw [← ao] at aa hA ⊢;clear ao;replace aa:=z_ aa;replace hA:=z_ hA;(try dsimp only))
   refine k_o hK ?_ (fun aV=>?_)
   ·exact c124_
   clear hK K au;refine r_d [1] ?_;refine c_s (fun K hK=>?_) ?_
   ·(go_simp;refine (bR.out yA (F3.out _ ai.out).1 ab.out.1).mono ?_;rintro e y1 ⟨u1,u2,u3,rfl,hG,_,_,_,ax⟩;obtain ⟨J1,j1,J2,j2,J3,j3,rfl,rfl,rfl⟩:=bZ.out hG;replace hG:=z_ hG;have an:=z_ (ai.out.trans (ax.mono (Nat.le_trans ac.out ai.out.size)));have hX:=(F3.out y1 an.out).2.1;replace hA:=z_ ((ax.block _ (q_ hA.out)).trans hA.out);clear ax;(try dsimp only))
    refine k_o hK ?_ (fun aW=>?_)
    ·exact c124_
    clear hK K aV;refine r_d [3] ?_;refine c_s (fun K hK=>?_) ?_
    ·(go_simp;refine (bS.out y1 (F3.out _ an.out).1 ab.out.2.1).mono ?_;rintro e y3 ⟨u4,S4,rfl,hP,al⟩;obtain ⟨J5,j5,rfl⟩:=br.out hP;replace hP:=z_ (OB.has hP);have aj:=z_ (an.out.trans (al.mono (Nat.le_trans ac.out an.out.size)));have hX:=(F3.out y3 aj.out).2.1;replace hG:=z_ (hG.out.below n_ al);replace hA:=z_ ((al.block _ (q_ hA.out)).trans hA.out);clear al;(try dsimp only))
     refine k_o hK ?_ (fun aX=>?_)
     ·exact c124_
     clear hK K aW;refine r_d [5] ?_;refine c_s (fun K hK=>?_) ?_
     ·(go_simp;refine (aI.out y3 (F3.out _ aj.out).1 ab.out.2.2).mono ?_;rintro e y5 ⟨u5,S5,rfl,hQ,ad⟩;obtain ⟨J6,j6,rfl⟩:=aK.out hQ;replace hQ:=z_ hQ;have ag:=z_ (aj.out.trans (ad.mono (Nat.le_trans ac.out aj.out.size)));have hX:=(F3.out y5 ag.out).2.1;replace hG:=z_ (hG.out.below n_ ad);replace hP:=z_ (HasR.below (qav _) hP.out n_ ad);replace hA:=z_ ((ad.block _ (q_ hA.out)).trans hA.out);clear ad;(try dsimp only))
      refine k_o hK ?_ (fun aY=>?_)
      ·exact c124_
      clear hK K aX;refine r_d [6] ?_;refine c_s (fun K hK=>?_) ?_
      ·(go_simp;refine (bp.out _ _ _ _ _ y5 _ _ _ _ hG.out hP.out hQ.out.has ab.out.2.1 ab.out.2.2).mono ?_;rintro e y6 ⟨u6,rfl,hT,ah⟩;obtain ⟨F6,f6,rfl⟩:=aJ.out hT;replace hT:=z_ hT;have aq:Hid (ga<(y5).heap.size):=z_ (q_ hA.out);have ae:=z_ (ag.out.trans (ah.mono (Nat.le_trans ac.out ag.out.size)));have hX:=(F3.out y6 ae.out).2.1;replace hA:=z_ ((ah.block _ (q_ hA.out)).trans hA.out);clear ah;(try dsimp only))
       refine k_o hK ?_ (fun aZ=>?_)
       ·exact c124_
       clear hK K aY;refine t_k 7 ?_;refine t_k 8 ?_;refine t_k 9 ?_;refine r_d [11] ?_;refine c_s (fun K hK=>?_) ?_
       ·(obtain ⟨z0,z1,z2,z3⟩:=box4 hA.out;have q0:=g_ y6 _ 0 _ _ hA.out;have q1:=g_ y6 _ 1 _ _ hA.out;have q2:=g_ y6 _ 2 _ _ hA.out;have q3:=g_ y6 _ 3 _ _ hA.out;go_simp;have hX:=z_ (fun u0 u1 u2 u3=>(F3.out _ (qa6 ae.out aa.out u0 u1 u2 u3)).2.1))
        exact c123_
       exact a_l
      exact a_l
     exact a_l
    exact a_l
   exact a_l
  exact a_l
 case rest=>
  obtain ⟨bw,F7,f7,rfl,rfl,cC⟩:=hcut;have bU:=z_ (F3.out wc cC.out.1).1;have dp:=z_ (F3.out wc cC.out.1).2.1;have H8:=z_ cC.out.2.2;have dq:=z_ cC.out.2.1;have eG:bw<wc.heap.size:=(q_ dq.out);clear cC F3 bT ac em bp;obtain ⟨⟨x0,x1,x2⟩,_⟩:=dp.out;go_wp2_with fail
  refine (bR.out wc bU.out ab.out.1).mono ?_;rintro e w9 ⟨v1,v2,v3,rfl,hG,dm,ct,cx,dr⟩;obtain ⟨G1,g1,G2,g2,G3,g3,rfl,rfl,rfl⟩:=bZ.out hG;obtain ⟨dt,a6⟩:=e_ (w9.alloc (.cells #[.slice G1 m1 g1,.slice G2 m2 g2,.slice G3 m3 g3] 46));have aD:=fr1_ a6;have cD:=fr2_ a6;have eH:=fr3_ a6;have e7:=dr.size;have ay:=z_ (dr.trans (aD.mono dr.size));have bt:=z_ (bU.out.trans (ay.out.mono bU.out.size));have cE:=z_ (Box34.below dp.out ay.out);have cF:=z_ (hG.below n_ aD);have eI:=z_ dm;have eJ:=z_ ct;have dn:=z_ cx;have cG:=z_ cD;have a7:=z_ aD;clear hG dm ct cx dr aD cD x0 x1 x2;go_upto_region 13 with fail
  rw [← a6];clear a6;go_wp2_with fail
  refine (bS.out dt bt.out ab.out.2.1).mono ?_;rintro e cm ⟨e8,S11,rfl,bu,a8⟩;obtain ⟨en,eo,rfl⟩:=br.out bu;have cH:=z_ (bt.out.trans (a8.mono bt.out.size));have b5:=z_ (Box34.below cE.out a8);have cI:=z_ bu;have ba:=z_ a8;have bb:Hid (∀ k∈S11,dt.heap.size≤k∧k<cm.heap.size):=z_ (fun k hk=>OB.lt bu k hk);have eK:=a8.size;clear bu a8;obtain ⟨_,y0,y1,y2,y3⟩:=b5.out;go_wp2_with fail
  refine (aI.out cm cH.out ab.out.2.2).mono ?_;rintro e bV ⟨e9,cJ,rfl,bv,bx⟩;obtain ⟨bz,bA,rfl⟩:=aK.out bv;obtain ⟨cn,bc⟩:=e_ (bV.alloc (.cells #[.int .i64 o1,.string (bstr n1),.int .i64 s1,.slice bz l1 bA] 38));have bd:=fr1_ bc;have cK:=fr2_ bc;have eL:=fr3_ bc;have eM:=bx.size;have du:=bx.trans (bd.mono bx.size);have ap:=z_ (ba.out.trans (du.mono ba.out.size));have cM:=z_ (Box34.below b5.out du);have b6:=z_ (cF.out.below n_ ap.out);have b7:=z_ (OB.below cI.out du);have bB:=z_ (bv.below bd);have be:Hid (∀ k∈cJ,cm.heap.size≤k∧k<bV.heap.size):=z_ (fun k hk=>bv.lt k hk);have aE:=z_ (And.intro ((ap.out.block _ o_).trans cG.out) cK);clear bv bx bd cK du y0 y1 y2 y3 b5 cI ba cG cF cE;obtain ⟨p0,p1,p2⟩:=box3 aE.out.1;obtain ⟨y0,y1,y2,y3⟩:=box4 aE.out.2;go_upto_region 15 with fail
  rw [← bc];clear bc;go_wp2_with fail
  clear p0 p1 p2 y0 y1 y2 y3;refine (bq.out _ _ _ _ _ cn _ _ _ _ b6.out (OB.has b7.out) bB.out.has ab.out.2.1 ab.out.2.2 (cl.out bB.out)).mono ?_;rintro e az ⟨fa,co,rfl,bC,bD⟩;obtain ⟨b8,f14,rfl⟩:=aJ.out bC.has;obtain ⟨W,hW⟩:=e_ (az.alloc (.cells #[.int .i64 tq,.string (bstr tn),.int .i64 ts,.slice b8 tl f14] 38));have dw:=fr1_ hW;have hV:=fr2_ hW;have fb:=fr3_ hW;have eN:=bD.size;have am:=bD.trans (dw.mono bD.size);have bf:=ap.out.trans (am.mono ap.out.size);have aF:=ay.out.trans (bf.mono ay.out.size);have dO:=bU.out.trans (aF.mono bU.out.size);have cN:=a7.out.trans (bf.mono a7.out.size);have ep:Box34 w.heap.size (w.heap.size+1) (.slice A1 m1 c1) (.slice A2 m2 c2) (.slice A3 m3 c3) (.int .i64 o1) (.string (bstr n1)) (.int .i64 s1) (.slice B1 l1 d1) W:=Box34.below cM.out am;have eq:Box34 w9.heap.size bV.heap.size (.slice G1 m1 g1) (.slice G2 m2 g2) (.slice G3 m3 g3) (.int .i64 o1) (.string (bstr n1)) (.int .i64 s1) (.slice bz l1 bA) W:=⟨box3 ((am.block _ o_).trans aE.out.1),box4 ((am.block _ o_).trans aE.out.2)⟩;have er:=(aF.block _ o_).trans dq.out
  have FC:Hid (∀ wk,Below W.heap.size W wk→Below w.heap.size w wk∧(Box34 w.heap.size (w.heap.size+1) (.slice A1 m1 c1) (.slice A2 m2 c2) (.slice A3 m3 c3) (.int .i64 o1) (.string (bstr n1)) (.int .i64 s1) (.slice B1 l1 d1) wk∧Box34 w9.heap.size bV.heap.size (.slice G1 m1 g1) (.slice G2 m2 g2) (.slice G3 m3 g3) (.int .i64 o1) (.string (bstr n1)) (.int .i64 s1) (.slice bz l1 bA) wk)∧(wk.cell? ⟨bw,0,none⟩=some (.int .i64 tq)∧wk.cell? ⟨bw,1,none⟩=some (.string (bstr tn))∧wk.cell? ⟨bw,2,none⟩=some (.int .i64 ts)∧wk.cell? ⟨bw,3,none⟩=some (.slice F7 tl f7))∧(wk.cell? ⟨az.heap.size,0,none⟩=some (.int .i64 tq)∧wk.cell? ⟨az.heap.size,1,none⟩=some (.string (bstr tn))∧wk.cell? ⟨az.heap.size,2,none⟩=some (.int .i64 ts)∧wk.cell? ⟨az.heap.size,3,none⟩=some (.slice b8 tl f14))):=z_ (fun wk hk=>
   ⟨dO.trans (hk.mono dO.size),⟨Box34.below ep hk,Box34.below eq hk⟩,box4 ((hk.block _ o_).trans er),box4 ((hk.block _ o_).trans hV)⟩)
  have FM:Hid (∀ wk,Below W.heap.size W wk→HasTs 22 0 wk (.slice F7 tl f7) T.args∧HasG wk (.slice G1 m1 g1) (.slice G2 m2 g2) (.slice G3 m3 g3) P Q O∧OB (n+1) dt.heap.size wk (.slice en ml eo) σ S11∧OT 38 (n+1) cm.heap.size wk (.slice bz l1 bA) t.args cJ∧OT 38 (depth T) cn.heap.size wk (.slice b8 tl f14) T.args co):=z_ (fun wk hk=>by
   have eO:=aF.trans (hk.mono aF.size);have b9:=am.trans (hk.mono am.size)
   exact ⟨H8.out.below n_ eO,b6.out.below n_ b9,OB.below b7.out b9,bB.out.below b9,bC.below (dw.trans (hk.mono dw.size))⟩)
  have FX:Hid (∀ X,X.heap[az.heap.size]? =W.heap[az.heap.size]? → Below wc.heap.size wc X→W.heap.size≤X.heap.size→∀ wk,Below X.heap.size X wk→Below w.heap.size w wk∧Box34 w.heap.size (w.heap.size+1) (.slice A1 m1 c1) (.slice A2 m2 c2) (.slice A3 m3 c3) (.int .i64 o1) (.string (bstr n1)) (.int .i64 s1) (.slice B1 l1 d1) wk∧(wk.cell? ⟨bw,0,none⟩=some (.int .i64 tq)∧wk.cell? ⟨bw,1,none⟩=some (.string (bstr tn))∧wk.cell? ⟨bw,2,none⟩=some (.int .i64 ts)∧wk.cell? ⟨bw,3,none⟩=some (.slice F7 tl f7))∧(wk.cell? ⟨az.heap.size,0,none⟩=some (.int .i64 tq)∧wk.cell? ⟨az.heap.size,1,none⟩=some (.string (bstr tn))∧wk.cell? ⟨az.heap.size,2,none⟩=some (.int .i64 ts)∧wk.cell? ⟨az.heap.size,3,none⟩=some (.slice b8 tl f14))∧HasTs 22 0 wk (.slice F7 tl f7) T.args):=z_ (fun X e h6 hs wk hk=>by
   have dx:=h6.trans (hk.mono h6.size)
   exact ⟨bU.out.trans (dx.mono bU.out.size),Box34.below dp.out dx,box4 ((dx.block _ o_).trans dq.out),box4 ((hk.block _ o_).trans (e.trans hV)),H8.out.below n_ dx⟩)
  have FT:Hid (W.heap[bV.heap.size]? =some (.cells #[.int .i64 o1,.string (bstr n1),.int .i64 s1,.slice bz l1 bA] 38 (0,0))):=z_ ((am.block _ o_).trans aE.out.2);have F8:=z_ aF;have F9:=z_ cN;have bg:Hid (∀ k∈co,cn.heap.size≤k∧k<az.heap.size):=z_ (fun k hk=>bC.lt k hk);have FW:=z_ (Below.refl W.heap.size W);clear bC bD dw hV am bf aF dO cN ep eq er aE dq H8 bU dp ay bt cH b6 b7 bB ap cM a7;go_upto_region 16 with fail
  rw [← hW];clear hW;obtain ⟨_,_,⟨y0,y1,y2,y3⟩,p0,p1,p2,p3⟩:=FC.out W FW.out;have nz:(z != z)=false:=by simp
  go_wp2_with fail
  clear y0 y1 y2 y3 p0 p1 p2 p3;refine (di.out _ _ W _ _ _ _ (FM.out W FW.out).2.2.2.2.has (FM.out W FW.out).1).mono ?_;rintro e eP ⟨rfl,cO⟩;have bE:=z_ cO;clear cO;go_wp2_with fail
  refine wp_region_noPanic ?_;refine wp_region_held_drew (S:=(fun w'=>Box34 w.heap.size (w.heap.size+1) (.slice A1 m1 c1) (.slice A2 m2 c2) (.slice A3 m3 c3) (.int .i64 o1) (.string (bstr n1)) (.int .i64 s1) (.slice B1 l1 d1) w'∧Box34 w9.heap.size bV.heap.size (.slice G1 m1 g1) (.slice G2 m2 g2) (.slice G3 m3 g3) (.int .i64 o1) (.string (bstr n1)) (.int .i64 s1) (.slice bz l1 bA) w')) k_ ?_ (fun au=>?_)
  ·exact (FC.out _ bE.out.drew).2.1
  refine t_k 0 ?_;refine t_k 1 ?_;refine r_d [2] ?_;refine c_s (fun K hK=>?_) ?_
  ·(go_simp;refine (bR.out eP.drew (FC.out _ bE.out.drew).1 ab.out.1).mono ?_;rintro e dy ⟨u1,u2,u3,rfl,cP,_,_,_,cQ⟩;obtain ⟨J1,j1,J2,j2,J3,j3,rfl,rfl,rfl⟩:=bZ.out cP;have bh:Below W.heap.size W dy:=bE.out.drew.trans (cQ.mono bE.out.drew.size);have bF:=(FC.out dy bh).2.1;(try dsimp only))
   refine k_o hK ?_ (fun av=>?_)
   ·exact c125_
   clear hK K au;refine r_d [3] ?_;refine c_s (fun K hK=>?_) ?_
   ·(go_simp;refine (eA.out _ _ _ _ _ _ dy (FM.out dy bh).2.1 cP).mono ?_;rintro e dP ⟨rfl,cR⟩;have ca:Below W.heap.size W dP:=bh.trans (cR.mono bh.size);have bG:=(FC.out dP ca).2.1;(try dsimp only))
    refine k_o hK ?_ (fun aw=>?_)
    ·exact c125_
    clear hK K av;refine r_d [4] ?_;refine c_s (fun K hK=>?_) ?_
    ·go_simp
     refine k_o hK ?_ (fun aB=>?_)
     ·exact c125_
     clear hK K aw;refine wpAnyH_done k_ ?_ _;refine NoPanic.normal ?_;have bH:=z_ ca;clear bF bG cQ cR bh ca;go_wp2_with fail
     refine (bS.out dP (FC.out _ bH.out).1 ab.out.2.1).mono ?_;rintro e et ⟨fc,fd,rfl,cc,cS⟩;obtain ⟨J4,j4,rfl⟩:=br.out cc;have bI:=z_ (bH.out.trans (cS.mono bH.out.size));have cT:=z_ (OB.has cc);clear cc cS bH;go_wp2_with fail
     refine (eB.out _ _ et _ _ _ _ (OB.has (FM.out et bI.out).2.2.1) cT.out).mono ?_;rintro e eQ ⟨rfl,cU⟩;have bJ:=z_ (bI.out.trans (cU.mono bI.out.size));clear cU cT bI;go_wp2_with fail
     refine wp_region_noPanic ?_;refine wp_region_held_drew (S:=(fun w'=>Box34 w.heap.size (w.heap.size+1) (.slice A1 m1 c1) (.slice A2 m2 c2) (.slice A3 m3 c3) (.int .i64 o1) (.string (bstr n1)) (.int .i64 s1) (.slice B1 l1 d1) w'∧Box34 w9.heap.size bV.heap.size (.slice G1 m1 g1) (.slice G2 m2 g2) (.slice G3 m3 g3) (.int .i64 o1) (.string (bstr n1)) (.int .i64 s1) (.slice bz l1 bA) w')) k_ ?_ (fun au=>?_)
     ·exact (FC.out _ bJ.out.drew).2.1
     refine t_k 0 ?_;refine t_k 1 ?_;refine r_d [2] ?_;refine c_s (fun K hK=>?_) ?_
     ·(go_simp;refine (aI.out eQ.drew (FC.out _ bJ.out.drew).1 ab.out.2.2).mono ?_;rintro e dz ⟨fe,ff,rfl,cV,cW⟩;obtain ⟨K1,q1,rfl⟩:=aK.out cV;have bi:Below W.heap.size W dz:=bJ.out.drew.trans (cW.mono bJ.out.drew.size);have bK:=(FC.out dz bi).2.1;(try dsimp only))
      refine k_o hK ?_ (fun av=>?_)
      ·exact c126_
      clear hK K au;refine r_d [3] ?_;refine c_s (fun K hK=>?_) ?_
      ·(go_simp;refine (dW.out _ _ dz _ _ _ _ (FM.out dz bi).2.2.2.1.has cV.has).mono ?_;rintro e bW ⟨rfl,cX⟩;have cd:Below W.heap.size W bW:=bi.trans (cX.mono bi.size);have bL:=(FC.out bW cd).2.1;(try dsimp only))
       refine k_o hK ?_ (fun aw=>?_)
       ·exact c126_
       clear hK K av;refine r_d [4] ?_;refine c_s (fun K hK=>?_) ?_
       ·go_simp
        refine k_o hK ?_ (fun aB=>?_)
        ·exact c126_
        clear hK K aw;refine wpAnyH_done k_ ?_ _;refine NoPanic.normal ?_;have aA:=z_ cd;clear bK bL cW cX bi cd;obtain ⟨_,⟨_,⟨x0,x1,x2⟩,_⟩,_,_⟩:=FC.out bW aA.out;have eR:=aA.out.size;have ce:=z_ (F9.out.trans (aA.out.mono F9.out.size));go_wp2_with fail
        clear x0 x1 x2;refine (dk.out _ _ _ wc.heap.size w9.heap.size bW ab.out.1 o_ (Rw.kept eI.out (Kept.below ce.out n_)) (Rw.kept eJ.out (Kept.below ce.out n_)) (OpR.kept dn.out (Kept.below ce.out n_))).mono ?_;rintro e cY ⟨rfl,cZ⟩;have bj:=cZ.chg
        have aq:∀ k∈List.range' wc.heap.size (w9.heap.size-wc.heap.size),wc.heap.size≤k∧k<w9.heap.size:=fun k hk=>by
         have:=List.mem_range'_1.1 hk;omega
        have bM:Hid (OB (n+1) dt.heap.size cY (.slice en ml eo) σ S11∧OT 38 (n+1) cm.heap.size cY (.slice bz l1 bA) t.args cJ∧OT 38 (depth T) cn.heap.size cY (.slice b8 tl f14) T.args co):=z_ ⟨OB.chg (FM.out bW aA.out).2.2.1 bj (fun k hk hm=>by have:=bb.out k hk;have:=aq k hm;omega),(FM.out bW aA.out).2.2.2.1.chg bj (fun k hk hm=>by have:=be.out k hk;have:=aq k hm;omega),(FM.out bW aA.out).2.2.2.2.chg bj (fun k hk hm=>by have:=bg.out k hk;have:=aq k hm;omega)⟩;have bN:Hid (Chg (List.range' wc.heap.size (w9.heap.size-wc.heap.size)) bW cY):=z_ bj;have eu:=z_ aq;have ev:=z_ (eD.out ab.out.1);clear cZ bj aq;go_wp2_with fail
        refine (eC.out _ S11 cY _ _ bM.out.1 ab.out.2.1 ev.out).mono ?_;rintro e c0 ⟨p,rfl,hp,aG⟩;have eS:Hid (p≤33554432):=z_ (by have:=ab.out.2.1;have:=ev.out;omega);have cf:Hid (OT 38 (n+1) cm.heap.size c0 (.slice bz l1 bA) t.args cJ∧OT 38 (depth T) cn.heap.size c0 (.slice b8 tl f14) T.args co):=z_ ⟨bM.out.2.1.chg aG (fun k hk hm=>by have:=be.out k hk;have:=bb.out k hm;omega),bM.out.2.2.chg aG (fun k hk hm=>by have:=bg.out k hk;have:=bb.out k hm;omega)⟩;have eT:=bN.out.size;have eU:=aG.size
        have c4:∀ k,(k=bV.heap.size∨k=az.heap.size)→c0.heap[k]? =W.heap[k]? := fun k hk=>by
         rw [aG.block k o_ (fun hm=>by have:=bb.out k hm;omega),bN.out.block k o_ (fun hm=>by have:=eu.out k hm;omega)];exact aA.out.block k o_
        have dQ:Hid (Below wc.heap.size wc c0):=z_ (((F8.out.trans (aA.out.mono F8.out.size)).trans (bN.out.below o_ (fun k hk=>(eu.out k hk).1))).trans (aG.below o_ (fun k hk=>by have:=bb.out k hk;omega)));have ew:=z_ c4;clear hp aG c4 bM bN;obtain ⟨x0,x1,x2,x3⟩:=box4 ((ew.out _ (.inl rfl)).trans FT.out);go_wp2_with fail
        clear x0 x1 x2 x3;refine (dX.out _ cJ c0 _ p cf.out.1 ab.out.2.2 eS.out).mono ?_;rintro e cg ⟨q,rfl,bk⟩;have ch:Hid (OT 38 (depth T) cn.heap.size cg (.slice b8 tl f14) T.args co):=z_ (cf.out.2.chg bk (fun k hk hm=>by have:=bg.out k hk;have:=be.out k hm;omega));have eV:=bk.size
        have bl:cg.heap[az.heap.size]? =W.heap[az.heap.size]? := by
         rw [bk.block _ o_ (fun hm=>by have:=be.out _ hm;omega)];exact ew.out _ (.inr rfl)
        have ci:Hid (Below wc.heap.size wc cg):=z_ (dQ.out.trans (bk.below o_ (fun k hk=>by have:=be.out k hk;omega)));have GX:=z_ (FX.out cg bl ci.out o_);have c5:=z_ bl;have fg:decide ((q:Int)<0)=false:=f_;have eW:¬ (q:Int)<0:=o_;clear bk bl cf;obtain ⟨_,_,⟨y0,y1,y2,y3⟩,⟨p0,p1,p2,p3⟩,_⟩:=GX.out cg b_;go_wp2_with fail
        clear y0 y1 y2 y3 p0 p1 p2 p3;refine (di.out _ _ cg _ _ _ _ ch.out.has (GX.out cg b_).2.2.2.2).mono ?_;rintro e ey ⟨rfl,cj⟩;have bm:=z_ cj;have c6:=z_ (ch.out.below cj);clear cj;obtain ⟨_,_,_,⟨p0,p1,p2,p3⟩,_⟩:=GX.out ey bm.out;go_wp2_with fail
        clear p0 p1 p2 p3;refine (dC.out _ co ey _ _ c6.out).mono ?_;rintro e aH ⟨rfl,c7,bO⟩;have c8:=z_ c7;have eX:=bm.out.size;have eY:=bO.size
        have bX:aH.heap[az.heap.size]? =W.heap[az.heap.size]? := by
         rw [bO.block _ o_ (fun hm=>by have:=bg.out _ hm;omega),bm.out.block _ o_];exact c5.out
        have dR:Hid (Below wc.heap.size wc aH):=z_ ((ci.out.trans (bm.out.mono ci.out.size)).trans (bO.below o_ (fun k hk=>by have:=bg.out k hk;omega)));have GY:=z_ (FX.out aH bX dR.out o_);have fh:((tz:Int) != (tz:Int))=false:=by simp
        have eZ:(tz != tz)=false:=by simp
        have fi:decide ((tz:Int)<0)=false:=f_;have e0:¬ (tz:Int)<0:=o_;clear c7 bO bX c6 ch bm;obtain ⟨_,_,_,⟨p0,p1,p2,p3⟩,_⟩:=GY.out aH b_;go_wp2_with fail
        clear p0 p1 p2 p3;refine (dj.out _ aH _ _ c8.out.has).mono ?_;rintro e bo ⟨rfl,c9⟩;have aC:=z_ c9;clear c9;have ac:Hid (aH.heap.size≤aH.heap.size):=z_ n_;go_upto_region 38 with fail
        go_cut [18,19] (fun e4 e5 wx=>∃ dS dT dU,e4=.pointer (some ⟨dS,0,none⟩)∧e5=.bool z∧Hid (Below aH.heap.size aH wx∧wx.heap[dS]? =some (.cells #[.int .i64 tq,.string (bstr tn),.int .i64 ts,.slice dT tl dU] 38 (0,0))∧HasTs (depth T) 0 wx (.slice dT tl dU) T.args))
        case first=>
         refine wp_region_noPanic ?_;refine wp_region_held_drew (S:=(Box34 w.heap.size (w.heap.size+1) (.slice A1 m1 c1) (.slice A2 m2 c2) (.slice A3 m3 c3) (.int .i64 o1) (.string (bstr n1)) (.int .i64 s1) (.slice B1 l1 d1))) k_ ?_ (fun au=>?_)
         ·exact (GY.out _ aC.out.drew).2.1
         refine t_k 0 ?_;refine t_k 2 ?_;refine t_k 4 ?_;refine r_d [1,10] ?_;refine c_s (fun K hK=>?_) ?_
         ·(go_simp;refine (bR.out bo.drew (GY.out _ aC.out.drew).1 ab.out.1).mono ?_;rintro e y1 ⟨u1,u2,u3,rfl,hG,_,_,_,ax⟩;obtain ⟨J1,j1,J2,j2,J3,j3,rfl,rfl,rfl⟩:=bZ.out hG;replace hG:=z_ hG;have an:=z_ (aC.out.drew.trans (ax.mono (Nat.le_trans ac.out aC.out.drew.size)));have hX:=(GY.out y1 an.out).2.1;clear ax;(try dsimp only))
          refine k_o hK ?_ (fun av=>?_)
          ·exact c124_
          clear hK K au;refine r_d [3,10] ?_;refine c_s (fun K hK=>?_) ?_
          ·(go_simp;refine (bS.out y1 (GY.out _ an.out).1 ab.out.2.1).mono ?_;rintro e y3 ⟨u4,S4,rfl,hP,al⟩;obtain ⟨J5,j5,rfl⟩:=br.out hP;replace hP:=z_ (OB.has hP);have aj:=z_ (an.out.trans (al.mono (Nat.le_trans ac.out an.out.size)));have hX:=(GY.out y3 aj.out).2.1;replace hG:=z_ (hG.out.below n_ al);clear al;(try dsimp only))
           refine k_o hK ?_ (fun aw=>?_)
           ·exact c124_
           clear hK K av;refine r_d [5,10] ?_;refine c_s (fun K hK=>?_) ?_
           ·(go_simp;refine (aI.out y3 (GY.out _ aj.out).1 ab.out.2.2).mono ?_;rintro e y5 ⟨u5,S5,rfl,hQ,ad⟩;obtain ⟨J6,j6,rfl⟩:=aK.out hQ;replace hQ:=z_ hQ;have ag:=z_ (aj.out.trans (ad.mono (Nat.le_trans ac.out aj.out.size)));have hX:=(GY.out y5 ag.out).2.1;replace hG:=z_ (hG.out.below n_ ad);replace hP:=z_ (HasR.below (qav _) hP.out n_ ad);clear ad;(try dsimp only))
            refine k_o hK ?_ (fun aB=>?_)
            ·exact c124_
            clear hK K aw;refine r_d [6,10] ?_;refine c_s (fun K hK=>?_) ?_
            ·(go_simp;refine ((bq.out _ _ _ _ _ y5 _ _ _ _ hG.out hP.out hQ.out.has ab.out.2.1 ab.out.2.2 (cl.out hQ.out)).mono (fun e w' h=>(show ∃ v',e=.returned (.tuple #[.agg #[.int .i64 tq,.string (bstr tn),.int .i64 ts,v'],.bool z])∧HasTs (depth T) (y5).heap.size w' v' T.args∧Below (y5).heap.size (y5) w' from ⟨h.choose,h.choose_spec.choose_spec.1,h.choose_spec.choose_spec.2.1.has,h.choose_spec.choose_spec.2.2⟩))).mono ?_;rintro e y6 ⟨u6,rfl,hT,ah⟩;obtain ⟨F6,f6,rfl⟩:=aJ.out hT;replace hT:=z_ hT;have ae:=z_ (ag.out.trans (ah.mono (Nat.le_trans ac.out ag.out.size)));have hX:=(GY.out y6 ae.out).2.1;clear ah;(try dsimp only))
             refine k_o hK ?_ (fun b0=>?_)
             ·exact c124_
             clear hK K aB;refine t_k 7 ?_;refine t_k 8 ?_;refine t_k 9 ?_;refine r_d [10] ?_;refine c_s (fun K hK=>?_) ?_
             ·(go_simp;have hX:=z_ (fun ob=>(GY.out _ (ae.out.alloc (Nat.le_trans ac.out ae.out.size) ob)).2.1))
              exact c119_
             exact a_l
            refine c_s (fun K hK=>?_) ?_
            ·(go_simp;obtain ⟨yA,af⟩:=e_ (y5.alloc (.cells #[.int .i64 0,.string { data:=#[] },.int .i64 0,.slice none 0 0] 38));have ak:=fr1_ af;have hA:=fr2_ af;have aa:aH.heap.size≤y5.heap.size:=Nat.le_trans ac.out (ag.out).size;rw [← af];clear af;have ai:=z_ (ag.out.trans (ak.mono (Nat.le_trans ac.out ag.out.size)));have hX:=(GY.out yA ai.out).2.1;replace hG:=z_ (hG.out.below n_ ak);replace hP:=z_ (HasR.below (qav _) hP.out n_ ak);replace hQ:=z_ (hQ.out.below ak);clear ak;obtain ⟨ga,ao⟩:=e_ (y5.heap.size);rw [← ao] at aa hA ⊢;clear ao;replace aa:=z_ aa;replace hA:=z_ hA;(try dsimp only))
             refine k_o hK ?_ (fun b3=>?_)
             ·exact c124_
             clear hK K aB;refine r_d [6] ?_;refine c_s (fun K hK=>?_) ?_
             ·(go_simp;refine ((bq.out _ _ _ _ _ yA _ _ _ _ hG.out hP.out hQ.out.has ab.out.2.1 ab.out.2.2 (cl.out hQ.out)).mono (fun e w' h=>(show ∃ v',e=.returned (.tuple #[.agg #[.int .i64 tq,.string (bstr tn),.int .i64 ts,v'],.bool z])∧HasTs (depth T) (yA).heap.size w' v' T.args∧Below (yA).heap.size (yA) w' from ⟨h.choose,h.choose_spec.choose_spec.1,h.choose_spec.choose_spec.2.1.has,h.choose_spec.choose_spec.2.2⟩))).mono ?_;rintro e y6 ⟨u6,rfl,hT,ah⟩;obtain ⟨F6,f6,rfl⟩:=aJ.out hT;replace hT:=z_ hT;have aq:Hid (ga<(yA).heap.size):=z_ (q_ hA.out);have ae:=z_ (ai.out.trans (ah.mono (Nat.le_trans ac.out ai.out.size)));have hX:=(GY.out y6 ae.out).2.1;replace hA:=z_ ((ah.block _ (q_ hA.out)).trans hA.out);clear ah;(try dsimp only))
              refine k_o hK ?_ (fun b4=>?_)
              ·exact c124_
              clear hK K b3;refine t_k 7 ?_;refine t_k 8 ?_;refine t_k 9 ?_;refine r_d [11] ?_;refine c_s (fun K hK=>?_) ?_
              ·(obtain ⟨z0,z1,z2,z3⟩:=box4 hA.out;have q0:=g_ y6 _ 0 _ _ hA.out;have q1:=g_ y6 _ 1 _ _ hA.out;have q2:=g_ y6 _ 2 _ _ hA.out;have q3:=g_ y6 _ 3 _ _ hA.out;go_simp;have hX:=z_ (fun u0 u1 u2 u3=>(GY.out _ (qa6 ae.out aa.out u0 u1 u2 u3)).2.1))
               exact c120_
              exact a_l
             exact a_l
            exact a_l
           refine c_s (fun K hK=>?_) ?_
           ·(go_simp;obtain ⟨yA,af⟩:=e_ (y3.alloc (.cells #[.int .i64 0,.string { data:=#[] },.int .i64 0,.slice none 0 0] 38));have ak:=fr1_ af;have hA:=fr2_ af;have aa:aH.heap.size≤y3.heap.size:=Nat.le_trans ac.out (aj.out).size;rw [← af];clear af;have ai:=z_ (aj.out.trans (ak.mono (Nat.le_trans ac.out aj.out.size)));have hX:=(GY.out yA ai.out).2.1;replace hG:=z_ (hG.out.below n_ ak);replace hP:=z_ (HasR.below (qav _) hP.out n_ ak);clear ak;obtain ⟨ga,ao⟩:=e_ (y3.heap.size);rw [← ao] at aa hA ⊢;clear ao;replace aa:=z_ aa;replace hA:=z_ hA;(try dsimp only))
            refine k_o hK ?_ (fun aM=>?_)
            ·exact c124_
            clear hK K aw;refine r_d [5] ?_;refine c_s (fun K hK=>?_) ?_
            ·(go_simp;refine (aI.out yA (GY.out _ ai.out).1 ab.out.2.2).mono ?_;rintro e y5 ⟨u5,S5,rfl,hQ,ad⟩;obtain ⟨J6,j6,rfl⟩:=aK.out hQ;replace hQ:=z_ hQ;have ag:=z_ (ai.out.trans (ad.mono (Nat.le_trans ac.out ai.out.size)));have hX:=(GY.out y5 ag.out).2.1;replace hG:=z_ (hG.out.below n_ ad);replace hP:=z_ (HasR.below (qav _) hP.out n_ ad);replace hA:=z_ ((ad.block _ (q_ hA.out)).trans hA.out);clear ad;(try dsimp only))
             refine k_o hK ?_ (fun aN=>?_)
             ·exact c124_
             clear hK K aM;refine r_d [6] ?_;refine c_s (fun K hK=>?_) ?_
             ·(go_simp;refine ((bq.out _ _ _ _ _ y5 _ _ _ _ hG.out hP.out hQ.out.has ab.out.2.1 ab.out.2.2 (cl.out hQ.out)).mono (fun e w' h=>(show ∃ v',e=.returned (.tuple #[.agg #[.int .i64 tq,.string (bstr tn),.int .i64 ts,v'],.bool z])∧HasTs (depth T) (y5).heap.size w' v' T.args∧Below (y5).heap.size (y5) w' from ⟨h.choose,h.choose_spec.choose_spec.1,h.choose_spec.choose_spec.2.1.has,h.choose_spec.choose_spec.2.2⟩))).mono ?_;rintro e y6 ⟨u6,rfl,hT,ah⟩;obtain ⟨F6,f6,rfl⟩:=aJ.out hT;replace hT:=z_ hT;have aq:Hid (ga<(y5).heap.size):=z_ (q_ hA.out);have ae:=z_ (ag.out.trans (ah.mono (Nat.le_trans ac.out ag.out.size)));have hX:=(GY.out y6 ae.out).2.1;replace hA:=z_ ((ah.block _ (q_ hA.out)).trans hA.out);clear ah;(try dsimp only))
              refine k_o hK ?_ (fun aO=>?_)
              ·exact c124_
              clear hK K aN;refine t_k 7 ?_;refine t_k 8 ?_;refine t_k 9 ?_;refine r_d [11] ?_;refine c_s (fun K hK=>?_) ?_
              ·(obtain ⟨z0,z1,z2,z3⟩:=box4 hA.out;have q0:=g_ y6 _ 0 _ _ hA.out;have q1:=g_ y6 _ 1 _ _ hA.out;have q2:=g_ y6 _ 2 _ _ hA.out;have q3:=g_ y6 _ 3 _ _ hA.out;go_simp;have hX:=z_ (fun u0 u1 u2 u3=>(GY.out _ (qa6 ae.out aa.out u0 u1 u2 u3)).2.1))
               exact c121_
              exact a_l
             exact a_l
            exact a_l
           exact a_l
          refine c_s (fun K hK=>?_) ?_
          ·(go_simp;obtain ⟨yA,af⟩:=e_ (y1.alloc (.cells #[.int .i64 0,.string { data:=#[] },.int .i64 0,.slice none 0 0] 38));have ak:=fr1_ af;have hA:=fr2_ af;have aa:aH.heap.size≤y1.heap.size:=Nat.le_trans ac.out (an.out).size;rw [← af];clear af;have ai:=z_ (an.out.trans (ak.mono (Nat.le_trans ac.out an.out.size)));have hX:=(GY.out yA ai.out).2.1;replace hG:=z_ (hG.out.below n_ ak);clear ak;obtain ⟨ga,ao⟩:=e_ (y1.heap.size);rw [← ao] at aa hA ⊢;clear ao;replace aa:=z_ aa;replace hA:=z_ hA;(try dsimp only))
           refine k_o hK ?_ (fun aQ=>?_)
           ·exact c124_
           clear hK K av;refine r_d [3] ?_;refine c_s (fun K hK=>?_) ?_
           ·(go_simp;refine (bS.out yA (GY.out _ ai.out).1 ab.out.2.1).mono ?_;rintro e y3 ⟨u4,S4,rfl,hP,al⟩;obtain ⟨J5,j5,rfl⟩:=br.out hP;replace hP:=z_ (OB.has hP);have aj:=z_ (ai.out.trans (al.mono (Nat.le_trans ac.out ai.out.size)));have hX:=(GY.out y3 aj.out).2.1;replace hG:=z_ (hG.out.below n_ al);replace hA:=z_ ((al.block _ (q_ hA.out)).trans hA.out);clear al;(try dsimp only))
            refine k_o hK ?_ (fun aR=>?_)
            ·exact c124_
            clear hK K aQ;refine r_d [5] ?_;refine c_s (fun K hK=>?_) ?_
            ·(go_simp;refine (aI.out y3 (GY.out _ aj.out).1 ab.out.2.2).mono ?_;rintro e y5 ⟨u5,S5,rfl,hQ,ad⟩;obtain ⟨J6,j6,rfl⟩:=aK.out hQ;replace hQ:=z_ hQ;have ag:=z_ (aj.out.trans (ad.mono (Nat.le_trans ac.out aj.out.size)));have hX:=(GY.out y5 ag.out).2.1;replace hG:=z_ (hG.out.below n_ ad);replace hP:=z_ (HasR.below (qav _) hP.out n_ ad);replace hA:=z_ ((ad.block _ (q_ hA.out)).trans hA.out);clear ad;(try dsimp only))
             refine k_o hK ?_ (fun aS=>?_)
             ·exact c124_
             clear hK K aR;refine r_d [6] ?_;refine c_s (fun K hK=>?_) ?_
             ·(go_simp;refine ((bq.out _ _ _ _ _ y5 _ _ _ _ hG.out hP.out hQ.out.has ab.out.2.1 ab.out.2.2 (cl.out hQ.out)).mono (fun e w' h=>(show ∃ v',e=.returned (.tuple #[.agg #[.int .i64 tq,.string (bstr tn),.int .i64 ts,v'],.bool z])∧HasTs (depth T) (y5).heap.size w' v' T.args∧Below (y5).heap.size (y5) w' from ⟨h.choose,h.choose_spec.choose_spec.1,h.choose_spec.choose_spec.2.1.has,h.choose_spec.choose_spec.2.2⟩))).mono ?_;rintro e y6 ⟨u6,rfl,hT,ah⟩;obtain ⟨F6,f6,rfl⟩:=aJ.out hT;replace hT:=z_ hT;have aq:Hid (ga<(y5).heap.size):=z_ (q_ hA.out);have ae:=z_ (ag.out.trans (ah.mono (Nat.le_trans ac.out ag.out.size)));have hX:=(GY.out y6 ae.out).2.1;replace hA:=z_ ((ah.block _ (q_ hA.out)).trans hA.out);clear ah;(try dsimp only))
              refine k_o hK ?_ (fun aT=>?_)
              ·exact c124_
              clear hK K aS;refine t_k 7 ?_;refine t_k 8 ?_;refine t_k 9 ?_;refine r_d [11] ?_;refine c_s (fun K hK=>?_) ?_
              ·(obtain ⟨z0,z1,z2,z3⟩:=box4 hA.out;have q0:=g_ y6 _ 0 _ _ hA.out;have q1:=g_ y6 _ 1 _ _ hA.out;have q2:=g_ y6 _ 2 _ _ hA.out;have q3:=g_ y6 _ 3 _ _ hA.out;go_simp;have hX:=z_ (fun u0 u1 u2 u3=>(GY.out _ (qa6 ae.out aa.out u0 u1 u2 u3)).2.1))
               exact c122_
              exact a_l
             exact a_l
            exact a_l
           exact a_l
          exact a_l
         refine c_s (fun K hK=>?_) ?_
         ·(go_simp;obtain ⟨yA,af⟩:=e_ ((bo.alloc (.cells #[.int .i64 0,.string { data:=#[] },.int .i64 0,.slice none 0 0] 38)).drew);have ak:Below bo.drew.heap.size bo.drew yA:=(by rw [af];exact (Below.refl (bo.drew).heap.size (bo.drew)).alloc n_ (.cells #[.int .i64 0,.string { data:=#[] },.int .i64 0,.slice none 0 0] 38));have hA:yA.heap[bo.heap.size]? =some (.cells #[.int .i64 0,.string { data:=#[] },.int .i64 0,.slice none 0 0] 38 (0,0)):=(by rw [af];exact termt.qa5 bo _ _ rfl);have aa:aH.heap.size≤bo.heap.size:=Nat.le_trans ac.out (aC.out.drew).size;rw [← af];clear af;have ai:=z_ (aC.out.drew.trans (ak.mono (Nat.le_trans ac.out aC.out.drew.size)));have hX:=(GY.out yA ai.out).2.1;clear ak;obtain ⟨ga,ao⟩:=e_ (bo.heap.size);rw [← ao] at aa hA ⊢;clear ao;replace aa:=z_ aa;replace hA:=z_ hA;(try dsimp only))
          refine k_o hK ?_ (fun aV=>?_)
          ·exact c124_
          clear hK K au;refine r_d [1] ?_;refine c_s (fun K hK=>?_) ?_
          ·(go_simp;refine (bR.out yA (GY.out _ ai.out).1 ab.out.1).mono ?_;rintro e y1 ⟨u1,u2,u3,rfl,hG,_,_,_,ax⟩;obtain ⟨J1,j1,J2,j2,J3,j3,rfl,rfl,rfl⟩:=bZ.out hG;replace hG:=z_ hG;have an:=z_ (ai.out.trans (ax.mono (Nat.le_trans ac.out ai.out.size)));have hX:=(GY.out y1 an.out).2.1;replace hA:=z_ ((ax.block _ (q_ hA.out)).trans hA.out);clear ax;(try dsimp only))
           refine k_o hK ?_ (fun aW=>?_)
           ·exact c124_
           clear hK K aV;refine r_d [3] ?_;refine c_s (fun K hK=>?_) ?_
           ·(go_simp;refine (bS.out y1 (GY.out _ an.out).1 ab.out.2.1).mono ?_;rintro e y3 ⟨u4,S4,rfl,hP,al⟩;obtain ⟨J5,j5,rfl⟩:=br.out hP;replace hP:=z_ (OB.has hP);have aj:=z_ (an.out.trans (al.mono (Nat.le_trans ac.out an.out.size)));have hX:=(GY.out y3 aj.out).2.1;replace hG:=z_ (hG.out.below n_ al);replace hA:=z_ ((al.block _ (q_ hA.out)).trans hA.out);clear al;(try dsimp only))
            refine k_o hK ?_ (fun aX=>?_)
            ·exact c124_
            clear hK K aW;refine r_d [5] ?_;refine c_s (fun K hK=>?_) ?_
            ·(go_simp;refine (aI.out y3 (GY.out _ aj.out).1 ab.out.2.2).mono ?_;rintro e y5 ⟨u5,S5,rfl,hQ,ad⟩;obtain ⟨J6,j6,rfl⟩:=aK.out hQ;replace hQ:=z_ hQ;have ag:=z_ (aj.out.trans (ad.mono (Nat.le_trans ac.out aj.out.size)));have hX:=(GY.out y5 ag.out).2.1;replace hG:=z_ (hG.out.below n_ ad);replace hP:=z_ (HasR.below (qav _) hP.out n_ ad);replace hA:=z_ ((ad.block _ (q_ hA.out)).trans hA.out);clear ad;(try dsimp only))
             refine k_o hK ?_ (fun aY=>?_)
             ·exact c124_
             clear hK K aX;refine r_d [6] ?_;refine c_s (fun K hK=>?_) ?_
             ·(go_simp;refine ((bq.out _ _ _ _ _ y5 _ _ _ _ hG.out hP.out hQ.out.has ab.out.2.1 ab.out.2.2 (cl.out hQ.out)).mono (fun e w' h=>(show ∃ v',e=.returned (.tuple #[.agg #[.int .i64 tq,.string (bstr tn),.int .i64 ts,v'],.bool z])∧HasTs (depth T) (y5).heap.size w' v' T.args∧Below (y5).heap.size (y5) w' from ⟨h.choose,h.choose_spec.choose_spec.1,h.choose_spec.choose_spec.2.1.has,h.choose_spec.choose_spec.2.2⟩))).mono ?_;rintro e y6 ⟨u6,rfl,hT,ah⟩;obtain ⟨F6,f6,rfl⟩:=aJ.out hT;replace hT:=z_ hT;have aq:Hid (ga<(y5).heap.size):=z_ (q_ hA.out);have ae:=z_ (ag.out.trans (ah.mono (Nat.le_trans ac.out ag.out.size)));have hX:=(GY.out y6 ae.out).2.1;replace hA:=z_ ((ah.block _ (q_ hA.out)).trans hA.out);clear ah;(try dsimp only))
              refine k_o hK ?_ (fun aZ=>?_)
              ·exact c124_
              clear hK K aY;refine t_k 7 ?_;refine t_k 8 ?_;refine t_k 9 ?_;refine r_d [11] ?_;refine c_s (fun K hK=>?_) ?_
              ·(obtain ⟨z0,z1,z2,z3⟩:=box4 hA.out;have q0:=g_ y6 _ 0 _ _ hA.out;have q1:=g_ y6 _ 1 _ _ hA.out;have q2:=g_ y6 _ 2 _ _ hA.out;have q3:=g_ y6 _ 3 _ _ hA.out;go_simp;have hX:=z_ (fun u0 u1 u2 u3=>(GY.out _ (qa6 ae.out aa.out u0 u1 u2 u3)).2.1))
               exact c123_
              exact a_l
             exact a_l
            exact a_l
           exact a_l
          exact a_l
         exact a_l
        case rest=>
         obtain ⟨dS,dT,dU,rfl,rfl,bP⟩:=hcut;have bn:=z_ bP.out.1;have da:=z_ bP.out.2.2;obtain ⟨p0,p1,p2,p3⟩:=box4 bP.out.2.1;clear bP ac;obtain ⟨_,_,⟨y0,y1,y2,y3⟩,_,_⟩:=GY.out wc bn.out;go_wp2_with fail
         clear y0 y1 y2 y3 p0 p1 p2 p3;refine (di.out _ _ wc _ _ _ _ da.out (GY.out wc bn.out).2.2.2.2).mono ?_;rintro e ez ⟨rfl,db⟩;have bQ:=z_ (bn.out.trans (db.mono bn.out.size));clear db bn da;obtain ⟨_,_,_,⟨p0,p1,p2,p3⟩,_⟩:=GY.out ez bQ.out;go_wp2_with fail
         clear p0 p1 p2 p3;refine (dj.out _ ez _ _ (c8.out.below bQ.out).has).mono ?_;rintro e e6 ⟨rfl,dc⟩;have HF:=z_ (GY.out e6 (bQ.out.trans (dc.mono bQ.out.size))).1;clear dc;go_wp2;go_ret;exact ⟨rfl,HF.out⟩
       exact a_l
      exact a_l
     exact a_l
    exact a_l
   exact a_l
  exact a_l
theorem walk {H:Type}{enc:TypeId×Value→H}{W:World}{base base' aa:Nat}{v v' ad:Value}{d d' ah:DataW H}{p p' ag:List MemPlace}
  (ae:Value.okWide Tryz.prog W .any base 28 v) (hd:DataW.Trod enc Tryz.prog W 0 (fun _=>true) true 28 v d p) (_hlt:∀ x∈p,x.block<W.heap.size)
  (ac:Value.okWide Tryz.prog W .any base' 29 v') (ai:DataW.Trod enc Tryz.prog W 0 (fun _=>true) true 29 v' d' p') (_hlt':∀ x∈p',x.block<W.heap.size)
  (ab:Value.okWide Tryz.prog W .any aa 32 ad) (af:DataW.Trod enc Tryz.prog W 0 (fun _=>true) true 32 ad ah ag) (_hlt'':∀ x∈ag,x.block<W.heap.size):
  Calls Tryz.prog 3 #[v,v',ad] W fun e w'=>e=.returned (.bool true)∧Below W.heap.size W w':=by
 obtain ⟨va,vb,vc,P,Q,O,rfl,h⟩:=sigo.qBr ae hd;obtain ⟨n,L,hl⟩:=bndop.qx2 ac ai;obtain ⟨m,t,vt,rfl,ht,hB⟩:=termop.qyd ab af;exact go P Q O va vb vc L v' t vt W h (hl.up (Nat.le_max_left n m)) (ht.up (Nat.le_max_right n m)) hB
end Go.Proofs.YtiilamngcoegiaaGreat.fnExactApplySubstitution
