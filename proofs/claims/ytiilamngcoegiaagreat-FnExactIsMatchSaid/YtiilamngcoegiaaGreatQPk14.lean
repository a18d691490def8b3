/- parts -/
import Derived.Test.YtiilamngcoegiaaGreatQPk12
import Derived.Test.YtiilamngcoegiaaGreatQPk13
namespace Go.Proofs.YtiilamngcoegiaaGreat
open Go.ChangeShapes Go.WideShapes Go.ChangeAt Go.RowKit
variable {k:Nat}{u:Int}{b:Bool}
namespace tmm
open dec sortf sigm rowl trm trmv terml termb termro frm sigi gram graml gramc gramt formnd formk formr formf formm tma
section
variable {P:List (List UInt8)} {Q:List (Int×Int)} {O:List OpM}
noncomputable abbrev partsO (O:List OpM) (k:Nat) (L:List TermM):List TermM:=partsM (O.getD k default).unt (O.getD k default).ass k L
noncomputable abbrev qbs (O:List OpM) (k:Nat) (L:List TermM):TermM:=qc5 (O.getD k default).unt (O.getD k default).ass (O.getD k default).com k L
def NumS (O:List OpM)(k:Nat)(L:List TermM):Prop:=if (O.getD k default).ass=true then 2≤L.length else L.length=ar (O.getD k default)
def CanS (P:List (List UInt8))(Q:List (Int×Int))(O:List OpM)(k:Nat)(L:List TermM):Prop:=
 NumS O k L∧∀ i,i<L.length→κK P.length Q (srtT O (L.getD i default))=κK P.length Q ((hd0 (O.getD k default).decls).1.getD (atS (O.getD k default).ass i) 0)
theorem qCf (aa:qah P Q O=true)(hk:k<O.length):axOk (κK P.length Q) O (O.getD k default)=true:=by
 obtain ⟨_,_,_,_,hx⟩:=qa8 aa;exact hx _ (qhm hk)
theorem qm1 (aa:qah P Q O=true)(hk:k<O.length):((O.getD k default).ass=false∧(O.getD k default).com=false∧(O.getD k default).unt=0) ∨
  (ar (O.getD k default)=2∧κK P.length Q (a0 (O.getD k default))=κK P.length Q (a1 (O.getD k default))∧(((O.getD k default).ass=false∧(O.getD k default).unt=0)∨κK P.length Q (a0 (O.getD k default))=κK P.length Q (rs (O.getD k default)))):=by
 have h4:=qCf aa hk;simp only [axOk,qdf,Bool.and_eq_true,Bool.or_eq_true,decide_eq_true_eq,Bool.not_eq_true'] at h4;rcases h4.1 with h5|h5
 ·exact .inl ⟨h5.1.1,h5.1.2,h5.2⟩
 ·exact .inr ⟨h5.1.1,h5.1.2,h5.2⟩
theorem qvl (aa:qah P Q O=true)(hk:k<O.length){L:List TermM}(hn:NumS O k L):∀ i,i<L.length→atS (O.getD k default).ass i<(hd0 (O.getD k default).decls).1.length:=fun i hi=>by
 unfold NumS at hn;cases ha:(O.getD k default).ass with
 | false=>
  rw [ha,if_neg (by simp)] at hn;show i<ar (O.getD k default);omega
 | true=>
  have h5:ar (O.getD k default)=2:=by
   rcases qm1 aa hk with h5|h5
   ·rw [ha] at h5;exact absurd h5.1 (by simp)
   ·exact h5.1
  have h6:(hd0 (O.getD k default).decls).1.length=2:=h5;rw [h6];exact Nat.zero_lt_two
theorem qja{L:List TermM}{i:Nat}(hi:i<L.length):L.getD i default∈L:=by rw [List.getD_eq_getElem?_getD,List.getElem?_eq_getElem hi];exact List.getElem_mem _
theorem qrb{L:List TermM}{a:TermM}(ha:a∈L):∃ i,i<L.length∧L.getD i default=a:=by
 obtain ⟨i,hi,e⟩:=List.getElem_of_mem ha;exact ⟨i,hi,by rw [List.getD_eq_getElem?_getD,List.getElem?_eq_getElem hi];exact e⟩
theorem qB7 (aa:qah P Q O=true)(hk:k<O.length)(L:List TermM)(hL:∀ a∈L,qdn P O a):CanP (grM P Q O) (k:Int) L↔CanS P Q O k L:=by
 have hE:(grM P Q O).E.length=O.length:=by rw [qgg aa];exact qg6 _ _
 unfold CanP CanS;rw [hE,Int.toNat_natCast,qr8 aa hk];have ab:qhk (O.getD k default,k,shp (κU (qaq P Q)) (hd0 (O.getD k default).decls)) L.length=true↔NumS O k L:=by
  unfold qhk NumS;split
  ·rw [decide_eq_true_iff]
  ·rw [decide_eq_true_iff];rfl
 rw [ab];have hr:(0:Int)≤(k:Int)∧(k:Int)<(O.length:Int):=o_;constructor
 ·rintro ⟨_,h1,h2⟩
  refine ⟨h1,fun i hi=>?_⟩;have hR:=hL _ (qja hi);have h3:=h2 i hi;rw [qlx aa hR,qvf aa hk (qvl aa hk h1 i hi)] at h3;exact (qB6 aa (qr9 aa hR) ((qaj (qnp aa hk)).2.2 _ (qvl aa hk h1 i hi))).1 h3
 ·rintro ⟨h1,h2⟩
  refine ⟨hr,h1,fun i hi=>?_⟩;have hR:=hL _ (qja hi);rw [qlx aa hR,qvf aa hk (qvl aa hk h1 i hi)];exact (qB6 aa (qr9 aa hR) ((qaj (qnp aa hk)).2.2 _ (qvl aa hk h1 i hi))).2 (h2 i hi)
theorem qvm{a p:TermM}(h:p∈qd5 u b k a):(p=a∧¬ (u≠0∧a.op=u-1)∧¬ (b=true∧a.op=(k:Int)))∨(p∈a.args∧b=true∧a.op=(k:Int)):=by
 by_cases h1:u≠0∧a.op=u-1
 ·rw [qex h1] at h;cases h
 ·by_cases h2:b=true∧a.op=(k:Int)
  ·rw [qey h1 h2] at h
   exact .inr ⟨h,h2.1,h2.2⟩
  ·rw [qdo h1 h2] at h
   simp at h;exact .inl ⟨h,h1,h2⟩
theorem qei{L:List TermM}{p:TermM}(h:p∈partsM u b k L):∃ a∈L,(p=a∧¬ (u≠0∧a.op=u-1)∧¬ (b=true∧a.op=(k:Int)))∨(p∈a.args∧b=true∧a.op=(k:Int)):=by
 obtain ⟨a,ha,h⟩:=List.mem_flatMap.1 h;exact ⟨a,ha,qvm h⟩
theorem qym{a p:TermM}(h:qay P Q O a)(hp:p∈a.args):qay P Q O p:=((qar P Q O a).1 h).2.1 p hp
theorem qke{L:List TermM}(hL:∀ a∈L,qay P Q O a):∀ p∈partsO O k L,qay P Q O p:=by
 intro p hp;obtain ⟨a,ha,h|h⟩:=qei hp
 ·rw [h.1];exact hL a ha
 ·exact qym (hL a ha) h.1
theorem qpf (aa:qah P Q O=true)(hk:k<O.length){L:List TermM}(hL:∀ a∈L,qay P Q O a){p:TermM}(hp:p∈partsO O k L):
  ¬ ((O.getD k default).unt≠0∧p.op=(O.getD k default).unt-1)∧¬ ((O.getD k default).ass=true∧p.op=(k:Int)):=by
 obtain ⟨a,ha,h|h⟩:=qei hp
 ·rw [h.1];exact h.2
 ·obtain ⟨h1,h2,h3⟩:=(qar P Q O a).1 (hL a ha)
  have hv:a.op≠-1:=by rw [h.2.2];omega
  have h4:=h3 hv;rw [h.2.2,Int.toNat_natCast] at h4;obtain ⟨i,hi,e⟩:=qrb h.1;obtain ⟨_,q2,q3,_⟩:=h4 i hi;rw [e] at q2 q3;refine ⟨fun hu=>q3 ⟨hu.1,?_⟩,q2⟩;have hn:=((qar P Q O p).1 (h2 p h.1)).1;exact (qb0 _ _).2 (qpd aa hk hn hu.1 hu.2)
theorem qt1{L:List TermM}(hL:∀ a∈L,qay P Q O a)(hC:CanS P Q O k L)(aa:(O.getD k default).ass=true){p:TermM}(hp:p∈partsO O k L):
  κK P.length Q (srtT O p)=κK P.length Q ((hd0 (O.getD k default).decls).1.getD 0 0):=by
 obtain ⟨a,ha,h|h⟩:=qei hp
 ·obtain ⟨i,hi,e⟩:=qrb ha
  have:=hC.2 i hi;rw [aa,e] at this;rw [h.1];exact this
 ·obtain ⟨h1,h2,h3⟩:=(qar P Q O a).1 (hL a ha)
  have hv:a.op≠-1:=by rw [h.2.2];omega
  have h4:=h3 hv;rw [h.2.2,Int.toNat_natCast] at h4;obtain ⟨i,hi,e⟩:=qrb h.1;obtain ⟨q1,_⟩:=h4 i hi;rw [aa,e] at q1;exact q1
theorem qkf {u:Int}{k:Nat}:∀ {L:List TermM},(partsM u false k L).length≤L.length∧((partsM u false k L).length=L.length→partsM u false k L=L)
 | []=>⟨Nat.le_refl _,fun _=>rfl⟩
 | a::L=>by
  have ih:=qkf (u:=u) (k:=k) (L:=L);have e:partsM u false k (a::L)=qd5 u false k a++partsM u false k L:=rfl;rw [e,List.length_append,List.length_cons];by_cases h1:u≠0∧a.op=u-1
  ·rw [qex h1]
   exact ⟨by simp;omega,fun h=>by simp at h;omega⟩
  ·rw [qdo h1 (by simp)]
   refine ⟨by simp;omega,fun h=>?_⟩;rw [ih.2 (by simp at h;omega)];rfl
theorem qh2 {b:Bool}{k:Nat}:∀ {L:List TermM},(b=true→∀ a∈L,a.op=(k:Int)→2≤a.args.length)→L.length≤(partsM 0 b k L).length
 | [],_=>Nat.le_refl _
 | a::L,h=>by
  have ih:=qh2 (b:=b) (k:=k) (L:=L) (fun hb a ha=>h hb a (by simp [ha]));have e:partsM 0 b k (a::L)=qd5 0 b k a++partsM 0 b k L:=rfl;rw [e,List.length_append,List.length_cons];by_cases h2:b=true∧a.op=(k:Int)
  ·rw [qey (by simp) h2]
   have:=h h2.1 a (by simp) h2.2;omega
  ·rw [qdo (by simp) h2]
   simp;omega
theorem qrc{a:TermM}(h:qay P Q O a)(hb:(O.getD k default).ass=true)(ho:a.op=(k:Int)):2≤a.args.length:=by
 have h1:=((qar P Q O a).1 h).1;unfold qby at h1;rw [if_neg o_,ho,Int.toNat_natCast,if_pos hb] at h1;exact h1.2.2.2.1
theorem qnq (ab:qah P Q O=true)(hk:k<O.length){L:List TermM}(hL:∀ a∈L,qay P Q O a)(hC:NumS O k L)(h0:¬ ((O.getD k default).unt≠0∧(partsO O k L).length=0))(h1:¬ ((O.getD k default).unt≠0∧(partsO O k L).length=1)):
  ((O.getD k default).ass=true→2≤(partsO O k L).length)∧((O.getD k default).ass=false→partsO O k L=L∧L.length=ar (O.getD k default)):=by
 unfold NumS at hC;constructor
 ·intro aa
  rw [if_pos aa] at hC;by_cases hu:(O.getD k default).unt=0
  ·have:=qh2 (b:=(O.getD k default).ass) (k:=k) (L:=L) (fun hb a ha ho=>qrc (hL a ha) hb ho)
   unfold partsO;rw [hu];omega
  ·have:(partsO O k L).length≠0:=fun e=>h0 ⟨hu,e⟩
   have:(partsO O k L).length≠1:=fun e=>h1 ⟨hu,e⟩
   omega
 ·intro aa
  rw [if_neg (by rw [aa];simp)] at hC;refine ⟨?_,hC⟩;have hf:=qkf (u:=(O.getD k default).unt) (k:=k) (L:=L);unfold partsO at h0 h1 ⊢;rw [aa] at h0 h1 ⊢;apply hf.2
  by_cases hu:(O.getD k default).unt=0
  ·have:=qh2 (b:=false) (k:=k) (L:=L) (fun hb=>by cases hb)
   rw [hu] at hf ⊢;omega
  ·have:(partsM (O.getD k default).unt false k L).length≠0:=fun e=>h0 ⟨hu,e⟩
   have:(partsM (O.getD k default).unt false k L).length≠1:=fun e=>h1 ⟨hu,e⟩
   have:ar (O.getD k default)=2:=by
    rcases qm1 ab hk with h5|h5
    ·exact absurd h5.2.2 hu
    ·exact h5.1
   omega
theorem qvn (ab:qah P Q O=true)(hk:k<O.length)(hu:(O.getD k default).unt≠0):qay P Q O (.mk ((O.getD k default).unt-1) [] 0 []):=by
 have h1:=qCf ab hk;simp only [axOk,qe4,Bool.and_eq_true,Bool.or_eq_true,decide_eq_true_eq] at h1;obtain ⟨⟨h2,h3⟩,_⟩:=h1.2.resolve_left hu;obtain ⟨u,ac⟩:=e_ ((O.getD k default).unt);unfold qc7 at h3;rw [← ac] at hu h2 h3 ⊢;obtain ⟨j,hj⟩:∃ j:Nat,u=(j:Int)+1:=⟨(u-1).toNat,by omega⟩;have ad:j<O.length:=o_;rw [show u.toNat-1=j by omega] at h3;have aa:(O.getD j default).ass=false:=by
  rcases qm1 ab ad with h5|h5
  ·exact h5.1
  ·omega
 rw [show u-1=(j:Int) by omega];refine (qar P Q O _).2 ⟨?_,fun a ha=>by simp [TermM.args] at ha,fun _ i hi=>by simp [TermM.args] at hi⟩;unfold qby;have e1:(TermM.mk (j:Int) [] 0 []).op=(j:Int):=rfl;rw [e1,if_neg o_,Int.toNat_natCast,if_neg (by rw [aa];simp),h3];exact ⟨by omega,rfl,rfl,rfl⟩
theorem qyn (aa:qah P Q O=true)(hk:k<O.length)(hc:(O.getD k default).com=true):ar (O.getD k default)=2∧∀ i,i<2→κK P.length Q ((hd0 (O.getD k default).decls).1.getD i 0)=κK P.length Q ((hd0 (O.getD k default).decls).1.getD 0 0):=by
 rcases qm1 aa hk with h5|h5
 ·rw [hc] at h5;exact absurd h5.2.1 (by simp)
 ·refine ⟨h5.1,fun i hi=>?_⟩
  have:=h5.2.1;unfold a0 a1 at this;match i,hi with
  | 0,_=>rfl
  | 1,_=>exact this.symm
theorem qvo (ac:qah P Q O=true)(hk:k<O.length){L:List TermM}(hL:∀ a∈L,qay P Q O a)(hC:CanS P Q O k L)(hw:wide (qbs O k L)):qay P Q O (qbs O k L):=by
 unfold qbs qc5 at hw ⊢;by_cases h0:(O.getD k default).unt≠0∧(partsO O k L).length=0
 ·rw [if_pos h0]
  exact qvn ac hk h0.1
 rw [if_neg h0] at hw ⊢;by_cases h1:(O.getD k default).unt≠0∧(partsO O k L).length=1
 ·rw [if_pos h1]
  exact qke hL _ (qja o_)
 rw [if_neg h1] at hw ⊢;obtain ⟨n1,n2⟩:=qnq ac hk hL hC.1 h0 h1;have ah:=fun p hp=>qpf ac hk hL (p:=p) hp
 obtain ⟨ps,ad⟩:=e_ (partsO O k L);have ai:ps=partsM (O.getD k default).unt (O.getD k default).ass k L:=ad;have aj:∀ p∈ps,qay P Q O p:=fun p hp=>qke hL p (by rw [← ad];exact hp)
 have ak:(O.getD k default).ass=true→∀ p∈ps,κK P.length Q (srtT O p)=κK P.length Q ((hd0 (O.getD k default).decls).1.getD 0 0):=fun ha p hp=>qt1 hL hC ha (by rw [← ad];exact hp)
 rw [← ad] at n1 n2 ah;rw [← ai] at hw ⊢;clear h0 h1 ai;obtain ⟨qs,ae⟩:=e_ ((if (O.getD k default).com=true∧ps.length≤7 then qcj ps else ps));rw [← ae] at hw ⊢;have aa:qs.Perm ps:=by
  rw [ae];split
  ·exact (qb9 ps).2
  ·exact List.Perm.refl _
 have hlen:=aa.length_eq;have h7:qs.length≤7:=((qh0 _ _ _ _ _).1 hw).1
 have af:(O.getD k default).com=true→Srt qs:=fun hc=>by
  rw [ae,if_pos ⟨hc,by omega⟩];exact (qb9 ps).1
 refine (qar P Q O _).2 ⟨?_,fun a ha=>aj a (aa.mem_iff.1 ha),fun _=>?_⟩
 ·unfold qby
  have e1:(TermM.mk (k:Int) [] 0 qs).op=(k:Int):=rfl;have e2:(TermM.mk (k:Int) [] 0 qs).args=qs:=rfl;rw [e1,e2,if_neg o_,Int.toNat_natCast];refine ⟨by omega,rfl,rfl,?_⟩;cases ha:(O.getD k default).ass with
  | true=>rw [if_pos rfl];exact ⟨by have:=n1 ha;omega,h7⟩
  | false=>
   rw [if_neg (by simp)];obtain ⟨e,e2⟩:=n2 ha;rw [hlen,e,e2]
 ·show qgf _ O (k:Int).toNat qs
  rw [Int.toNat_natCast];have ab:∀ i,i<qs.length→κK P.length Q (srtT O (qs.getD i default))=κK P.length Q ((hd0 (O.getD k default).decls).1.getD (atS (O.getD k default).ass i) 0):=by
   intro i hi;cases ha:(O.getD k default).ass with
   | true=>exact ak ha _ (aa.mem_iff.1 (qja hi))
   | false=>
    obtain ⟨e,e2⟩:=n2 ha;have ag:=hC.2;rw [ha] at ag;cases hc:(O.getD k default).com with
    | false=>
     have:qs=L:=by rw [ae,if_neg (by rw [hc];simp),e]
     rw [this];exact ag i (by rw [← e,← hlen];exact hi)
    | true=>
     obtain ⟨c1,c2⟩:=qyn ac hk hc;have hm:=aa.mem_iff.1 (qja hi);rw [e] at hm;obtain ⟨j,hj,ej⟩:=qrb hm;rw [← ej,ag j hj];show κK P.length Q ((hd0 (O.getD k default).decls).1.getD j 0)=κK P.length Q ((hd0 (O.getD k default).decls).1.getD i 0);have al:qs.length=2:=by rw [hlen,e,e2,c1]
     rw [c2 j o_,c2 i o_]
  intro i hi;obtain ⟨r1,r2⟩:=ah _ (aa.mem_iff.1 (qja hi));refine ⟨ab i hi,r2,fun hu=>r1 ⟨hu.1,?_⟩,fun hc h0=>?_⟩
  ·rw [(qb0 _ _).1 hu.2,qge,if_neg hu.1];rfl
  ·have:=(qp7 qs).1 (af hc) (i-1) o_
   rwa [show i-1+1=i by omega] at this
theorem qyo{a p:TermM}(h:wide a)(hp:p∈a.args):wide p:=((qbq _ a).1 h).2 p hp
theorem qvp{a p:TermM}(h:LimT a)(hp:p∈a.args):LimT p:=by
 obtain ⟨h1,h2,h3⟩:=h;have s1:=qj3 hp;have s2:=qao a;have d1:=qg9 hp;have d2:=qas a;exact ⟨by omega,by omega,qyo h3 hp⟩
theorem qvq{L:List TermM}(hL:∀ a∈L,LimT a):∀ p∈partsM u b k L,LimT p:=by
 intro p hp;obtain ⟨a,ha,h|h⟩:=qei hp
 ·rw [h.1];exact hL a ha
 ·exact qvp (hL a ha) h.1
noncomputable def qh3 (u:Int)(b c:Bool)(k:Nat)(L:List TermM):TermM:=
 if u≠0∧(partsM u b k L).length=0 then .mk (u-1) [] 0 [] else if u≠0∧(partsM u b k L).length=1 then (partsM u b k L).getD 0 default
 else .mk k [] 0 (if c=true then qcj (partsM u b k L) else partsM u b k L)
def okX (u:Int)(b c:Bool)(k:Nat)(L:List TermM):Prop:=
 (u≠0∧(partsM u b k L).length=0)∨(u≠0∧(partsM u b k L).length=1)∨((b=true→(partsM u b k L).length≤7)∧size (qh3 u b c k L)≤60∧depth (qh3 u b c k L)≤20)
theorem qdp{k:Int}{ps:List TermM}(h:∀ p∈ps,wide p):wide (.mk k [] 0 ps)↔ps.length≤7:=by
 unfold wide;rw [qh0];exact ⟨fun h=>h.1,fun h1=>⟨h1,h⟩⟩
theorem qCg (ab:qah P Q O=true)(hk:k<O.length){L:List TermM}(hL:∀ a∈L,qay P Q O a)(hl:∀ a∈L,LimT a)(hC:NumS O k L):
  (okX (O.getD k default).unt (O.getD k default).ass (O.getD k default).com k L↔LimT (qbs O k L))∧(LimT (qbs O k L)→qh3 (O.getD k default).unt (O.getD k default).ass (O.getD k default).com k L=qbs O k L):=by
 have aa:=qvq (u:=(O.getD k default).unt) (b:=(O.getD k default).ass) (k:=k) hl;by_cases h0:(O.getD k default).unt≠0∧(partsO O k L).length=0
 ·have eF:qbs O k L=.mk ((O.getD k default).unt-1) [] 0 []:=by unfold qbs qc5;rw [if_pos h0]
  have eX:qh3 (O.getD k default).unt (O.getD k default).ass (O.getD k default).com k L=.mk ((O.getD k default).unt-1) [] 0 []:=by unfold qh3;rw [if_pos h0]
  rw [eF,eX];exact ⟨⟨fun _=>⟨by rw [qbe];simp [qa2],by rw [qeo];simp [depths],(qdp (by simp)).2 (by simp)⟩,fun _=>.inl h0⟩,fun _=>rfl⟩
 by_cases h1:(O.getD k default).unt≠0∧(partsO O k L).length=1
 ·have eF:qbs O k L=(partsO O k L).getD 0 default:=by unfold qbs qc5;rw [if_neg h0,if_pos h1]
  have eX:qh3 (O.getD k default).unt (O.getD k default).ass (O.getD k default).com k L=(partsO O k L).getD 0 default:=by unfold qh3;rw [if_neg h0,if_pos h1]
  rw [eF,eX];exact ⟨⟨fun _=>aa _ (qja (by unfold partsO at h1;omega)),fun _=>.inr (.inl h1)⟩,fun _=>rfl⟩
 obtain ⟨n1,n2⟩:=qnq ab hk hL hC h0 h1;have eF:qbs O k L=.mk k [] 0 (if (O.getD k default).com=true∧(partsO O k L).length≤7 then qcj (partsO O k L) else partsO O k L):=by unfold qbs qc5;rw [if_neg h0,if_neg h1]
 have eX:qh3 (O.getD k default).unt (O.getD k default).ass (O.getD k default).com k L=.mk k [] 0 (if (O.getD k default).com=true then qcj (partsO O k L) else partsO O k L):=by unfold qh3;rw [if_neg h0,if_neg h1]
 unfold okX;rw [eF,eX];clear eF eX;unfold partsO at h0 h1 n1 n2 ⊢;obtain ⟨ps,ad⟩:=e_ (partsM (O.getD k default).unt (O.getD k default).ass k L);rw [← ad] at h0 h1 n1 n2 aa ⊢
 have h3:(O.getD k default).ass=false→ps.length≤3:=fun ha=>by
  obtain ⟨e,e2⟩:=n2 ha;rw [e,e2];exact (qaj (qnp ab hk)).1
 have ae:∀ (b:Bool),wide (.mk (k:Int) [] 0 (if b=true then qcj ps else ps))↔ps.length≤7:=fun b=>by
  cases b with
  | false=>exact qdp (fun p hp=>(aa p hp).2.2)
  | true=>
   rw [if_pos rfl,← (qb9 ps).2.length_eq];exact qdp (fun p hp=>(aa p ((qb9 ps).2.mem_iff.1 hp)).2.2)
 by_cases h7:ps.length≤7
 ·have e:(if (O.getD k default).com=true∧ps.length≤7 then qcj ps else ps)=(if (O.getD k default).com=true then qcj ps else ps):=by
   by_cases hc:(O.getD k default).com=true
   ·rw [if_pos ⟨hc,h7⟩,if_pos hc]
   ·rw [if_neg (fun h=>hc h.1),if_neg hc]
  rw [e];refine ⟨⟨fun h=>?_,fun h=>.inr (.inr ⟨fun _=>h7,h.1,h.2.1⟩)⟩,fun _=>rfl⟩;rcases h with h|h|h
  ·exact absurd h h0
  ·exact absurd h h1
  ·exact ⟨h.2.1,h.2.2,(ae _).2 h7⟩
 ·have ha:(O.getD k default).ass=true:=by
   cases ha:(O.getD k default).ass with
   | true=>rfl
   | false=>exact absurd (h3 ha) o_
  have ac:¬ LimT (.mk (k:Int) [] 0 (if (O.getD k default).com=true∧ps.length≤7 then qcj ps else ps)):=fun h=>by
   rw [if_neg (fun e=>h7 e.2)] at h;exact h7 ((qdp (fun p hp=>(aa p hp).2.2)).1 h.2.2)
  refine ⟨⟨fun h=>?_,fun h=>absurd h ac⟩,fun h=>absurd h ac⟩;rcases h with h|h|h
  ·exact absurd h h0
  ·exact absurd h h1
  ·exact absurd (h.1 ha) h7
end
end tmm

namespace tmc
open dec sorti sigm rowl trm trmv terml termt termro frm gram gramk gramc formnd formf formm tma tmm
noncomputable def rebM (F:TermM→List TermM→Option TermM)(t:TermM):Option TermM:=
 TermM.rec (motive_1:=fun _=>Option TermM) (motive_2:=fun _=>Option (List TermM)) (fun o n s l h=>h.bind (F (.mk o n s l))) (some []) (fun _ _ a l=>a.bind fun x=>l.map fun r=>x::r) t
noncomputable def rebL (F:TermM→List TermM→Option TermM):List TermM→Option (List TermM)
 | []=>some []
 | a::l=>(rebM F a).bind fun x=>(rebL F l).map fun r=>x::r
theorem qpg (F:TermM→List TermM→Option TermM)(o:Int)(n:List UInt8)(s:Int)(l:List TermM):rebM F (.mk o n s l)=(rebL F l).bind (F (.mk o n s l)):=by
 have:∀ l:List TermM,(TermM.rec_1 (motive_1:=fun _=>Option TermM) (motive_2:=fun _=>Option (List TermM)) (fun o n s l h=>h.bind (F (.mk o n s l))) (some []) (fun _ _ a l=>a.bind fun x=>l.map fun r=>x::r) l:Option (List TermM))=rebL F l:=by
  intro l;induction l with
  | nil=>rfl
  | cons a l ih=>rw [rebL,← ih];rfl
 rw [← this];rfl
theorem qrd (F:TermM→List TermM→Option TermM)(t:TermM):rebM F t=(rebL F t.args).bind (F t):=by cases t;exact qpg _ _ _ _ _
section
variable {P:List (List UInt8)} {Q:List (Int×Int)} {O:List OpM}
theorem qfk (u:Int)(b:Bool)(k:Nat):∀ L:List TermM,qa2 (partsM u b k L)≤qa2 L
 | []=>Nat.le_refl _
 | a::L=>by
  have ih:=qfk u b k L;have e:partsM u b k (a::L)=qd5 u b k a++partsM u b k L:=rfl;have e2:qa2 (qd5 u b k a++partsM u b k L)=qa2 (qd5 u b k a)+qa2 (partsM u b k L):=by simp [qa2]
  rw [e,e2];have e3:qa2 (a::L)=size a+qa2 L:=by simp [qa2]
  have e4:qa2 (qd5 u b k a)≤size a:=by
   have:=termro.qao a;unfold qd5;split
   ·simp [qa2]
   ·split
    ·omega
    ·simp [qa2]
  omega
theorem qkg{l m:List TermM}(h:l.Perm m):qa2 l=qa2 m:=by
 unfold qa2;exact (h.map size).sum_nat
theorem qt2 (u:Int)(b c:Bool)(k:Nat)(L:List TermM):size (qc5 u b c k L)≤1+qa2 L:=by
 have h:=qfk u b k L;unfold qc5;split
 ·rw [qbe];simp [qa2]
 ·split
  ·rename_i h1
   have:=qam (l:=partsM u b k L) (j:=0) o_;omega
  ·rw [qbe]
   split
   ·rw [qkg (qb9 _).2];omega
   ·omega
noncomputable def qm2 (G:GrM)(t:TermM)(zs:List TermM):Option TermM:=by
 classical
 exact if t.op=-1 then (if varB G t=true then some (.mk (-1) t.name t.sort []) else none)
  else if qdm t=true∧CanP G t.op zs∧LimT (qc5 (G.E.getD t.op.toNat default).1.unt (G.E.getD t.op.toNat default).1.ass (G.E.getD t.op.toNat default).1.com t.op.toNat zs) then some (qc5 (G.E.getD t.op.toNat default).1.unt (G.E.getD t.op.toNat default).1.ass (G.E.getD t.op.toNat default).1.com t.op.toNat zs) else none
noncomputable def qt3 (P:List (List UInt8))(Q:List (Int×Int))(O:List OpM)(t:TermM)(zs:List TermM):Option TermM:=by
 classical
 exact if t.op=-1 then (if qby P O t then some (.mk (-1) t.name t.sort []) else none)
  else if ((0≤t.op∧t.op<O.length)∧t.name=[]∧t.sort=0)∧CanS P Q O t.op.toNat zs∧LimT (qbs O t.op.toNat zs) then some (qbs O t.op.toNat zs) else none
theorem qt4{G:GrM}{t u:TermM}{zs:List TermM}(h:qm2 G t zs=some u):size u≤1+qa2 zs:=by
 unfold qm2 at h;split at h
 ·split at h
  ·simp at h;subst h;rw [qbe];simp [qa2]
  ·cases h
 ·split at h
  ·simp at h;subst h;exact qt2 _ _ _ _ _
  ·cases h
theorem qyp (aa:¬ qah P Q O=true)(t:TermM)(zs:List TermM):qm2 (grM P Q O) t zs=none:=by
 have hg:grM P Q O=⟨[],[]⟩:=by unfold grM;rw [if_neg aa]
 unfold qm2;rw [hg];split
 ·rw [if_neg]
  simp only [varB,Bool.and_eq_true,decide_eq_true_eq,List.length_nil];omega
 ·rw [if_neg]
  intro h;have:=h.2.1.1;simp only [List.length_nil] at this;omega
theorem qvr (aa:qah P Q O=true)(t:TermM)(zs:List TermM)(hA:∀ a∈zs,qay P Q O a):qm2 (grM P Q O) t zs=qt3 P Q O t zs:=by
 unfold qm2 qt3;by_cases hv:t.op=-1
 ·rw [if_pos hv,if_pos hv]
  have e:varB (grM P Q O) t=true↔qby P O t:=by
   have hU:(grM P Q O).U.length=P.length:=by rw [qgg aa];exact qlw aa
   unfold qby;rw [if_pos hv];simp only [varB,Bool.and_eq_true,decide_eq_true_eq,hU];exact ⟨fun h=>⟨h.1.1,h.1.2,h.2⟩,fun h=>⟨⟨h.1,h.2.1⟩,h.2.2⟩⟩
  by_cases hn:qby P O t
  ·rw [if_pos hn,if_pos (e.2 hn)]
  ·rw [if_neg hn,if_neg (fun h=>hn (e.1 h))]
 ·rw [if_neg hv,if_neg hv]
  by_cases hr:0≤t.op∧t.op<O.length
  ·obtain ⟨k,hk⟩:∃ k:Nat,t.op=(k:Int):=⟨t.op.toNat,by omega⟩
   have ab:k<O.length:=o_;have hc:=qB7 aa ab zs (fun a ha=>qcn ((qar P Q O a).1 (hA a ha)).1);rw [hk,Int.toNat_natCast,qr8 aa ab];by_cases h:(((0:Int)≤(k:Int)∧(k:Int)<O.length)∧t.name=[]∧t.sort=0)∧CanS P Q O k zs∧LimT (qbs O k zs)
   ·rw [if_pos h,if_pos ⟨by simp only [qdm,decide_eq_true_eq];exact h.1.2,hc.2 h.2.1,h.2.2⟩]
   ·rw [if_neg h,if_neg]
    rintro ⟨h1,h2,h3⟩;simp only [qdm,decide_eq_true_eq] at h1;exact h ⟨⟨by omega,h1⟩,hc.1 h2,h3⟩
  ·have hE:(grM P Q O).E.length=O.length:=by rw [qgg aa];exact qg6 _ _
   rw [if_neg,if_neg]
   ·exact fun h=>hr h.1.1
   ·rintro ⟨_,h2,_⟩
    have:=h2.1;rw [hE] at this;exact hr this
theorem qkh (aa:qah P Q O=true){t u:TermM}{zs:List TermM}(hA:∀ a∈zs,qay P Q O a)(h:qt3 P Q O t zs=some u):qay P Q O u∧LimT u:=by
 unfold qt3 at h;by_cases hv:t.op=-1
 ·rw [if_pos hv] at h
  split at h
  ·rename_i hn
   simp at h;subst h;unfold qby at hn;rw [if_pos hv] at hn;refine ⟨(qar P Q O _).2 ⟨?_,fun a ha=>by simp [TermM.args] at ha,fun hv=>absurd rfl hv⟩,by rw [qbe];simp [qa2],by rw [qeo];simp [depths],(qdp (k:=-1) (ps:=[]) (by simp)).2 (by simp)⟩;unfold qby;rw [if_pos (show (TermM.mk (-1) t.name t.sort []).op=-1 from rfl)];exact ⟨hn.1,hn.2.1,rfl⟩
  ·cases h
 ·rw [if_neg hv] at h
  split at h
  ·rename_i hn
   simp at h;subst h;exact ⟨qvo aa o_ hA hn.2.1 hn.2.2.2.2,hn.2.2⟩
  ·cases h
end
end tmc

namespace rebm
open trm tmc
section
variable (F:TermM→List TermM→Option TermM)
noncomputable def fin (t:TermM)(ds:List TermM):Option TermM:=(rebL F (t.args.drop ds.length)).bind fun es=>F t (ds++es)
noncomputable def qnr:List (TermM×List TermM)→Option TermM→Option TermM
 | [],o=>o
 | (t,ds)::rest,o=>qnr rest (o.bind fun u=>fin F t (ds++[u]))
theorem qns (t:TermM):fin F t []=rebM F t:=by
 rw [qrd];simp [fin]
theorem qyq{t:TermM}{ds:List TermM}(h:t.args.length≤ds.length):fin F t ds=F t ds:=by
 unfold fin
 rw [List.drop_eq_nil_of_le h];simp [rebL]
theorem qyr{t:TermM}{ds:List TermM}(h:ds.length<t.args.length):fin F t ds=(fin F (t.args.getD ds.length default) []).bind fun u=>fin F t (ds++[u]):=by
 rw [qns];unfold fin
 rw [List.drop_eq_getElem_cons h];have e:t.args.getD ds.length default=t.args[ds.length]:=by simp [List.getD,h]
 rw [e];simp only [rebL,List.length_append,List.length_cons,List.length_nil,Nat.zero_add];cases rebM F t.args[ds.length] with
 | none=>rfl
 | some u=>
  cases rebL F (t.args.drop (ds.length+1)) with
  | none=>rfl
  | some es=>simp
theorem qjb:∀ R:List (TermM×List TermM),qnr F R none=none
 | []=>rfl
 | _::rest=>qjb rest
end
noncomputable def qys:List (TermM×List TermM)→Nat
 | []=>0
 | (t,ds)::rest=>qa2 (t.args.drop (ds.length+1))+qys rest
noncomputable def left (t:TermM)(ds:List TermM)(R:List (TermM×List TermM)):Nat:=2*(qa2 (t.args.drop ds.length)+qys R)+R.length
theorem qt5 (a:TermM)(l:List TermM):qa2 (a::l)=size a+qa2 l:=by simp [qa2]
theorem left_push{t:TermM}{ds:List TermM}{R:List (TermM×List TermM)}(h:ds.length<t.args.length):left (t.args.getD ds.length default) [] ((t,ds)::R)<left t ds R:=by
 have e:t.args.getD ds.length default=t.args[ds.length]:=by simp [List.getD,h]
 have h1:size t.args[ds.length]=1+qa2 t.args[ds.length].args:=by
  have:=t.args[ds.length].eta;rw [← this,qbe];rfl
 unfold left;rw [List.drop_eq_getElem_cons h,e,qt5];simp only [qys,List.length_nil,List.drop_zero,List.length_cons];omega
theorem left_pop{t t':TermM}{ds ds':List TermM}{R:List (TermM×List TermM)}(u:TermM):left t' (ds'++[u]) R<left t ds ((t',ds')::R):=by
 unfold left;simp only [qys,List.length_append,List.length_cons,List.length_nil,Nat.zero_add];omega
end rebm
end Go.Proofs.YtiilamngcoegiaaGreat
