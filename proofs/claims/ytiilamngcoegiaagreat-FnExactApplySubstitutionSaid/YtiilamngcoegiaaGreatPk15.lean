/- parts -/
import Derived.Test.YtiilamngcoegiaaGreatPk13
import Derived.Test.YtiilamngcoegiaaGreatPk14
namespace Go.Proofs.YtiilamngcoegiaaGreat
open Go.ChangeShapes Go.WideShapes Go.ChangeAt Go.RowKit
namespace tmm
open sortf sigm rowl trm trmv terml termb termro frm sigi gram graml gramc gramt formnd formk formr formf formm tma
section
variable {P:List (List UInt8)} {Q:List (Int×Int)} {O:List OpM}
noncomputable abbrev partsO (O:List OpM) (k:Nat) (L:List TermM):List TermM:=partsM (O.getD k default).unt (O.getD k default).ass k L
noncomputable abbrev qbp (O:List OpM) (k:Nat) (L:List TermM):TermM:=qc1 (O.getD k default).unt (O.getD k default).ass (O.getD k default).com k L
def NumS (O:List OpM)(k:Nat)(L:List TermM):Prop:=if (O.getD k default).ass=true then 2≤L.length else L.length=ar (O.getD k default)
def CanS (P:List (List UInt8))(Q:List (Int×Int))(O:List OpM)(k:Nat)(L:List TermM):Prop:=
 NumS O k L∧∀ i,i<L.length→κK P.length Q (srtT O (L.getD i default))=κK P.length Q ((hd0 (O.getD k default).decls).1.getD (atS (O.getD k default).ass i) 0)
theorem qC5 (aa:qad P Q O=true){k:Nat}(hk:k<O.length):axOk (κK P.length Q) O (O.getD k default)=true:=by
 obtain ⟨_,_,_,_,hx⟩:=qa9 aa;exact hx _ (qhb hk)
theorem qlo (aa:qad P Q O=true){k:Nat}(hk:k<O.length):((O.getD k default).ass=false∧(O.getD k default).com=false∧(O.getD k default).unt=0) ∨
  (ar (O.getD k default)=2∧κK P.length Q (a0 (O.getD k default))=κK P.length Q (a1 (O.getD k default))∧(((O.getD k default).ass=false∧(O.getD k default).unt=0)∨κK P.length Q (a0 (O.getD k default))=κK P.length Q (rs (O.getD k default)))):=by
 have h4:=qC5 aa hk;simp only [axOk,qd2,Bool.and_eq_true,Bool.or_eq_true,decide_eq_true_eq,Bool.not_eq_true'] at h4;rcases h4.1 with h5|h5
 ·exact .inl ⟨h5.1.1,h5.1.2,h5.2⟩
 ·exact .inr ⟨h5.1.1,h5.1.2,h5.2⟩
theorem qve (aa:qad P Q O=true){k:Nat}(hk:k<O.length){L:List TermM}(hn:NumS O k L):∀ i,i<L.length→atS (O.getD k default).ass i<(hd0 (O.getD k default).decls).1.length:=fun i hi=>by
 unfold NumS at hn;cases ha:(O.getD k default).ass with
 | false=>
  rw [ha,if_neg (by simp)] at hn;show i<ar (O.getD k default);omega
 | true=>
  have h5:ar (O.getD k default)=2:=by
   rcases qlo aa hk with h5|h5
   ·rw [ha] at h5;exact absurd h5.1 (by simp)
   ·exact h5.1
  have h6:(hd0 (O.getD k default).decls).1.length=2:=h5;rw [h6];exact Nat.zero_lt_two
theorem qit {L:List TermM}{i:Nat}(hi:i<L.length):L.getD i default∈L:=by rw [List.getD_eq_getElem?_getD,List.getElem?_eq_getElem hi];exact List.getElem_mem _
theorem qra {L:List TermM}{a:TermM}(ha:a∈L):∃ i,i<L.length∧L.getD i default=a:=by
 obtain ⟨i,hi,e⟩:=List.getElem_of_mem ha;exact ⟨i,hi,by rw [List.getD_eq_getElem?_getD,List.getElem?_eq_getElem hi];exact e⟩
theorem qB0 (aa:qad P Q O=true){k:Nat}(hk:k<O.length)(L:List TermM)(hL:∀ a∈L,qd8 P O a):CanP (grM P Q O) (k:Int) L↔CanS P Q O k L:=by
 have hE:(grM P Q O).E.length=O.length:=by rw [qg8 aa];exact qg0 _ _
 unfold CanP CanS;rw [hE,Int.toNat_natCast,qr8 aa hk];have htk:qh9 (O.getD k default,k,shp (κU (qal P Q)) (hd0 (O.getD k default).decls)) L.length=true↔NumS O k L:=by
  unfold qh9 NumS;split
  ·rw [decide_eq_true_iff]
  ·rw [decide_eq_true_iff];rfl
 rw [htk];have hr:(0:Int)≤(k:Int)∧(k:Int)<(O.length:Int):=o_;constructor
 ·rintro ⟨_,h1,h2⟩
  refine ⟨h1,fun i hi=>?_⟩;have hR:=hL _ (qit hi);have h3:=h2 i hi;rw [qlk aa hR,qv8 aa hk (qve aa hk h1 i hi)] at h3;exact (qAz aa (qr9 aa hR) ((qaf (qnf aa hk)).2.2 _ (qve aa hk h1 i hi))).1 h3
 ·rintro ⟨h1,h2⟩
  refine ⟨hr,h1,fun i hi=>?_⟩;have hR:=hL _ (qit hi);rw [qlk aa hR,qv8 aa hk (qve aa hk h1 i hi)];exact (qAz aa (qr9 aa hR) ((qaf (qnf aa hk)).2.2 _ (qve aa hk h1 i hi))).2 (h2 i hi)
theorem qvf {u:Int}{b:Bool}{k:Nat}{a p:TermM}(h:p∈qcs u b k a):(p=a∧¬ (u≠0∧a.op=u-1)∧¬ (b=true∧a.op=(k:Int)))∨(p∈a.args∧b=true∧a.op=(k:Int)):=by
 by_cases h1:u≠0∧a.op=u-1
 ·rw [qeo h1] at h;cases h
 ·by_cases h2:b=true∧a.op=(k:Int)
  ·rw [qep h1 h2] at h
   exact .inr ⟨h,h2.1,h2.2⟩
  ·rw [qd9 h1 h2] at h
   simp at h;exact .inl ⟨h,h1,h2⟩
theorem qec {u:Int}{b:Bool}{k:Nat}{L:List TermM}{p:TermM}(h:p∈partsM u b k L):∃ a∈L,(p=a∧¬ (u≠0∧a.op=u-1)∧¬ (b=true∧a.op=(k:Int)))∨(p∈a.args∧b=true∧a.op=(k:Int)):=by
 obtain ⟨a,ha,h⟩:=List.mem_flatMap.1 h;exact ⟨a,ha,qvf h⟩
theorem qye {a p:TermM}(h:qau P Q O a)(hp:p∈a.args):qau P Q O p:=((qam P Q O a).1 h).2.1 p hp
theorem qk0 {k:Nat}{L:List TermM}(hL:∀ a∈L,qau P Q O a):∀ p∈partsO O k L,qau P Q O p:=by
 intro p hp;obtain ⟨a,ha,h|h⟩:=qec hp
 ·rw [h.1];exact hL a ha
 ·exact qye (hL a ha) h.1
theorem qp8 (aa:qad P Q O=true){k:Nat}(hk:k<O.length){L:List TermM}(hL:∀ a∈L,qau P Q O a){p:TermM}(hp:p∈partsO O k L):
  ¬ ((O.getD k default).unt≠0∧p.op=(O.getD k default).unt-1)∧¬ ((O.getD k default).ass=true∧p.op=(k:Int)):=by
 obtain ⟨a,ha,h|h⟩:=qec hp
 ·rw [h.1];exact h.2
 ·obtain ⟨h1,h2,h3⟩:=(qam P Q O a).1 (hL a ha)
  have hv:a.op≠-1:=by rw [h.2.2];omega
  have h4:=h3 hv;rw [h.2.2,Int.toNat_natCast] at h4;obtain ⟨i,hi,e⟩:=qra h.1;obtain ⟨_,q2,q3,_⟩:=h4 i hi;rw [e] at q2 q3;refine ⟨fun hu=>q3 ⟨hu.1,?_⟩,q2⟩;have hn:=((qam P Q O p).1 (h2 p h.1)).1;exact (qc5 _ _).2 (qp6 aa hk hn hu.1 hu.2)
theorem qsu {k:Nat}{L:List TermM}(hL:∀ a∈L,qau P Q O a)(hC:CanS P Q O k L)(aa:(O.getD k default).ass=true){p:TermM}(hp:p∈partsO O k L):
  κK P.length Q (srtT O p)=κK P.length Q ((hd0 (O.getD k default).decls).1.getD 0 0):=by
 obtain ⟨a,ha,h|h⟩:=qec hp
 ·obtain ⟨i,hi,e⟩:=qra ha
  have:=hC.2 i hi;rw [aa,e] at this;rw [h.1];exact this
 ·obtain ⟨h1,h2,h3⟩:=(qam P Q O a).1 (hL a ha)
  have hv:a.op≠-1:=by rw [h.2.2];omega
  have h4:=h3 hv;rw [h.2.2,Int.toNat_natCast] at h4;obtain ⟨i,hi,e⟩:=qra h.1;obtain ⟨q1,_⟩:=h4 i hi;rw [aa,e] at q1;exact q1
theorem qk1 {u:Int}{k:Nat}:∀ {L:List TermM},(partsM u false k L).length≤L.length∧((partsM u false k L).length=L.length→partsM u false k L=L)
 | []=>⟨Nat.le_refl _,fun _=>rfl⟩
 | a::L=>by
  have ih:=qk1 (u:=u) (k:=k) (L:=L);have e:partsM u false k (a::L)=qcs u false k a++partsM u false k L:=rfl;rw [e,List.length_append,List.length_cons];by_cases h1:u≠0∧a.op=u-1
  ·rw [qeo h1]
   exact ⟨by simp;omega,fun h=>by simp at h;omega⟩
  ·rw [qd9 h1 (by simp)]
   refine ⟨by simp;omega,fun h=>?_⟩;rw [ih.2 (by simp at h;omega)];rfl
theorem qgr {b:Bool}{k:Nat}:∀ {L:List TermM},(b=true→∀ a∈L,a.op=(k:Int)→2≤a.args.length)→L.length≤(partsM 0 b k L).length
 | [],_=>Nat.le_refl _
 | a::L,h=>by
  have ih:=qgr (b:=b) (k:=k) (L:=L) (fun hb a ha=>h hb a (by simp [ha]));have e:partsM 0 b k (a::L)=qcs 0 b k a++partsM 0 b k L:=rfl;rw [e,List.length_append,List.length_cons];by_cases h2:b=true∧a.op=(k:Int)
  ·rw [qep (by simp) h2]
   have:=h h2.1 a (by simp) h2.2;omega
  ·rw [qd9 (by simp) h2]
   simp;omega
theorem qrb {k:Nat}{a:TermM}(h:qau P Q O a)(hb:(O.getD k default).ass=true)(ho:a.op=(k:Int)):2≤a.args.length:=by
 have h1:=((qam P Q O a).1 h).1;unfold qbu at h1;rw [if_neg o_,ho,Int.toNat_natCast,if_pos hb] at h1;exact h1.2.2.2.1
theorem qng (ab:qad P Q O=true){k:Nat}(hk:k<O.length){L:List TermM}(hL:∀ a∈L,qau P Q O a)(hC:NumS O k L)(h0:¬ ((O.getD k default).unt≠0∧(partsO O k L).length=0))(h1:¬ ((O.getD k default).unt≠0∧(partsO O k L).length=1)):
  ((O.getD k default).ass=true→2≤(partsO O k L).length)∧((O.getD k default).ass=false→partsO O k L=L∧L.length=ar (O.getD k default)):=by
 unfold NumS at hC;constructor
 ·intro aa
  rw [if_pos aa] at hC;by_cases hu:(O.getD k default).unt=0
  ·have:=qgr (b:=(O.getD k default).ass) (k:=k) (L:=L) (fun hb a ha ho=>qrb (hL a ha) hb ho)
   unfold partsO;rw [hu];omega
  ·have:(partsO O k L).length≠0:=fun e=>h0 ⟨hu,e⟩
   have:(partsO O k L).length≠1:=fun e=>h1 ⟨hu,e⟩
   omega
 ·intro aa
  rw [if_neg (by rw [aa];simp)] at hC;refine ⟨?_,hC⟩;have hf:=qk1 (u:=(O.getD k default).unt) (k:=k) (L:=L);unfold partsO at h0 h1 ⊢;rw [aa] at h0 h1 ⊢;apply hf.2
  by_cases hu:(O.getD k default).unt=0
  ·have:=qgr (b:=false) (k:=k) (L:=L) (fun hb=>by cases hb)
   rw [hu] at hf ⊢;omega
  ·have:(partsM (O.getD k default).unt false k L).length≠0:=fun e=>h0 ⟨hu,e⟩
   have:(partsM (O.getD k default).unt false k L).length≠1:=fun e=>h1 ⟨hu,e⟩
   have:ar (O.getD k default)=2:=by
    rcases qlo ab hk with h5|h5
    ·exact absurd h5.2.2 hu
    ·exact h5.1
   omega
theorem qvg (ab:qad P Q O=true){k:Nat}(hk:k<O.length)(hu:(O.getD k default).unt≠0):qau P Q O (.mk ((O.getD k default).unt-1) [] 0 []):=by
 have h1:=qC5 ab hk;simp only [axOk,qds,Bool.and_eq_true,Bool.or_eq_true,decide_eq_true_eq] at h1;obtain ⟨⟨h2,h3⟩,_⟩:=h1.2.resolve_left hu;obtain ⟨u,ac⟩:=e_ ((O.getD k default).unt);unfold qc2 at h3;rw [← ac] at hu h2 h3 ⊢;obtain ⟨j,hj⟩:∃ j:Nat,u=(j:Int)+1:=⟨(u-1).toNat,by omega⟩;have ad:j<O.length:=o_;rw [show u.toNat-1=j by omega] at h3;have aa:(O.getD j default).ass=false:=by
  rcases qlo ab ad with h5|h5
  ·exact h5.1
  ·omega
 rw [show u-1=(j:Int) by omega];refine (qam P Q O _).2 ⟨?_,fun a ha=>by simp [TermM.args] at ha,fun _ i hi=>by simp [TermM.args] at hi⟩;unfold qbu;have e1:(TermM.mk (j:Int) [] 0 []).op=(j:Int):=rfl;rw [e1,if_neg o_,Int.toNat_natCast,if_neg (by rw [aa];simp),h3];exact ⟨by omega,rfl,rfl,rfl⟩
theorem qyf (aa:qad P Q O=true){k:Nat}(hk:k<O.length)(hc:(O.getD k default).com=true):ar (O.getD k default)=2∧∀ i,i<2→κK P.length Q ((hd0 (O.getD k default).decls).1.getD i 0)=κK P.length Q ((hd0 (O.getD k default).decls).1.getD 0 0):=by
 rcases qlo aa hk with h5|h5
 ·rw [hc] at h5;exact absurd h5.2.1 (by simp)
 ·refine ⟨h5.1,fun i hi=>?_⟩
  have:=h5.2.1;unfold a0 a1 at this;match i,hi with
  | 0,_=>rfl
  | 1,_=>exact this.symm
theorem qvh (ac:qad P Q O=true){k:Nat}(hk:k<O.length){L:List TermM}(hL:∀ a∈L,qau P Q O a)(hC:CanS P Q O k L)(hw:wide (qbp O k L)):qau P Q O (qbp O k L):=by
 unfold qbp qc1 at hw ⊢;by_cases h0:(O.getD k default).unt≠0∧(partsO O k L).length=0
 ·rw [if_pos h0]
  exact qvg ac hk h0.1
 rw [if_neg h0] at hw ⊢;by_cases h1:(O.getD k default).unt≠0∧(partsO O k L).length=1
 ·rw [if_pos h1]
  exact qk0 hL _ (qit o_)
 rw [if_neg h1] at hw ⊢;obtain ⟨n1,n2⟩:=qng ac hk hL hC.1 h0 h1;have ah:=fun p hp=>qp8 ac hk hL (p:=p) hp
 obtain ⟨ps,ad⟩:=e_ (partsO O k L);have ai:ps=partsM (O.getD k default).unt (O.getD k default).ass k L:=ad;have aj:∀ p∈ps,qau P Q O p:=fun p hp=>qk0 hL p (by rw [← ad];exact hp)
 have ak:(O.getD k default).ass=true→∀ p∈ps,κK P.length Q (srtT O p)=κK P.length Q ((hd0 (O.getD k default).decls).1.getD 0 0):=fun ha p hp=>qsu hL hC ha (by rw [← ad];exact hp)
 rw [← ad] at n1 n2 ah;rw [← ai] at hw ⊢;clear h0 h1 ai;obtain ⟨qs,ae⟩:=e_ ((if (O.getD k default).com=true∧ps.length≤7 then qcd ps else ps));rw [← ae] at hw ⊢;have aa:qs.Perm ps:=by
  rw [ae];split
  ·exact (qb8 ps).2
  ·exact List.Perm.refl _
 have hlen:=aa.length_eq;have h7:qs.length≤7:=((qgq _ _ _ _ _).1 hw).1
 have af:(O.getD k default).com=true→Srt qs:=fun hc=>by
  rw [ae,if_pos ⟨hc,by omega⟩];exact (qb8 ps).1
 refine (qam P Q O _).2 ⟨?_,fun a ha=>aj a (aa.mem_iff.1 ha),fun _=>?_⟩
 ·unfold qbu
  have e1:(TermM.mk (k:Int) [] 0 qs).op=(k:Int):=rfl;have e2:(TermM.mk (k:Int) [] 0 qs).args=qs:=rfl;rw [e1,e2,if_neg o_,Int.toNat_natCast];refine ⟨by omega,rfl,rfl,?_⟩;cases ha:(O.getD k default).ass with
  | true=>rw [if_pos rfl];exact ⟨by have:=n1 ha;omega,h7⟩
  | false=>
   rw [if_neg (by simp)];obtain ⟨e,e2⟩:=n2 ha;rw [hlen,e,e2]
 ·show qg7 _ O (k:Int).toNat qs
  rw [Int.toNat_natCast];have ab:∀ i,i<qs.length→κK P.length Q (srtT O (qs.getD i default))=κK P.length Q ((hd0 (O.getD k default).decls).1.getD (atS (O.getD k default).ass i) 0):=by
   intro i hi;cases ha:(O.getD k default).ass with
   | true=>exact ak ha _ (aa.mem_iff.1 (qit hi))
   | false=>
    obtain ⟨e,e2⟩:=n2 ha;have ag:=hC.2;rw [ha] at ag;cases hc:(O.getD k default).com with
    | false=>
     have:qs=L:=by rw [ae,if_neg (by rw [hc];simp),e]
     rw [this];exact ag i (by rw [← e,← hlen];exact hi)
    | true=>
     obtain ⟨c1,c2⟩:=qyf ac hk hc;have hm:=aa.mem_iff.1 (qit hi);rw [e] at hm;obtain ⟨j,hj,ej⟩:=qra hm;rw [← ej,ag j hj];show κK P.length Q ((hd0 (O.getD k default).decls).1.getD j 0)=κK P.length Q ((hd0 (O.getD k default).decls).1.getD i 0);have al:qs.length=2:=by rw [hlen,e,e2,c1]
     rw [c2 j o_,c2 i o_]
  intro i hi;obtain ⟨r1,r2⟩:=ah _ (aa.mem_iff.1 (qit hi));refine ⟨ab i hi,r2,fun hu=>r1 ⟨hu.1,?_⟩,fun hc h0=>?_⟩
  ·rw [(qc5 _ _).1 hu.2,qg6,if_neg hu.1];rfl
  ·have:=(qoy qs).1 (af hc) (i-1) o_
   rwa [show i-1+1=i by omega] at this
theorem qyg {a p:TermM}(h:wide a)(hp:p∈a.args):wide p:=((qbn _ a).1 h).2 p hp
theorem qvi {a p:TermM}(h:LimT a)(hp:p∈a.args):LimT p:=by
 obtain ⟨h1,h2,h3⟩:=h;have s1:=qim hp;have s2:=qao a;have d1:=qg3 hp;have d2:=qan a;exact ⟨by omega,by omega,qyg h3 hp⟩
theorem qvj {u:Int}{b:Bool}{k:Nat}{L:List TermM}(hL:∀ a∈L,LimT a):∀ p∈partsM u b k L,LimT p:=by
 intro p hp;obtain ⟨a,ha,h|h⟩:=qec hp
 ·rw [h.1];exact hL a ha
 ·exact qvi (hL a ha) h.1
noncomputable def qgs (u:Int)(b c:Bool)(k:Nat)(L:List TermM):TermM:=
 if u≠0∧(partsM u b k L).length=0 then .mk (u-1) [] 0 [] else if u≠0∧(partsM u b k L).length=1 then (partsM u b k L).getD 0 default
 else .mk k [] 0 (if c=true then qcd (partsM u b k L) else partsM u b k L)
def okX (u:Int)(b c:Bool)(k:Nat)(L:List TermM):Prop:=
 (u≠0∧(partsM u b k L).length=0)∨(u≠0∧(partsM u b k L).length=1)∨((b=true→(partsM u b k L).length≤7)∧size (qgs u b c k L)≤60∧depth (qgs u b c k L)≤20)
theorem qda {k:Int}{ps:List TermM}(h:∀ p∈ps,wide p):wide (.mk k [] 0 ps)↔ps.length≤7:=by
 unfold wide;rw [qgq];exact ⟨fun h=>h.1,fun h1=>⟨h1,h⟩⟩
theorem qC6 (ab:qad P Q O=true){k:Nat}(hk:k<O.length){L:List TermM}(hL:∀ a∈L,qau P Q O a)(hl:∀ a∈L,LimT a)(hC:NumS O k L):
  (okX (O.getD k default).unt (O.getD k default).ass (O.getD k default).com k L↔LimT (qbp O k L))∧(LimT (qbp O k L)→qgs (O.getD k default).unt (O.getD k default).ass (O.getD k default).com k L=qbp O k L):=by
 have aa:=qvj (u:=(O.getD k default).unt) (b:=(O.getD k default).ass) (k:=k) hl;by_cases h0:(O.getD k default).unt≠0∧(partsO O k L).length=0
 ·have eF:qbp O k L=.mk ((O.getD k default).unt-1) [] 0 []:=by unfold qbp qc1;rw [if_pos h0]
  have eX:qgs (O.getD k default).unt (O.getD k default).ass (O.getD k default).com k L=.mk ((O.getD k default).unt-1) [] 0 []:=by unfold qgs;rw [if_pos h0]
  rw [eF,eX];exact ⟨⟨fun _=>⟨by rw [qb7];simp [sizes],by rw [qeh];simp [depths],(qda (by simp)).2 (by simp)⟩,fun _=>.inl h0⟩,fun _=>rfl⟩
 by_cases h1:(O.getD k default).unt≠0∧(partsO O k L).length=1
 ·have eF:qbp O k L=(partsO O k L).getD 0 default:=by unfold qbp qc1;rw [if_neg h0,if_pos h1]
  have eX:qgs (O.getD k default).unt (O.getD k default).ass (O.getD k default).com k L=(partsO O k L).getD 0 default:=by unfold qgs;rw [if_neg h0,if_pos h1]
  rw [eF,eX];exact ⟨⟨fun _=>aa _ (qit (by unfold partsO at h1;omega)),fun _=>.inr (.inl h1)⟩,fun _=>rfl⟩
 obtain ⟨n1,n2⟩:=qng ab hk hL hC h0 h1;have eF:qbp O k L=.mk k [] 0 (if (O.getD k default).com=true∧(partsO O k L).length≤7 then qcd (partsO O k L) else partsO O k L):=by unfold qbp qc1;rw [if_neg h0,if_neg h1]
 have eX:qgs (O.getD k default).unt (O.getD k default).ass (O.getD k default).com k L=.mk k [] 0 (if (O.getD k default).com=true then qcd (partsO O k L) else partsO O k L):=by unfold qgs;rw [if_neg h0,if_neg h1]
 unfold okX;rw [eF,eX];clear eF eX;unfold partsO at h0 h1 n1 n2 ⊢;obtain ⟨ps,ad⟩:=e_ (partsM (O.getD k default).unt (O.getD k default).ass k L);rw [← ad] at h0 h1 n1 n2 aa ⊢
 have h3:(O.getD k default).ass=false→ps.length≤3:=fun ha=>by
  obtain ⟨e,e2⟩:=n2 ha;rw [e,e2];exact (qaf (qnf ab hk)).1
 have ae:∀ (b:Bool),wide (.mk (k:Int) [] 0 (if b=true then qcd ps else ps))↔ps.length≤7:=fun b=>by
  cases b with
  | false=>exact qda (fun p hp=>(aa p hp).2.2)
  | true=>
   rw [if_pos rfl,← (qb8 ps).2.length_eq];exact qda (fun p hp=>(aa p ((qb8 ps).2.mem_iff.1 hp)).2.2)
 by_cases h7:ps.length≤7
 ·have e:(if (O.getD k default).com=true∧ps.length≤7 then qcd ps else ps)=(if (O.getD k default).com=true then qcd ps else ps):=by
   by_cases hc:(O.getD k default).com=true
   ·rw [if_pos ⟨hc,h7⟩,if_pos hc]
   ·rw [if_neg (fun h=>hc h.1),if_neg hc]
  rw [e];refine ⟨⟨fun h=>?_,fun h=>.inr (.inr ⟨fun _=>h7,h.1,h.2.1⟩)⟩,fun _=>rfl⟩;rcases h with h|h|h
  ·exact absurd h h0
  ·exact absurd h h1
  ·exact ⟨h.2.1,h.2.2,(ae _).2 h7⟩
 ·have ha:(O.getD k default).ass=true:=by
   cases ha:(O.getD k default).ass with
   | true=>rfl
   | false=>exact absurd (h3 ha) o_
  have ac:¬ LimT (.mk (k:Int) [] 0 (if (O.getD k default).com=true∧ps.length≤7 then qcd ps else ps)):=fun h=>by
   rw [if_neg (fun e=>h7 e.2)] at h;exact h7 ((qda (fun p hp=>(aa p hp).2.2)).1 h.2.2)
  refine ⟨⟨fun h=>?_,fun h=>absurd h ac⟩,fun h=>absurd h ac⟩;rcases h with h|h|h
  ·exact absurd h h0
  ·exact absurd h h1
  ·exact absurd (h.1 ha) h7
end
end tmm

namespace tmc
open sorti sigm rowl trm trmv terml termt termro frm gram gramk gramc formnd formf formm tma tmm
noncomputable def rebM (F:TermM→List TermM→Option TermM)(t:TermM):Option TermM:=
 TermM.rec (motive_1:=fun _=>Option TermM) (motive_2:=fun _=>Option (List TermM)) (fun o n s l h=>h.bind (F (.mk o n s l))) (some []) (fun _ _ a l=>a.bind fun x=>l.map fun r=>x::r) t
noncomputable def rebL (F:TermM→List TermM→Option TermM):List TermM→Option (List TermM)
 | []=>some []
 | a::l=>(rebM F a).bind fun x=>(rebL F l).map fun r=>x::r
theorem qp9 (F:TermM→List TermM→Option TermM)(o:Int)(n:List UInt8)(s:Int)(l:List TermM):rebM F (.mk o n s l)=(rebL F l).bind (F (.mk o n s l)):=by
 have:∀ l:List TermM,(TermM.rec_1 (motive_1:=fun _=>Option TermM) (motive_2:=fun _=>Option (List TermM)) (fun o n s l h=>h.bind (F (.mk o n s l))) (some []) (fun _ _ a l=>a.bind fun x=>l.map fun r=>x::r) l:Option (List TermM))=rebL F l:=by
  intro l;induction l with
  | nil=>rfl
  | cons a l ih=>rw [rebL,← ih];rfl
 rw [← this];rfl
theorem qrc (F:TermM→List TermM→Option TermM)(t:TermM):rebM F t=(rebL F t.args).bind (F t):=by cases t;exact qp9 _ _ _ _ _
section
variable {P:List (List UInt8)} {Q:List (Int×Int)} {O:List OpM}
theorem qfb (u:Int)(b:Bool)(k:Nat):∀ L:List TermM,sizes (partsM u b k L)≤sizes L
 | []=>Nat.le_refl _
 | a::L=>by
  have ih:=qfb u b k L;have e:partsM u b k (a::L)=qcs u b k a++partsM u b k L:=rfl;have e2:sizes (qcs u b k a++partsM u b k L)=sizes (qcs u b k a)+sizes (partsM u b k L):=by simp [sizes]
  rw [e,e2];have e3:sizes (a::L)=size a+sizes L:=by simp [sizes]
  have e4:sizes (qcs u b k a)≤size a:=by
   have:=termro.qao a;unfold qcs;split
   ·simp [sizes]
   ·split
    ·omega
    ·simp [sizes]
  omega
theorem qk2 {l m:List TermM}(h:l.Perm m):sizes l=sizes m:=by
 unfold sizes;exact (h.map size).sum_nat
theorem qsv (u:Int)(b c:Bool)(k:Nat)(L:List TermM):size (qc1 u b c k L)≤1+sizes L:=by
 have h:=qfb u b k L;unfold qc1;split
 ·rw [qb7];simp [sizes]
 ·split
  ·rename_i h1
   have:=qah (l:=partsM u b k L) (j:=0) o_;omega
  ·rw [qb7]
   split
   ·rw [qk2 (qb8 _).2];omega
   ·omega
noncomputable def qlp (G:GrM)(t:TermM)(zs:List TermM):Option TermM:=by
 classical
 exact if t.op=-1 then (if varB G t=true then some (.mk (-1) t.name t.sort []) else none)
  else if qd7 t=true∧CanP G t.op zs∧LimT (qc1 (G.E.getD t.op.toNat default).1.unt (G.E.getD t.op.toNat default).1.ass (G.E.getD t.op.toNat default).1.com t.op.toNat zs) then some (qc1 (G.E.getD t.op.toNat default).1.unt (G.E.getD t.op.toNat default).1.ass (G.E.getD t.op.toNat default).1.com t.op.toNat zs) else none
noncomputable def qsw (P:List (List UInt8))(Q:List (Int×Int))(O:List OpM)(t:TermM)(zs:List TermM):Option TermM:=by
 classical
 exact if t.op=-1 then (if qbu P O t then some (.mk (-1) t.name t.sort []) else none)
  else if ((0≤t.op∧t.op<O.length)∧t.name=[]∧t.sort=0)∧CanS P Q O t.op.toNat zs∧LimT (qbp O t.op.toNat zs) then some (qbp O t.op.toNat zs) else none
theorem qsx {G:GrM}{t u:TermM}{zs:List TermM}(h:qlp G t zs=some u):size u≤1+sizes zs:=by
 unfold qlp at h;split at h
 ·split at h
  ·simp at h;subst h;rw [qb7];simp [sizes]
  ·cases h
 ·split at h
  ·simp at h;subst h;exact qsv _ _ _ _ _
  ·cases h
theorem qyh (aa:¬ qad P Q O=true)(t:TermM)(zs:List TermM):qlp (grM P Q O) t zs=none:=by
 have hg:grM P Q O=⟨[],[]⟩:=by unfold grM;rw [if_neg aa]
 unfold qlp;rw [hg];split
 ·rw [if_neg]
  simp only [varB,Bool.and_eq_true,decide_eq_true_eq,List.length_nil];omega
 ·rw [if_neg]
  intro h;have:=h.2.1.1;simp only [List.length_nil] at this;omega
theorem qvk (aa:qad P Q O=true)(t:TermM)(zs:List TermM)(hA:∀ a∈zs,qau P Q O a):qlp (grM P Q O) t zs=qsw P Q O t zs:=by
 unfold qlp qsw;by_cases hv:t.op=-1
 ·rw [if_pos hv,if_pos hv]
  have e:varB (grM P Q O) t=true↔qbu P O t:=by
   have hU:(grM P Q O).U.length=P.length:=by rw [qg8 aa];exact qlj aa
   unfold qbu;rw [if_pos hv];simp only [varB,Bool.and_eq_true,decide_eq_true_eq,hU];exact ⟨fun h=>⟨h.1.1,h.1.2,h.2⟩,fun h=>⟨⟨h.1,h.2.1⟩,h.2.2⟩⟩
  by_cases hn:qbu P O t
  ·rw [if_pos hn,if_pos (e.2 hn)]
  ·rw [if_neg hn,if_neg (fun h=>hn (e.1 h))]
 ·rw [if_neg hv,if_neg hv]
  by_cases hr:0≤t.op∧t.op<O.length
  ·obtain ⟨k,hk⟩:∃ k:Nat,t.op=(k:Int):=⟨t.op.toNat,by omega⟩
   have ab:k<O.length:=o_;have hc:=qB0 aa ab zs (fun a ha=>qch ((qam P Q O a).1 (hA a ha)).1);rw [hk,Int.toNat_natCast,qr8 aa ab];by_cases h:(((0:Int)≤(k:Int)∧(k:Int)<O.length)∧t.name=[]∧t.sort=0)∧CanS P Q O k zs∧LimT (qbp O k zs)
   ·rw [if_pos h,if_pos ⟨by simp only [qd7,decide_eq_true_eq];exact h.1.2,hc.2 h.2.1,h.2.2⟩]
   ·rw [if_neg h,if_neg]
    rintro ⟨h1,h2,h3⟩;simp only [qd7,decide_eq_true_eq] at h1;exact h ⟨⟨by omega,h1⟩,hc.1 h2,h3⟩
  ·have hE:(grM P Q O).E.length=O.length:=by rw [qg8 aa];exact qg0 _ _
   rw [if_neg,if_neg]
   ·exact fun h=>hr h.1.1
   ·rintro ⟨_,h2,_⟩
    have:=h2.1;rw [hE] at this;exact hr this
theorem qk3 (aa:qad P Q O=true){t u:TermM}{zs:List TermM}(hA:∀ a∈zs,qau P Q O a)(h:qsw P Q O t zs=some u):qau P Q O u∧LimT u:=by
 unfold qsw at h;by_cases hv:t.op=-1
 ·rw [if_pos hv] at h
  split at h
  ·rename_i hn
   simp at h;subst h;unfold qbu at hn;rw [if_pos hv] at hn;refine ⟨(qam P Q O _).2 ⟨?_,fun a ha=>by simp [TermM.args] at ha,fun hv=>absurd rfl hv⟩,by rw [qb7];simp [sizes],by rw [qeh];simp [depths],(qda (k:=-1) (ps:=[]) (by simp)).2 (by simp)⟩;unfold qbu;rw [if_pos (show (TermM.mk (-1) t.name t.sort []).op=-1 from rfl)];exact ⟨hn.1,hn.2.1,rfl⟩
  ·cases h
 ·rw [if_neg hv] at h
  split at h
  ·rename_i hn
   simp at h;subst h;exact ⟨qvh aa o_ hA hn.2.1 hn.2.2.2.2,hn.2.2⟩
  ·cases h
end
end tmc

namespace rebm
open trm tmc
section
variable (F:TermM→List TermM→Option TermM)
noncomputable def fin (t:TermM)(ds:List TermM):Option TermM:=(rebL F (t.args.drop ds.length)).bind fun es=>F t (ds++es)
noncomputable def qnh:List (TermM×List TermM)→Option TermM→Option TermM
 | [],o=>o
 | (t,ds)::rest,o=>qnh rest (o.bind fun u=>fin F t (ds++[u]))
theorem qni (t:TermM):fin F t []=rebM F t:=by
 rw [qrc];simp [fin]
theorem qyi {t:TermM}{ds:List TermM}(h:t.args.length≤ds.length):fin F t ds=F t ds:=by
 unfold fin
 rw [List.drop_eq_nil_of_le h];simp [rebL]
theorem qyj {t:TermM}{ds:List TermM}(h:ds.length<t.args.length):fin F t ds=(fin F (t.args.getD ds.length default) []).bind fun u=>fin F t (ds++[u]):=by
 rw [qni];unfold fin
 rw [List.drop_eq_getElem_cons h];have e:t.args.getD ds.length default=t.args[ds.length]:=by simp [List.getD,h]
 rw [e];simp only [rebL,List.length_append,List.length_cons,List.length_nil,Nat.zero_add];cases rebM F t.args[ds.length] with
 | none=>rfl
 | some u=>
  cases rebL F (t.args.drop (ds.length+1)) with
  | none=>rfl
  | some es=>simp
theorem qiu:∀ R:List (TermM×List TermM),qnh F R none=none
 | []=>rfl
 | _::rest=>qiu rest
end
noncomputable def qyk:List (TermM×List TermM)→Nat
 | []=>0
 | (t,ds)::rest=>sizes (t.args.drop (ds.length+1))+qyk rest
noncomputable def left (t:TermM)(ds:List TermM)(R:List (TermM×List TermM)):Nat:=2*(sizes (t.args.drop ds.length)+qyk R)+R.length
theorem qsy (a:TermM)(l:List TermM):sizes (a::l)=size a+sizes l:=by simp [sizes]
theorem left_push {t:TermM}{ds:List TermM}{R:List (TermM×List TermM)}(h:ds.length<t.args.length):left (t.args.getD ds.length default) [] ((t,ds)::R)<left t ds R:=by
 have e:t.args.getD ds.length default=t.args[ds.length]:=by simp [List.getD,h]
 have h1:size t.args[ds.length]=1+sizes t.args[ds.length].args:=by
  have:=t.args[ds.length].eta;rw [← this,qb7];rfl
 unfold left;rw [List.drop_eq_getElem_cons h,e,qsy];simp only [qyk,List.length_nil,List.drop_zero,List.length_cons];omega
theorem left_pop {t t':TermM}{ds ds':List TermM}{R:List (TermM×List TermM)}(u:TermM):left t' (ds'++[u]) R<left t ds ((t',ds')::R):=by
 unfold left;simp only [qyk,List.length_append,List.length_cons,List.length_nil,Nat.zero_add];omega
end rebm
end Go.Proofs.YtiilamngcoegiaaGreat
