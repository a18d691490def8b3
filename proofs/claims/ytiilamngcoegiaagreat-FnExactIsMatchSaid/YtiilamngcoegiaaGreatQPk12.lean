/- parts -/
import Derived.Test.YtiilamngcoegiaaGreatQPk10
import Derived.Laws.IdiomCopy
import Derived.IntWalk
import Derived.Test.YtiilamngcoegiaaGreatQPk17
import Derived.BigQuiet
import Derived.Deep.LoopGhost
namespace Go.Proofs.YtiilamngcoegiaaGreat
open Go.ChangeShapes Go.WideShapes Go.ChangeAt Go.RowKit
variable {k i N lo kk g n j:Nat}{ys:List Value}{w:World}
namespace formm
open dec sortp sortf sigm trm trmv frm sigi sigk gram gramo graml gramk gramc gramn gramt formnd formk formr formf
section
variable {P:List (List UInt8)} {Q:List (Int×Int)} {O:List OpM}
theorem qB6 (aa:qah P Q O=true){x y:Int}(hx:inN P.length x=true)(hy:inN P.length y=true):κU (qaq P Q) x=κU (qaq P Q) y↔κK P.length Q x=κK P.length Q y:=by
 have hS:=(qa8 aa).1;have e:∀ z,κU (qaq P Q) z=κC P.length Q z:=fun z=>by unfold κU κC qaq;rw [if_pos hS]
 rw [e,e];exact qqt (qb2 hS).2.2.1 x y hx hy
theorem qhm (h:k<O.length):O.getD k default∈O:=by rw [List.getD_eq_getElem?_getD,List.getElem?_eq_getElem h];exact List.getElem_mem _
theorem qnp (aa:qah P Q O=true)(h:k<O.length):okD P.length (hd0 (O.getD k default).decls)=true:=by
 obtain ⟨_,_,_,hd,_⟩:=qa8 aa;exact (qap (hd _ (qhm h))).2.2.2
theorem qgg (aa:qah P Q O=true):grM P Q O=⟨qaq P Q,opsE O (shps (κU (qaq P Q)) O)⟩:=by unfold grM;rw [if_pos aa]
theorem qlw (aa:qah P Q O=true):(qaq P Q).length=P.length:=by rw [qgy,if_pos (qa8 aa).1]
theorem qr8 (aa:qah P Q O=true)(h:k<O.length):(grM P Q O).E.getD k default=(O.getD k default,k,shp (κU (qaq P Q)) (hd0 (O.getD k default).decls)):=by
 rw [qgg aa];show (opsE O _).getD k default=_;rw [qp6 O _ h,qg3 _ O k h]
theorem qr9 (aa:qah P Q O=true){x:TermM}(h:qdn P O x):inN P.length (srtT O x)=true:=by
 unfold qdn at h;unfold srtT;split
 ·rename_i hv
  rw [if_pos hv] at h;exact decide_eq_true h
 ·rename_i hv
  rw [if_neg hv] at h;obtain ⟨k,hk⟩:∃ k:Nat,x.op=(k:Int):=⟨x.op.toNat,by omega⟩;rw [hk,Int.toNat_natCast];exact (qaj (qnp aa o_)).2.1
theorem qlx (aa:qah P Q O=true){x:TermM}(h:qdn P O x):gKind (grM P Q O) x=κU (qaq P Q) (srtT O x):=by
 have ab:=qr9 aa h;unfold qdn at h;unfold gKind srtT at *;by_cases hv:x.op=-1
 ·rw [if_pos hv] at h ab ⊢
  rw [if_pos hv,qgg aa];exact qAs (by rw [qlw aa];exact ab)
 ·rw [if_neg hv] at h ab ⊢
  rw [if_neg hv];obtain ⟨k,hk⟩:∃ k:Nat,x.op=(k:Int):=⟨x.op.toNat,by omega⟩;have ac:k<O.length:=o_;have hE:(grM P Q O).E.length=O.length:=by rw [qgg aa];exact qg6 _ _
  rw [hE,if_pos h,hk,Int.toNat_natCast,qr8 aa ac];rfl
theorem qvf (ab:qah P Q O=true)(h:k<O.length)(hi:atS (O.getD k default).ass i<(hd0 (O.getD k default).decls).1.length):
  kAtS (O.getD k default).ass (shp (κU (qaq P Q)) (hd0 (O.getD k default).decls)) i=κU (qaq P Q) ((hd0 (O.getD k default).decls).1.getD (atS (O.getD k default).ass i) 0):=by
 have h3:=(qaj (qnp ab h)).1;cases ha:(O.getD k default).ass with
 | true=>
  rw [ha] at hi;have h0:0<(hd0 (O.getD k default).decls).1.length:=hi;show pl (κU (qaq P Q)) (hd0 (O.getD k default).decls).1 0=_;rw [pl,if_pos h0];rfl
 | false=>
  rw [ha] at hi;have aa:i<(hd0 (O.getD k default).decls).1.length:=hi;match i,aa with
  | 0,aa=>
   show pl (κU (qaq P Q)) (hd0 (O.getD k default).decls).1 0=_;rw [pl,if_pos aa];rfl
  | 1,aa=>
   show pl (κU (qaq P Q)) (hd0 (O.getD k default).decls).1 1=_;rw [pl,if_pos aa];rfl
  | 2,aa=>
   show pl (κU (qaq P Q)) (hd0 (O.getD k default).decls).1 2=_;rw [pl,if_pos aa];rfl
  | n+3,aa=>omega
theorem qpd (ab:qah P Q O=true)(hk:k<O.length){a:TermM}(ha:qby P O a)(hu:(O.getD k default).unt≠0)(ho:a.op=(O.getD k default).unt-1):a=qge (O.getD k default).unt:=by
 obtain ⟨_,_,_,_,hx⟩:=qa8 ab;have h1:=hx _ (qhm hk);simp only [axOk,qe4,Bool.and_eq_true,Bool.or_eq_true,decide_eq_true_eq] at h1;obtain ⟨⟨h2,h3⟩,_⟩:=h1.2.resolve_left hu;obtain ⟨u,ac⟩:=e_ ((O.getD k default).unt);unfold qc7 at h3;rw [← ac] at hu ho h2 h3 ⊢;obtain ⟨j,hj⟩:∃ j:Nat,u=(j:Int)+1:=⟨(u-1).toNat,by omega⟩;have ad:j<O.length:=o_;rw [show u.toNat-1=j by omega] at h3;have h4:=hx _ (qhm ad);simp only [axOk,qdf,Bool.and_eq_true,Bool.or_eq_true,decide_eq_true_eq,Bool.not_eq_true'] at h4;have aa:(O.getD j default).ass=false:=by
  rcases h4.1 with h5|h5
  ·exact h5.1.1
  ·omega
 have ae:a.op=(j:Int):=o_;unfold qby at ha;rw [if_neg o_,ae,Int.toNat_natCast,if_neg (by rw [aa];simp),h3] at ha;obtain ⟨_,q1,q2,q3⟩:=ha;cases a with
 | mk op nm st l=>
  have e1:op=u-1:=ho;have e2:nm=[]:=q1;have e3:st=0:=q2;have e4:l=[]:=List.eq_nil_of_length_eq_zero q3;rw [e1,e2,e3,e4,qge,if_neg hu]
theorem qvg (ab:qah P Q O=true)(hk:k<O.length)(L:List TermM)(hA:∀ a∈L,qby P O a)(af:(O.getD k default).ass=false→L.length=ar (O.getD k default)):
  ((∀ i,i<L.length→gKind (grM P Q O) (L.getD i default)=kAtS (O.getD k default).ass (shp (κU (qaq P Q)) (hd0 (O.getD k default).decls)) i)∧qsw (O.getD k default,k,shp (κU (qaq P Q)) (hd0 (O.getD k default).decls)) L (decide (Srt L))=true)↔qgf (κK P.length Q) O k L:=by
 obtain ⟨_,_,_,_,hx⟩:=qa8 ab;have h4:=hx _ (qhm hk);simp only [axOk,qdf,Bool.and_eq_true,Bool.or_eq_true,decide_eq_true_eq,Bool.not_eq_true'] at h4
 have ag:∀ i,i<L.length→atS (O.getD k default).ass i<(hd0 (O.getD k default).decls).1.length:=fun i hi=>by
  cases ha:(O.getD k default).ass with
  | false=>
   have h5:=af ha;show i<ar (O.getD k default);omega
  | true=>
   have h5:ar (O.getD k default)=2:=by
    rcases h4.1 with h5|h5
    ·rw [ha] at h5;exact absurd h5.1.1 (by simp)
    ·exact h5.1.1
   have h6:(hd0 (O.getD k default).decls).1.length=2:=h5;rw [h6];exact Nat.zero_lt_two
 have ac:∀ i,i<L.length→L.getD i default∈L:=fun i hi=>by rw [List.getD_eq_getElem?_getD,List.getElem?_eq_getElem hi];exact List.getElem_mem _
 have ad:∀ a∈L,∃ i,i<L.length∧L.getD i default=a:=fun a ha=>by
  obtain ⟨i,hi,e⟩:=List.getElem_of_mem ha;exact ⟨i,hi,by rw [List.getD_eq_getElem?_getD,List.getElem?_eq_getElem hi];exact e⟩
 have aa:∀ i,i<L.length→(gKind (grM P Q O) (L.getD i default)=kAtS (O.getD k default).ass (shp (κU (qaq P Q)) (hd0 (O.getD k default).decls)) i↔κK P.length Q (srtT O (L.getD i default))=κK P.length Q ((hd0 (O.getD k default).decls).1.getD (atS (O.getD k default).ass i) 0)):=fun i hi=>by
  have hR:=qcn (hA _ (ac i hi));rw [qlx ab hR,qvf ab hk (ag i hi)];exact qB6 ab (qr9 ab hR) ((qaj (qnp ab hk)).2.2 _ (ag i hi))
 have ae:qsw (O.getD k default,k,shp (κU (qaq P Q)) (hd0 (O.getD k default).decls)) L (decide (Srt L))=true↔(∀ a∈L,¬ ((O.getD k default).unt≠0∧a.op=(O.getD k default).unt-1))∧(∀ a∈L,¬ ((O.getD k default).ass=true∧a.op=(k:Int)))∧((O.getD k default).com=true→Srt L):=by
  simp only [qsw,isUB,isAB,Bool.and_eq_true,Bool.not_eq_true',List.any_eq_false,Bool.or_eq_true,decide_eq_true_eq];constructor
  ·rintro ⟨⟨q1,q2⟩,q3⟩
   refine ⟨q1,q2,fun hc=>?_⟩;rcases q3 with q3|q3
   ·rw [hc] at q3;cases q3
   ·exact q3
  ·rintro ⟨q1,q2,q3⟩
   refine ⟨⟨q1,q2⟩,?_⟩;cases hc:(O.getD k default).com with
   | false=>exact .inl rfl
   | true=>exact .inr (q3 hc)
 rw [ae,qp7];unfold qgf qpc;constructor
 ·rintro ⟨p1,p2,p3,p4⟩ i hi
  refine ⟨(aa i hi).1 (p1 i hi),p3 _ (ac i hi),fun hc=>p2 _ (ac i hi) ⟨hc.1,?_⟩,fun hc h0=>?_⟩
  ·have:=(qb0 _ _).1 hc.2
   rw [this,qge,if_neg hc.1];rfl
  ·have:=p4 hc (i-1) o_
   rw [show i-1+1=i by omega] at this;exact this
 ·intro h
  refine ⟨fun i hi=>(aa i hi).2 (h i hi).1,fun a ha hc=>?_,fun a ha hc=>?_,fun hc i hi=>?_⟩
  ·obtain ⟨i,hi,e⟩:=ad a ha
   refine (h i hi).2.2.1 ⟨hc.1,?_⟩;rw [e];exact (qb0 _ _).2 (qpd ab hk (hA a ha) hc.1 hc.2)
  ·obtain ⟨i,hi,e⟩:=ad a ha
   exact (h i hi).2.1 (by rw [e];exact hc)
  ·have:=(h (i+1) hi).2.2.2 hc o_
   rw [show i+1-1=i by omega] at this;exact this
theorem qyl (aa:qah P Q O=true)(t:TermM)(hA:∀ a∈t.args,qby P O a):(t.args.length≤7∧qc4 (grM P Q O) t)↔qyk P Q O t:=by
 have hU:(grM P Q O).U.length=P.length:=by rw [qgg aa];exact qlw aa
 have hE:(grM P Q O).E.length=O.length:=by rw [qgg aa];exact qg6 _ _
 unfold qc4 qyk qby;by_cases hv:t.op=-1
 ·rw [if_pos hv,if_pos hv]
  simp only [varB,Bool.and_eq_true,decide_eq_true_eq,hU];constructor
  ·rintro ⟨_,⟨q1,q2⟩,q3⟩
   exact ⟨⟨q1,q2,q3⟩,fun e=>absurd hv e⟩
  ·rintro ⟨⟨q1,q2,q3⟩,_⟩
   exact ⟨by omega,⟨q1,q2⟩,q3⟩
 ·rw [if_neg hv,if_neg hv]
  by_cases hr:0≤t.op∧t.op<O.length
  ·obtain ⟨k,hk⟩:∃ k:Nat,t.op=(k:Int):=⟨t.op.toNat,by omega⟩
   have ac:k<O.length:=o_;unfold CanP;rw [hE,hk,Int.toNat_natCast,qr8 aa ac];have h3:=(qaj (qnp aa ac)).1;have ad:qhk (O.getD k default,k,shp (κU (qaq P Q)) (hd0 (O.getD k default).decls)) t.args.length=true↔if (O.getD k default).ass=true then 2≤t.args.length else t.args.length=ar (O.getD k default):=by
    unfold qhk;split
    ·rw [decide_eq_true_iff]
    ·rw [decide_eq_true_iff];rfl
   rw [ad];have ab:=qvg aa ac t.args hA;simp only [qdm,decide_eq_true_eq];cases ha:(O.getD k default).ass with
   | true=>
    rw [ha] at ab;simp only [if_true];constructor
    ·rintro ⟨q0,⟨q1,q2⟩,⟨_,q3,q4⟩,q5⟩
     exact ⟨⟨by omega,q1,q2,q3,q0⟩,fun _=>(ab (fun e=>by cases e)).1 ⟨q4,q5⟩⟩
    ·rintro ⟨⟨_,q1,q2,q3,q0⟩,q4⟩
     have q5:=(ab (fun e=>by cases e)).2 (q4 o_);exact ⟨q0,⟨q1,q2⟩,⟨by omega,q3,q5.1⟩,q5.2⟩
   | false=>
    rw [ha] at ab;simp only [Bool.false_eq_true,if_false];have ae:ar (O.getD k default)≤3:=h3;constructor
    ·rintro ⟨q0,⟨q1,q2⟩,⟨_,q3,q4⟩,q5⟩
     exact ⟨⟨by omega,q1,q2,q3⟩,fun _=>(ab (fun _=>q3)).1 ⟨q4,q5⟩⟩
    ·rintro ⟨⟨_,q1,q2,q3⟩,q4⟩
     have q5:=(ab (fun _=>q3)).2 (q4 o_);exact ⟨by omega,⟨q1,q2⟩,⟨by omega,q3,q5.1⟩,q5.2⟩
  ·constructor
   ·rintro ⟨_,_,⟨q,_⟩,_⟩
    rw [hE] at q;exact absurd q hr
   ·rintro ⟨⟨q,_⟩,_⟩
    exact absurd q hr
theorem qvh (aa:qah P Q O=true):∀ t,(wide t∧allN (qc4 (grM P Q O)) t)↔qay P Q O t:=by
 refine TermM.ind (fun o n s l ih=>?_);unfold wide qay;rw [qh0,qh0,qh0];have hn:=fun hA=>qyl aa (.mk o n s l) hA
 constructor
 ·rintro ⟨⟨p1,p2⟩,p3,p4⟩
  have h1:∀ a∈l,qay P Q O a:=fun a ha=>(ih a ha).1 ⟨p2 a ha,p4 a ha⟩
  exact ⟨(hn (fun a ha=>((qar P Q O a).1 (h1 a ha)).1)).1 ⟨p1,p3⟩,h1⟩
 ·rintro ⟨p1,p2⟩
  have h1:=(hn (fun a ha=>((qar P Q O a).1 (p2 a ha)).1)).2 p1;exact ⟨⟨h1.1,fun a ha=>((ih a ha).2 (p2 a ha)).1⟩,h1.2,fun a ha=>((ih a ha).2 (p2 a ha)).2⟩
theorem qbi (t:TermM):qca (grM P Q O) t↔qah P Q O=true∧(size t≤60∧depth t≤20)∧qay P Q O t:=by
 by_cases aa:qah P Q O=true
 ·rw [← qvh aa t,qca,LimT]
  exact ⟨fun h=>⟨aa,⟨h.1.1,h.1.2.1⟩,h.1.2.2,h.2⟩,fun h=>⟨⟨h.2.1.1,h.2.1.2,h.2.2.1⟩,h.2.2.2⟩⟩
 ·constructor
  ·rintro ⟨_,h⟩
   have h1:=((qbq _ t).1 h).1;have hg:grM P Q O=⟨[],[]⟩:=by unfold grM;rw [if_neg aa]
   rw [hg,qc4] at h1;split at h1
   ·simp only [varB,Bool.and_eq_true,decide_eq_true_eq,List.length_nil] at h1
    omega
   ·have:=h1.2.1.1
    simp only [List.length_nil] at this;omega
  ·intro h
   exact absurd h.1 aa
end
end formm

namespace termcf
open mem dec rowl trm trmv terml termb termt termx termz termro termvr
noncomputable def dedN (L:List TermM):Nat→List TermM
 | 0=>[]
 | i+1=>if i=0∨cmp (L.getD i default) (L.getD (i-1) default)≠0 then dedN L i++[L.getD i default] else dedN L i
theorem qi4 (L:List TermM):∀ k,k≤L.length→(∀ j,1≤j→j<k→cmp (L.getD j default) (L.getD (j-1) default)≠0)→dedN L k=L.take k
 | 0,_,_=>by simp [dedN]
 | k+1,hk,h=>by
  have ih:=qi4 L k o_ (fun j h1 h2=>h j h1 o_);have hc:k=0∨cmp (L.getD k default) (L.getD (k-1) default)≠0:=by
   rcases Nat.eq_zero_or_pos k with h0|h0
   ·exact .inl h0
   ·exact .inr (h k h0 o_)
  rw [dedN,if_pos hc,ih,List.take_succ_eq_append_getElem o_,qai o_]
theorem qrg (L:List TermM):∀ i,i≤L.length→∀ x,x∈dedN L i↔∃ j,j<i∧x=L.getD j default
 | 0,_,x=>by simp [dedN]
 | i+1,hi,x=>by
  have ih:=qrg L i o_ x;rw [dedN];split
  ·rw [List.mem_append,ih,List.mem_singleton]
   constructor
   ·rintro (⟨j,hj,e⟩|e)
    ·exact ⟨j,by omega,e⟩
    ·exact ⟨i,by omega,e⟩
   ·rintro ⟨j,hj,e⟩
    by_cases aa:j=i
    ·subst aa;exact .inr e
    ·exact .inl ⟨j,by omega,e⟩
  ·rename_i hc
   have h0:cmp (L.getD i default) (L.getD (i-1) default)=0:=by
    by_cases h:cmp (L.getD i default) (L.getD (i-1) default)=0
    ·exact h
    ·exact absurd (.inr h) hc
   have ab:i≠0:=fun e=>hc (.inl e)
   have he:=(qb0 _ _).1 h0;rw [ih];constructor
   ·rintro ⟨j,hj,e⟩;exact ⟨j,by omega,e⟩
   ·rintro ⟨j,hj,e⟩
    by_cases aa:j=i
    ·subst aa;exact ⟨j-1,by omega,by rw [e,he]⟩
    ·exact ⟨j,by omega,e⟩
theorem qrh (L:List TermM)(hs:Srt L):∀ i,i≤L.length→Asc (dedN L i)∧∀ x∈dedN L i,cmp x (L.getD (i-1) default)≤0
 | 0,_=>by simp [dedN,Asc]
 | i+1,hi=>by
  obtain ⟨h1,h2⟩:=qrh L hs i o_
  have ab:i≠0→cmp (L.getD (i-1) default) (L.getD i default)≤0:=fun h0=>by
   rw [qai (show i-1<L.length by omega),qai (show i<L.length by omega)];exact List.pairwise_iff_getElem.1 hs (i-1) i o_ o_ o_
  rw [Nat.add_sub_cancel,dedN];split
  ·rename_i hc
   have ac:∀ x∈dedN L i,cmp x (L.getD i default)<0:=fun x hx=>by
    have aa:i≠0:=fun e=>by subst e;simp [dedN] at hx
    have ad:=hc.resolve_left aa;have ae:=qb6 (L.getD (i-1) default) (L.getD i default);have h3:=ab aa;have h4:=h2 x hx;have h5:=qct _ _ _ h4 h3
    have:cmp x (L.getD i default)≠0:=fun e=>by
     have e':=(qb0 _ _).1 e;subst e';omega
    omega
   refine ⟨List.pairwise_append.2 ⟨h1,List.pairwise_singleton _ _,fun a ha b hb=>?_⟩,fun x hx=>?_⟩
   ·rw [List.mem_singleton] at hb;subst hb;exact ac a ha
   ·rcases List.mem_append.1 hx with hx|hx
    ·have:=ac x hx;omega
    ·rw [List.mem_singleton] at hx;subst hx;rw [qhv];omega
  ·rename_i hc
   have aa:i≠0:=fun e=>hc (.inl e)
   exact ⟨h1,fun x hx=>qct _ _ _ (h2 x hx) (ab aa)⟩
theorem qkj (L:List TermM)(k:Nat):(flatV L).take (k*4)=flatV (L.take k):=by
 induction L generalizing k with
 | nil=>simp [flatV]
 | cons a l ih=>
  cases k with
  | zero=>simp [flatV]
  | succ k=>rw [List.take_succ_cons,flatV,flatV,show (k+1)*4=k*4+4 by omega];simp [List.take_succ_cons,ih]
structure Comp (L:List TermM) (i kk:Nat) (ys:List Value):Prop where
 len:ys.length=L.length*4
 low:ys.take (kk*4)=flatV (dedN L i)
 num:kk=(dedN L i).length
 lt:kk<i
 high:∀ p,(i-1)*4≤p→ys[p]? =(flatV L)[p]?
theorem Comp.at{L:List TermM}(h:Comp L i kk ys)(hj:j<L.length)(hi:i-1≤j):qc6 ys j (L.getD j default) (.slice none 0 0):=by
 obtain ⟨a,b,c,d⟩:=qd8 hj;exact ⟨(h.high _ o_).trans a,(h.high _ o_).trans b,(h.high _ o_).trans c,(h.high _ o_).trans d⟩
theorem Comp.skip{L:List TermM}(h:Comp L i kk ys)(h0:0<i)(he:cmp (L.getD i default) (L.getD (i-1) default)=0):Comp L (i+1) kk ys:=by
 have hd:dedN L (i+1)=dedN L i:=by rw [dedN,if_neg (by rintro (h|h);omega;exact h he)]
 exact ⟨h.len,by rw [hd];exact h.low,by rw [hd];exact h.num,by have:=h.lt;omega,fun p hp=>h.high p o_⟩
theorem Comp.keep{L:List TermM}(h:Comp L i kk ys)(hi:i<L.length)(he:cmp (L.getD i default) (L.getD (i-1) default)≠0):
  Comp L (i+1) (kk+1) ((((ys.set (kk*4) (.int .i64 (L.getD i default).op)).set (kk*4+1) (.string (bstr (L.getD i default).name))).set (kk*4+2) (.int .i64 (L.getD i default).sort)).set (kk*4+3) (.slice none 0 0)):=by
 have ab:=h.lt;have hlen:=h.len;have hd:dedN L (i+1)=dedN L i++[L.getD i default]:=by rw [dedN,if_pos (.inr he)]
 refine ⟨by simp [hlen],?_,by rw [hd,List.length_append,← h.num];rfl,by omega,fun p hp=>?_⟩
 ·rw [hd,qbo,← h.low]
  apply List.ext_getElem?
  intro p;have aa:(ys.take (kk*4)).length=kk*4:=by rw [List.length_take];omega
  by_cases hp:p<kk*4
  ·rw [List.getElem?_take_of_lt o_,List.getElem?_append_left o_,List.getElem?_take_of_lt hp]
   rw [List.getElem?_set_ne o_,List.getElem?_set_ne o_,List.getElem?_set_ne o_,List.getElem?_set_ne o_]
  ·rw [List.getElem?_append_right o_,aa]
   by_cases ac:p<kk*4+4
   ·rw [List.getElem?_take_of_lt o_]
    obtain ⟨q,rfl⟩:∃ q,p=kk*4+q:=⟨p-kk*4,by omega⟩;rw [Nat.add_sub_cancel_left];match q,(show q<4 by omega) with
    | 0,_=>rw [List.getElem?_set_ne o_,List.getElem?_set_ne o_,List.getElem?_set_ne o_,Nat.add_zero,List.getElem?_set_self o_];rfl
    | 1,_=>rw [List.getElem?_set_ne o_,List.getElem?_set_ne o_,List.getElem?_set_self (by simp;omega)];rfl
    | 2,_=>rw [List.getElem?_set_ne o_,List.getElem?_set_self (by simp;omega)];rfl
    | 3,_=>rw [List.getElem?_set_self (by simp;omega)];rfl
   ·rw [List.getElem?_take_eq_none o_]
    symm
    exact List.getElem?_eq_none (by show _≤_;simp only [flatV,List.length_cons,List.length_nil];omega)
 ·rw [List.getElem?_set_ne o_,List.getElem?_set_ne o_,List.getElem?_set_ne o_,List.getElem?_set_ne o_]
  exact h.high p o_
theorem Comp.start{L:List TermM}(h:∀ j,1≤j→j<k→cmp (L.getD j default) (L.getD (j-1) default)≠0)(hk:0<k)(aa:k<L.length)(he:cmp (L.getD k default) (L.getD (k-1) default)=0):Comp L (k+1) k (flatV L):=by
 have hd:dedN L (k+1)=L.take k:=by rw [dedN,if_neg (by rintro (h|h);omega;exact h he)];exact qi4 L k o_ h
 exact ⟨qbn L,by rw [hd,qkj],by rw [hd,List.length_take];omega,by omega,fun p _=>rfl⟩
theorem qt6{P:Program}(w:World)(t e:TypeId)(z:Value)(ht:P.underlying t=some (.slice e))(hv:∀ w,(zeroValue e).run P w=.ok z w)(hz:z.cells.size=4)(h1:∀ v∈z.cells.toList,v.oneCell'=true)(b o n c:Nat)(hc:∀ j,j<n*4→(w.cell? ⟨b,o+j,none⟩).isSome=true)(hf:∀ j,j<n*4→w.frozen? ⟨b,o+j,none⟩=false):
  ∃ vs:List Value,∀ ty,(Builtin.clear_ #[t] ty #[.slice (some ⟨b,o,none⟩) n c]).run P w=.ok (.tuple #[]) (w.setCells b o vs):=by
 have hlen:(Builtin.zeroCells z.cells n).toList.length=n*4:=by simp [Builtin.zeroCells,hz]
 have aa:=run_storeCells_cells (P:=P) b o (Builtin.zeroCells z.cells n).toList 0 w (by rw [hlen];simpa using hc) (by rw [hlen];simpa using hf) (by
  intro v ab;simp only [Builtin.zeroCells,Array.toList_map,List.mem_map,Array.toList_range,List.mem_range] at ab;obtain ⟨i,_,rfl⟩:=ab;refine h1 _ ?_;rw [getElem!_pos _ _ (by rw [hz];exact Nat.mod_lt _ o_)]
  simp)
 simp only [Nat.add_zero] at aa;cases n with
 | zero=>exact ⟨[],fun ty=>by simp [Builtin.clear_,run_underlying ht,World.setCells]⟩
 | succ m=>exact ⟨(Builtin.zeroCells z.cells (m+1)).toList,fun ty=>by simp [Builtin.clear_,run_underlying ht,hv,aa]⟩
theorem qho {base n g cap size:Nat}{e:TypeId}{xs:List Value}:∀ (vs:List Value) (o:Nat) (w:World),w.ownsRow base e size (.slice (some ⟨g,0,none⟩) n cap) n xs→n*size≤o→(w.setCells g o vs).ownsRow base e size (.slice (some ⟨g,0,none⟩) n cap) n xs
 | [],_,_,h,_=>h
 | v::vs,o,w,h,ho=>by
  have h':=qa4 h o v;rw [List.set_eq_of_length_le (by have:=h.1;omega)] at h';exact qho vs (o+1) _ h' o_
theorem qhp (g:Nat):∀ (vs:List Value) (o:Nat) (w:World),Chg [g] w (w.setCells g o vs)
 | [],_,w=>Chg.refl _ w
 | v::vs,o,w=>(Chg.set (by simp) v).trans (qhp g vs (o+1) _)
def qri (L:List TermM)(n g cap base:Nat)(w:World)(e:Ending)(w':World):Prop:=∃ m,m=(dedN L n).length∧e=.returned (.slice (some ⟨g,0,none⟩) m cap)∧
 w'.ownsRow base 38 4 (.slice (some ⟨g,0,none⟩) m cap) m (flatV (dedN L n))∧Chg [g] w w'
abbrev S8 (g p q:Nat)(t u:TermM)(w':World):Prop:=(w'.cell? ⟨g,p,none⟩=some (.int .i64 t.op)∧w'.cell? ⟨g,p+1,none⟩=some (.string (bstr t.name))∧w'.cell? ⟨g,p+2,none⟩=some (.int .i64 t.sort)∧w'.cell? ⟨g,p+3,none⟩=some (.slice none 0 0))∧
 w'.cell? ⟨g,q,none⟩=some (.int .i64 u.op)∧w'.cell? ⟨g,q+1,none⟩=some (.string (bstr u.name))∧w'.cell? ⟨g,q+2,none⟩=some (.int .i64 u.sort)∧w'.cell? ⟨g,q+3,none⟩=some (.slice none 0 0)
theorem S8.below{p q:Nat}{t u:TermM}{w':World}(h:S8 g p q t u w)(hg:g<w.heap.size)(hb:Below w.heap.size w w'):S8 g p q t u w':=by
 have k:∀ y,w'.cell? ⟨g,y,none⟩=w.cell? ⟨g,y,none⟩:=fun y=>hb.cell (p:=⟨g,y,none⟩) hg
 unfold S8;rw [k,k,k,k,k,k,k,k];exact h
theorem qgi{base cap:Nat}{e:TypeId}{xs:List Value}(h:w.ownsRow base e 4 (.slice (some ⟨g,0,none⟩) n cap) n xs){t:TermM}{v:Value}(hj:j<n)(hc:qc6 xs j t v):
  w.cell? ⟨g,j*4,none⟩=some (.int .i64 t.op)∧w.cell? ⟨g,j*4+1,none⟩=some (.string (bstr t.name))∧w.cell? ⟨g,j*4+2,none⟩=some (.int .i64 t.sort)∧w.cell? ⟨g,j*4+3,none⟩=some v:=by
 obtain ⟨a,b,c,d⟩:=hc;exact ⟨(h.cellAt _ o_).trans a,(h.cellAt _ o_).trans b,(h.cellAt _ o_).trans c,(h.cellAt _ o_).trans d⟩
set_option maxRecDepth 50000 in
set_option maxHeartbeats 8000000 in
theorem qpi (L:List TermM)(n g cap base:Nat)(w:World)(hn:n=L.length)(aA:n≤1073741824)(hL:∀ t∈L,t.args=[])(ho:w.ownsRow base 38 4 (.slice (some ⟨g,0,none⟩) n cap) n (flatV L)):
  Calls Tryz.prog 116 #[.slice (some ⟨g,0,none⟩) n cap,.func (.func 110) #[] #[]] w (qri L n g cap base w):=by
 obtain ⟨aJ,aK,hnc⟩:=qc8 ho;have HE:=z_ (fun t u (ht:t.args=[]) (hu:u.args=[]) W r (hr:decide (cmp t u=0)=r)=>qec (n:=1) (lo:=0) (lo':=0) t u (.slice none 0 0) (.slice none 0 0) W (by rw [ht];exact HasR.nil _ _ _ Aa_ _) (by rw [hu];exact HasR.nil _ _ _ Aa_ _) (by rw [ht];simp [qa2]) r hr);have HA:Hid (∀ j,j<n→(L.getD j default).args=[]):=z_ (fun j hj=>by rw [qai o_];exact hL _ (List.getElem_mem _));have HN:=z_ hn;have HO:=z_ ho;clear hn hL ho;by_cases h2:n<2
 ·have HD:Hid (dedN L n=L):=z_ (by
   have:=HN.out
   rw [qi4 L n o_ (fun j h1 h2=>by omega),List.take_of_length_le o_])
  go_enter Tryz.func116,Tryz.ntmps116
  go_wp2;go_ret;exact ⟨n,by rw [HD.out];exact HN.out,rfl,by rw [HD.out];exact HO.out,Chg.refl _ _⟩
 go_enter Tryz.func116,Tryz.ntmps116
 go_wp2;go_loopw [5] (fun v5 wr=>∃ k:Nat,v5=.int .i64 k∧1≤k∧k≤n∧Hid (∀ j,1≤j→j<k→cmp (L.getD j default) (L.getD (j-1) default)≠0)∧Hid (Below w.heap.size w wr)) (fun i _=>n-(intOf i).toNat)
 case atStart=>exact ⟨1,rfl,Nat.le_refl _,by omega,z_ (fun j h1 h2=>by omega),z_ b_⟩
 case round=>
  obtain ⟨k,rfl,aL,aB,HD,HB⟩:=hrel;have ag:=z_ (own_below HO.out HB.out);have hsz:=HB.out.size;have av:g<wr.heap.size:=o_;by_cases aw:k<n
  ·obtain ⟨k1,rfl⟩:∃ k1,k=k1+1:=⟨k-1,by omega⟩
   have ap:=HN.out;obtain ⟨c0,c1,c2,c3⟩:=qgi ag.out aw (qd8 o_);obtain ⟨d0,d1,d2,d3⟩:=qgi ag.out (show k1<n by omega) (qd8 o_);obtain ⟨t,ht⟩:=e_ (L.getD (k1+1) default);obtain ⟨u,hu⟩:=e_ (L.getD k1 default);rw [← ht] at c0 c1 c2;rw [← hu] at d0 d1 d2;have ad:Hid (t=L.getD (k1+1) default∧u=L.getD k1 default):=z_ ⟨ht,hu⟩;have ah:t.args=[]:=by rw [ht];exact HA.out _ aw
   have ai:u.args=[]:=by rw [hu];exact HA.out _ o_
   clear ap ht hu;have HC:=z_ (fun W r hr=>HE.out t u ah ai W r hr);unfold aggT at HC;clear ah ai;have i1:(0:Int)≤(k1:Int)+1:=o_;have i2:(k1:Int)+1<(n:Int):=o_;have i3:(0:Int)≤(k1:Int):=o_;have i4:(k1:Int)<(n:Int):=o_;have i5:IntKind.i64.wrap ((k1:Int)+1-1)=(k1:Int):=by rw [IntWalk.i64_in _ o_];omega
   have i6:IntKind.i64.wrap (k1:Int)=(k1:Int):=IntWalk.i64_in _ o_;by_cases heq:cmp t u=0
   ·have HF:=z_ (decide_eq_true heq)
    have ax:Hid (Comp L (k1+1+1) (k1+1) (flatV L)):=z_ (Comp.start HD.out o_ Ac_ (by rw [← ad.out.1,show k1+1-1=k1 from rfl,← ad.out.2];exact heq));clear heq;go_wp2_with fail
    go_region_held3 (fun w'=>(w'.cell? ⟨g,(k1+1)*4,none⟩=some (.int .i64 t.op)∧w'.cell? ⟨g,(k1+1)*4+1,none⟩=some (.string (bstr t.name))∧w'.cell? ⟨g,(k1+1)*4+2,none⟩=some (.int .i64 t.sort)∧w'.cell? ⟨g,(k1+1)*4+3,none⟩=some (.slice none 0 0))∧
      w'.cell? ⟨g,k1*4,none⟩=some (.int .i64 u.op)∧w'.cell? ⟨g,k1*4+1,none⟩=some (.string (bstr u.name))∧w'.cell? ⟨g,k1*4+2,none⟩=some (.int .i64 u.sort)∧w'.cell? ⟨g,k1*4+3,none⟩=some (.slice none 0 0))
     (first|(with_reducible assumption)|((refine S8.below (w:=wr.drew) ?_ av aa.below);with_reducible assumption)|(refine ⟨⟨?_,?_,?_,?_⟩,?_,?_,?_,?_⟩<;>assumption))
     ((go_at_call 110;refine (HC.out _ _ HF.out).mono ?_;rintro e w1 ⟨rfl,aa⟩))
    have ab:=b_.drew.trans (aa.below.mono n_);have am:=z_ (HB.out.trans (ab.mono hsz));have ay:=z_ (own_below ag.out ab);clear aa ab c0 c1 c2 c3 d0 d1 d2 d3 ag HB;have aC:k1+1<cap:=o_;have aD:¬ k1+1=cap:=o_;have i7:((k1:Int)+1).toNat=k1+1:=o_;have i8:((n:Int)-((k1:Int)+1)).toNat=n-(k1+1):=o_;go_wp2;clear HF ad HC HD i2 i4 i5 i6;obtain ⟨wo,aE⟩:∃ wo,wo=wr:=⟨wr,rfl⟩;subst aE;go_loopw [5,7] (fun v5 v7 wr=>∃ (kk k2:Nat) (ys:List Value),v5=.int .i64 kk∧v7=.int .i64 k2∧1≤k2∧k1+1+k2≤n∧kk≤k1+k2∧Hid (Comp L (k1+1+k2) kk ys)∧Hid (wr.ownsRow base 38 4 (.slice (some ⟨g,0,none⟩) n cap) n ys)∧Hid (Chg [g] w wr)) (fun _ i _=>n-(intOf i).toNat)
    case atStart=>exact ⟨k1+1,1,flatV L,by go_num,rfl,Nat.le_refl _,by omega,by omega,ax,ay,z_ (Chg.of_below am.out)⟩
    case round=>
     clear ay ax am;obtain ⟨kk,k2,ys,rfl,rfl,aF,aG,aM,HI,ae,HG⟩:=hrel;by_cases aj:k1+1+k2<n
     ·obtain ⟨k3,rfl⟩:∃ k3,k2=k3+1:=⟨k2-1,by omega⟩
      have ap:=HN.out;obtain ⟨c0,c1,c2,c3⟩:=qgi ae.out aj (HI.out.at o_ o_);obtain ⟨d0,d1,d2,d3⟩:=qgi ae.out (show k1+1+k3<n by omega) (HI.out.at o_ o_);have ak:=(qc8 ae.out).2.1;rw [show (k1+1+(k3+1))*4=(k1+1)*4+(k3+1)*4 by omega] at c0 c1 c2 c3;rw [show (k1+1+k3)*4=(k1+1)*4+k3*4 by omega] at d0 d1 d2 d3;obtain ⟨t2,ht⟩:=e_ (L.getD (k1+1+(k3+1)) default);obtain ⟨u2,hu⟩:=e_ (L.getD (k1+1+k3) default);rw [← ht] at c0 c1 c2;rw [← hu] at d0 d1 d2;have ad:Hid (t2=L.getD (k1+1+(k3+1)) default∧u2=L.getD (k1+1+(k3+1)-1) default):=z_ ⟨ht,hu⟩;have ah:t2.args=[]:=by rw [ht];exact HA.out _ aj
      have ai:u2.args=[]:=by rw [hu];exact HA.out _ o_
      clear ap ht hu;have an:=z_ (fun W r hr=>HE.out t2 u2 ah ai W r hr);unfold aggT at an;clear ah ai;have j1:(0:Int)≤(k3:Int)+1:=o_;have j2:(k3:Int)+1<(n:Int)-((k1:Int)+1):=o_;have aN:(k3:Int)+1<((n-(k1+1):Nat):Int):=o_;have j3:(0:Int)≤(k3:Int):=o_;have j4:(k3:Int)<((n-(k1+1):Nat):Int):=o_;have j5:IntKind.i64.wrap ((k3:Int)+1-1)=(k3:Int):=by rw [IntWalk.i64_in _ o_];omega
      have j6:IntKind.i64.wrap (k3:Int)=(k3:Int):=IntWalk.i64_in _ o_;by_cases ac:cmp t2 u2=0
      ·have ao:=z_ (decide_eq_true ac)
       have aq:Hid (Comp L (k1+1+(k3+1)+1) kk ys):=z_ (HI.out.skip o_ (by rw [← ad.out.1,← ad.out.2];exact ac));clear ac;go_wp2_with fail
       go_region_held3 (fun w'=>(w'.cell? ⟨g,(k1+1)*4+(k3+1)*4,none⟩=some (.int .i64 t2.op)∧w'.cell? ⟨g,(k1+1)*4+(k3+1)*4+1,none⟩=some (.string (bstr t2.name))∧w'.cell? ⟨g,(k1+1)*4+(k3+1)*4+2,none⟩=some (.int .i64 t2.sort)∧w'.cell? ⟨g,(k1+1)*4+(k3+1)*4+3,none⟩=some (.slice none 0 0))∧
         w'.cell? ⟨g,(k1+1)*4+k3*4,none⟩=some (.int .i64 u2.op)∧w'.cell? ⟨g,(k1+1)*4+k3*4+1,none⟩=some (.string (bstr u2.name))∧w'.cell? ⟨g,(k1+1)*4+k3*4+2,none⟩=some (.int .i64 u2.sort)∧w'.cell? ⟨g,(k1+1)*4+k3*4+3,none⟩=some (.slice none 0 0))
        (first|(with_reducible assumption)|((refine S8.below (w:=wr.drew) ?_ ak aa.below);with_reducible assumption)|(refine ⟨⟨?_,?_,?_,?_⟩,?_,?_,?_,?_⟩<;>assumption))
        ((go_at_call 110;refine (an.out _ _ ao.out).mono ?_;rintro e w2 ⟨rfl,aa⟩))
       have ab:=b_.drew.trans (aa.below.mono n_);have au:=z_ (HG.out.trans (Chg.of_below ab));have af:=z_ (own_below ae.out ab);clear aa ab c0 c1 c2 c3 d0 d1 d2 d3;go_wp2;go_roundw
       case measure=>simp [intOf];omega
       case rel=>exact ⟨kk,k3+1+1,ys,rfl,by go_num,by omega,by omega,by omega,aq,af,au⟩
      ·have ao:=z_ (decide_eq_false ac)
       have aq:Hid (Comp L (k1+1+(k3+1)+1) (kk+1) ((((ys.set (kk*4) (.int .i64 t2.op)).set (kk*4+1) (.string (bstr t2.name))).set (kk*4+2) (.int .i64 t2.sort)).set (kk*4+3) (.slice none 0 0))):=z_ (by
        have:=HI.out.keep Ac_ (by rw [← ad.out.1,← ad.out.2];exact ac);rw [← ad.out.1] at this
        exact this)
       clear ac;go_wp2_with fail
       go_region_held3 (fun w'=>(w'.cell? ⟨g,(k1+1)*4+(k3+1)*4,none⟩=some (.int .i64 t2.op)∧w'.cell? ⟨g,(k1+1)*4+(k3+1)*4+1,none⟩=some (.string (bstr t2.name))∧w'.cell? ⟨g,(k1+1)*4+(k3+1)*4+2,none⟩=some (.int .i64 t2.sort)∧w'.cell? ⟨g,(k1+1)*4+(k3+1)*4+3,none⟩=some (.slice none 0 0))∧
         w'.cell? ⟨g,(k1+1)*4+k3*4,none⟩=some (.int .i64 u2.op)∧w'.cell? ⟨g,(k1+1)*4+k3*4+1,none⟩=some (.string (bstr u2.name))∧w'.cell? ⟨g,(k1+1)*4+k3*4+2,none⟩=some (.int .i64 u2.sort)∧w'.cell? ⟨g,(k1+1)*4+k3*4+3,none⟩=some (.slice none 0 0))
        (first|(with_reducible assumption)|((refine S8.below (w:=wr.drew) ?_ ak aa.below);with_reducible assumption)|(refine ⟨⟨?_,?_,?_,?_⟩,?_,?_,?_,?_⟩<;>assumption))
        ((go_at_call 110;refine (an.out _ _ ao.out).mono ?_;rintro e w2 ⟨rfl,aa⟩))
       have ab:=b_.drew.trans (aa.below.mono n_);have au:=z_ (HG.out.trans (Chg.of_below ab));have af:=z_ (own_below ae.out ab);have aH:Hid (S8 g ((k1+1)*4+(k3+1)*4) ((k1+1)*4+k3*4) t2 u2 w2):=z_ Ad_;clear aa ab c0 c1 c2 c3 d0 d1 d2 d3 an ao;obtain ⟨c0,c1,c2,c3⟩:=aH.out.1;obtain ⟨⟨x0,e0⟩,f0⟩:=qaa af.out (i:=kk*4) o_;obtain ⟨⟨x1,e1⟩,f1⟩:=qaa af.out (i:=kk*4+1) o_;obtain ⟨⟨x2,e2⟩,f2⟩:=qaa af.out (i:=kk*4+2) o_;obtain ⟨⟨x3,e3⟩,f3⟩:=qaa af.out (i:=kk*4+3) o_;have q1:(0:Int)≤(kk:Int):=o_;have q2:(kk:Int)<(n:Int):=o_;go_wp2;go_roundw
       case measure=>simp [intOf];omega
       case rel=>exact ⟨kk+1,k3+1+1,_,by go_num,by go_num,by omega,by omega,by omega,aq,z_ (qa4 (qa4 (qa4 (qa4 af.out _ _) _ _) _ _) _ _),z_ ((((au.out.trans (Chg.set (by simp) _)).trans (Chg.set (by simp) _)).trans (Chg.set (by simp) _)).trans (Chg.set (by simp) _))⟩
     ·have al:k1+1+k2=n:=o_
      have aB:kk<n:=by have:=HI.out.lt;omega
      obtain ⟨vs,aO⟩:=qt6 (P:=Tryz.prog) wr 36 38 (.agg #[.int .i64 0,.string { data:=#[] },.int .i64 0,.slice none 0 0]) Tryz.underlying36 Tryz.zeroValue38 (by simp [Value.cells]) (by simp [Value.cells];exact ⟨rfl,rfl,rfl,rfl⟩) g (kk*4) (n-kk) (cap-kk)
       (fun j hj=>by
        obtain ⟨⟨v,hv⟩,_⟩:=qaa ae.out (i:=kk*4+j) o_
        rw [hv];rfl) (fun j hj=>(qaa ae.out (i:=kk*4+j) o_).2)
      have HR:Hid (qri L n g cap base w (.returned (.slice (some ⟨g,0,none⟩) kk cap)) (wr.setCells g (kk*4) vs)):=z_ (by
       have hI:=HI.out;rw [al] at hI;have ho:=qdu ae.out (m:=kk) o_;rw [hI.low] at ho
       exact ⟨kk,hI.num,rfl,qho vs _ _ ho n_,HG.out.trans (qhp g vs _ _)⟩)
      have q1:(0:Int)≤(kk:Int):=o_;have q2:(kk:Int)≤(n:Int):=o_;have q3:(kk:Int)≤(cap:Int):=o_;have q4:¬ kk=cap:=o_;clear al ae HI HG;go_wp2;go_ret;exact HR.out
   ·have HF:=z_ (decide_eq_false heq)
    have aI:Hid (cmp (L.getD (k1+1) default) (L.getD (k1+1-1) default)≠0):=z_ (by rw [← ad.out.1,show k1+1-1=k1 from rfl,← ad.out.2];exact heq);clear heq;go_wp2_with fail
    go_region_held3 (fun w'=>(w'.cell? ⟨g,(k1+1)*4,none⟩=some (.int .i64 t.op)∧w'.cell? ⟨g,(k1+1)*4+1,none⟩=some (.string (bstr t.name))∧w'.cell? ⟨g,(k1+1)*4+2,none⟩=some (.int .i64 t.sort)∧w'.cell? ⟨g,(k1+1)*4+3,none⟩=some (.slice none 0 0))∧
      w'.cell? ⟨g,k1*4,none⟩=some (.int .i64 u.op)∧w'.cell? ⟨g,k1*4+1,none⟩=some (.string (bstr u.name))∧w'.cell? ⟨g,k1*4+2,none⟩=some (.int .i64 u.sort)∧w'.cell? ⟨g,k1*4+3,none⟩=some (.slice none 0 0))
     (first|(with_reducible assumption)|((refine S8.below (w:=wr.drew) ?_ av aa.below);with_reducible assumption)|(refine ⟨⟨?_,?_,?_,?_⟩,?_,?_,?_,?_⟩<;>assumption))
     ((go_at_call 110;refine (HC.out _ _ HF.out).mono ?_;rintro e w1 ⟨rfl,aa⟩))
    have ab:=b_.drew.trans (aa.below.mono n_);have am:=z_ (HB.out.trans (ab.mono hsz));clear aa ab;go_wp2;go_roundw
    case measure=>simp [intOf];omega
    case rel=>
     refine ⟨k1+1+1,by go_num,by omega,by omega,z_ (fun j h1 h2=>?_),am⟩;by_cases e:j=k1+1
     ·subst e;exact aI.out
     ·exact HD.out j h1 o_
  ·have az:Hid (dedN L n=L):=z_ (by
    have:=HN.out;obtain rfl:k=n:=o_
    rw [qi4 L k o_ HD.out,List.take_of_length_le o_])
   go_wp2;go_ret;exact ⟨n,by rw [az.out];exact HN.out,rfl,by rw [az.out];exact ag.out,Chg.of_below HB.out⟩
end termcf

namespace formt
open mem dec sortp sorti sigm sigs sigb rowl trm terml termb termt termx gram gramn grami formlf formf
def qd3 (P:List (List UInt8))(Q:List (Int×Int))(O:List OpM)(t:TermM):Prop:=qah P Q O=true∧(size t≤60∧depth t≤20)∧qay P Q O t
set_option maxRecDepth 50000 in
set_option maxHeartbeats 8000000 in
theorem qe2 (P:List (List UInt8))(Q:List (Int×Int))(O:List OpM)(va vb vc:Value)(t:TermM)(ve:Value)(w:World)(h:HasG w va vb vc P Q O)(ht:HasTs N lo w ve t.args)(hB:Bnd t)(hsz:qa2 t.args≤1048576)(r:Bool)(hr:r=true↔qd3 P Q O t):
  Calls Tryz.prog 37 #[.agg #[va,vb,vc],aggT t ve] w fun e w'=>e=.returned (.bool r)∧Below w.heap.size w w':=by
 obtain ⟨sb,aa⟩:∃ b,qah P Q O=b:=⟨_,rfl⟩;obtain ⟨fb,aj⟩:=x_ (qay P Q O t);have au:=z_ (fun W (hW:Below w.heap.size w W)=>qkw P Q O va vb vc sb aa W (h.below n_ hW));have ak:=z_ (fun W (hW:Below w.heap.size w W)=>qnl t ve W (ht.below n_ hW) hsz);have al:Hid (sb=true→∀ W,Below w.heap.size w W→Calls Tryz.prog 84 #[.agg #[va,vb,vc],aggT t ve] W fun e w'=>e=.returned (.bool fb)∧Below W.heap.size W w'):=z_ (fun hs W hW=>qr7 P Q O (aa.trans hs) N va vb vc t ve W lo (h.below n_ hW) (ht.below n_ hW) hB hsz fb aj);obtain ⟨B,cb,rfl,_⟩:=HasR.shape ht rfl;obtain ⟨A1,c1,A2,c2,A3,c3,rfl,rfl,rfl,_⟩:=h.shape;have HR:Hid (r=true↔sb=true∧(size t≤60∧depth t≤20)∧fb=true):=z_ (by rw [hr,qd3,aa,aj]);unfold aggT at ak al ⊢;obtain ⟨q,hq⟩:=e_ (t.args.length);obtain ⟨tq,ab⟩:=e_ (t.op);obtain ⟨tn,ac⟩:=e_ (t.name);obtain ⟨ts,ad⟩:=e_ (t.sort);obtain ⟨m1,ae⟩:=e_ (P.length);obtain ⟨m2,af⟩:=e_ (Q.length);obtain ⟨m3,ag⟩:=e_ (O.length);obtain ⟨sm,am⟩:∃ p:Prop,p=(size t≤60∧depth t≤20):=⟨_,rfl⟩;rw [← hq,← ab,← ac,← ad,← ae,← af,← ag];rw [← hq,← ab,← ac,← ad,← am] at ak;rw [← hq,← ab,← ac,← ad,← ae,← af,← ag] at al;rw [← ae,← af,← ag] at au;rw [← am] at HR;clear h ht hB hsz hr aa aj hq ab ac ad ae af ag am;obtain ⟨W,hW⟩:=e_ ((w.alloc (.cells #[.slice A1 m1 c1,.slice A2 m2 c2,.slice A3 m3 c3] 46)).alloc (.cells #[.int .i64 tq,.string (bstr tn),.int .i64 ts,.slice B q cb] 38));have av:Below w.heap.size w W:=by
  rw [hW];exact v_
 have aw:Box34 w.heap.size (w.heap.size+1) (.slice A1 m1 c1) (.slice A2 m2 c2) (.slice A3 m3 c3) (.int .i64 tq) (.string (bstr tn)) (.int .i64 ts) (.slice B q cb) W:=by
  rw [hW];exact ⟨box3 (qbd _ _ _),box4 (qa5 _ _ _ (by simp))⟩
 have HX:=z_ aw;have an:=z_ av;clear av aw;go_enter Tryz.func37,Tryz.ntmps37
 go_wp2_with fail
 rw [← hW];clear hW;refine (au.out _ an.out).mono ?_;rintro e w1 ⟨rfl,ao⟩;have ah:=z_ (an.out.trans (ao.mono an.out.size));have ax:=z_ (Box34.below HX.out ao);clear ao;cases sb with
 | false=>
  have HF:Hid (r=false):=z_ (by cases ap:r with
   | false=>rfl
   | true=>exact absurd (HR.out.1 ap).1 (by simp))
  go_wp2;go_ret;exact ⟨qa0 HF.out.symm,ah.out⟩
 | true=>
  obtain ⟨⟨x0,x1,x2⟩,y0,y1,y2,y3⟩:=ax.out;go_wp2_with fail
  refine (ak.out _ ah.out).mono ?_;rintro e w2 ⟨r2,rfl,ay,aq⟩;have ai:=z_ (ah.out.trans (aq.mono ah.out.size));have aB:=z_ (Box34.below ax.out aq);have az:=z_ ay;clear aq ay x0 x1 x2 y0 y1 y2 y3;cases r2 with
  | false=>
   have HF:Hid (r=false):=z_ (by cases ap:r with
    | false=>rfl
    | true=>exact absurd (az.out.2 (HR.out.1 ap).2.1) (by simp))
   go_wp2;go_ret;exact ⟨qa0 HF.out.symm,ai.out⟩
  | true=>
   have HF:Hid (r=fb):=z_ (by
    rw [Bool.eq_iff_iff,HR.out]
    exact ⟨fun e=>e.2.2,fun e=>⟨by trivial,az.out.1 (by trivial),e⟩⟩)
   obtain ⟨⟨x0,x1,x2⟩,y0,y1,y2,y3⟩:=aB.out;go_wp2_with fail
   refine (al.out (by trivial) _ ai.out).mono ?_;rintro e w3 ⟨rfl,aA⟩;have aC:=z_ (ai.out.trans (aA.mono ai.out.size));clear aA x0 x1 x2 y0 y1 y2 y3;go_wp2;go_ret;exact ⟨qa0 HF.out.symm,aC.out⟩
end formt

namespace tsn
open mem dec split subs setm sortm sortp sorti rowl sigm sigs sigk trm terml termb termt termro termvr rowg gram gramo formnd formf formm tsa tsm tsi tsj tsk tsl
noncomputable def sortsT (U:List Nat)(O:List OpM)(t:TermM):Nat:=
 TermM.rec (motive_1:=fun _=>Nat) (motive_2:=fun _=>List Nat) (fun o _ s _ L=>if o=-1 then U.getD s.toNat 0 else sortsA U (O.getD o.toNat default).decls (O.getD o.toNat default).ass (O.getD o.toNat default).com L) [] (fun _ _ a l=>a::l) t
theorem qoa (U:List Nat)(O:List OpM)(o:Int)(n:List UInt8)(s:Int)(l:List TermM):sortsT U O (.mk o n s l)=if o=-1 then U.getD s.toNat 0 else sortsA U (O.getD o.toNat default).decls (O.getD o.toNat default).ass (O.getD o.toNat default).com (l.map (sortsT U O)):=by
 have:∀ l:List TermM,(TermM.rec_1 (motive_1:=fun _=>Nat) (motive_2:=fun _=>List Nat) (fun o _ s _ L=>if o=-1 then U.getD s.toNat 0 else sortsA U (O.getD o.toNat default).decls (O.getD o.toNat default).ass (O.getD o.toNat default).com L) [] (fun _ _ a l=>a::l) l:List Nat)=l.map (sortsT U O):=by
  intro l;induction l with
  | nil=>rfl
  | cons a l ih=>rw [List.map_cons,← ih];rfl
 rw [← this];rfl
theorem qky (U:List Nat)(O:List OpM)(t:TermM):sortsT U O t=if t.op=-1 then U.getD t.sort.toNat 0 else sortsA U (O.getD t.op.toNat default).decls (O.getD t.op.toNat default).ass (O.getD t.op.toNat default).com (t.args.map (sortsT U O)):=by
 cases t with
 | mk o n s l=>exact qoa U O o n s l
theorem qd4{_U:List Nat}{f:TermM→Nat}{l:List TermM}(h:∀ a∈l,f a<2 ^ n)(i:Nat):(l.map f).getD i 0<2 ^ n:=by
 rw [List.getD_eq_getElem?_getD,List.getElem?_map];by_cases hi:i<l.length
 ·rw [List.getElem?_eq_getElem hi]
  exact h _ (List.getElem_mem hi)
 ·rw [List.getElem?_eq_none (Nat.le_of_not_lt hi)]
  exact Nat.two_pow_pos n
theorem qem{U:List Nat}(hU:Lim U)(O:List OpM):∀ t,sortsT U O t<2 ^ U.length:=by
 refine TermM.ind (fun o n s l ih=>?_);rw [qoa];split
 ·exact hU.2 _
 ·exact qwc hU _ _ _ (qd4 (_U:=U) ih)
theorem qf5{P:List (List UInt8)}{Q:List (Int×Int)}{O:List OpM}(ab:qah P Q O=true){t:TermM}(h:qby P O t)(hv:t.op≠-1):
  t.op.toNat<O.length∧0≤t.op∧t.args.length≤7∧ar (O.getD t.op.toNat default)≤t.args.length∧(((O.getD t.op.toNat default).ass || (O.getD t.op.toNat default).com)=true→ar (O.getD t.op.toNat default)=2∧2≤t.args.length)∧((O.getD t.op.toNat default).ass=false→t.args.length=ar (O.getD t.op.toNat default)):=by
 unfold qby at h;rw [if_neg hv] at h;obtain ⟨h1,_,_,h4⟩:=h;have hk:t.op.toNat<O.length:=o_;have ha:=qCn ab hk;have h3:ar (O.getD t.op.toNat default)≤3:=(qaj (qnp ab hk)).1;refine ⟨hk,h1.1,?_⟩;cases aa:(O.getD t.op.toNat default).ass with
 | true=>
  rw [aa,if_pos rfl] at h4;rw [aa] at ha;have h5:=ha rfl;exact ⟨h4.2,by omega,fun _=>⟨h5,h4.1⟩,fun e=>by cases e⟩
 | false=>
  rw [aa,if_neg (by simp)] at h4;rw [aa] at ha;exact ⟨by omega,by omega,fun hc=>⟨ha hc,by rw [h4,ha hc];exact Nat.le_refl _⟩,fun _=>h4⟩
theorem qCo (U:List Nat)(O:List OpM)(L:List TermM)(k:Nat)(h:k<L.length):(L.take (k+1)).map (sortsT U O)=(L.take k).map (sortsT U O)++[sortsT U O (L.getD k default)]:=by
 rw [List.take_succ_eq_append_getElem h,List.map_append];simp [List.getD,List.getElem?_eq_getElem h]
theorem qBr:(Tryz.prog.info? 176).map (fun i=>(i.zero,i.size,i.bytes))=some (some (.int .u16 0),1,2):=by kernel_rfl
abbrev SNod (x g o:Nat)(mm um:Option Nat)(Ao:Option Addr)(no co:Nat)(va:Value)(W w:World):Prop:=
 ((w.cell? ⟨x,0,none⟩=some (.map mm)∧w.cell? ⟨x,1,none⟩=some (.slice Ao no co)∧w.cell? ⟨x,2,none⟩=some (.map um))∧w.cell? ⟨g,o+3,none⟩=some va)∧Below W.heap.size W w
theorem SNod.of{x o:Nat}{mm um:Option Nat}{Ao:Option Addr}{no co:Nat}{va:Value}{W:World}(h:SNod x g o mm um Ao no co va W W)(hb:Below W.heap.size W w):SNod x g o mm um Ao no co va W w:=by
 have k:∀ {a:Addr} {v:Value},W.cell? a=some v→w.cell? a=some v:=fun {a v} h=>(hb.cell (p:=a) (l_ h)).trans h
 exact ⟨⟨⟨k h.1.1.1,k h.1.1.2.1,k h.1.1.2.2⟩,k h.1.2⟩,hb⟩
def NodC (P:List (List UInt8))(Q:List (Int×Int))(O:List OpM)(N:Nat):Prop:=∀ (mm um:Option Nat) (Ao:Option Addr) (no co:Nat) (t:TermM) (g o:Nat) (v:Value) (w:World) (lo:Nat),HasM w (.map mm) (.slice Ao no co) (grM P Q O)→MapU w (.map um) (clo P.length (prs Q))→
 w.cell? ⟨g,o,none⟩=some (.int .i64 t.op)→w.cell? ⟨g,o+2,none⟩=some (.int .i64 t.sort)→w.cell? ⟨g,o+3,none⟩=some v→HasTs N lo w v t.args→Bnd t→qay P Q O t→
 Calls Tryz.prog 189 #[.agg #[.map mm,.slice Ao no co,.map um],.pointer (some ⟨g,o,none⟩)] w fun e w'=>e=.returned (.int .u16 ((sortsT (clo P.length (prs Q)) O t:Nat):Int))∧Below w.heap.size w w'
theorem c94_{p:Prop}(h:p:=by
 (try dsimp only);exact ae.out.of (by first|exact HB.out.drew|exact ao.out|exact ap.out _|exact az.out)
):p:=h
set_option maxRecDepth 50000 in
set_option maxHeartbeats 8000000 in
theorem qob (P:List (List UInt8))(Q:List (Int×Int))(O:List OpM)(ah:qah P Q O=true)(hS:∀ k,N=k+1→NodC P Q O k):NodC P Q O N:=by
 intro mm um Ao no co t g o v w lo hM aq t0 t2 t3 ht hB hF;have ak:=(qa8 ah).1;have ab:=qh7 ak;have bK:=pow8 ab.1;have aD:=qc9 P.length (prs Q);obtain ⟨aa,ac,_⟩:=(qar P Q O t).1 hF;obtain ⟨B,cb,rfl,_⟩:=HasR.shape ht rfl;have aB:=(hM.e.len).1;rw [qBq ah] at aB;have hg:=l_ t0;simp only [] at hg;have au:=z_ (qky (clo P.length (prs Q)) O t);have aE:=qem ab O t;obtain ⟨sv,aF⟩:=e_ (sortsT (clo P.length (prs Q)) O t);rw [← aF] at au aE ⊢;obtain ⟨W,hW⟩:=e_ (w.alloc (.cells #[.map mm,.slice Ao no co,.map um] 94));have af:=fr1_ hW;have hz:=fr3_ hW;have aG:SNod w.heap.size g o mm um Ao no co (.slice B t.args.length cb) W W:=by
  refine ⟨⟨?_,(af.cell (p:=⟨g,o+3,none⟩) hg).trans t3⟩,Below.refl _ _⟩;rw [hW];exact box3 (termt.qa5 _ _ _ rfl)
 have y0:=(af.cell (p:=⟨g,o,none⟩) hg).trans t0;have y2:=(af.cell (p:=⟨g,o+2,none⟩) hg).trans t2;have al:=z_ af;have ae:=z_ aG;have HZ:=z_ hz;have bo:=hB;obtain ⟨_,⟨q1,q2⟩,⟨q3,q4⟩⟩:=bo;by_cases hv:t.op=-1
 ·have bp:Hid (sv=(clo P.length (prs Q)).getD t.sort.toNat 0):=z_ (by rw [au.out,if_pos hv])
  unfold qby at aa;rw [if_pos hv] at aa;have av:=z_ (fun W (hW:W.cell? ⟨g,o,none⟩=some (.int .i64 t.op))=>qbw g o t.op W hW true (decide_eq_true hv))
  have aW:Hid (∀ q,(Instr.lookup 89 (.map um) (.int .i64 t.sort) false).run Tryz.prog (W.drewN q)=.ok (.int .u16 (sv:Int)) (W.drewN q)):=z_ (fun q=>by
   have:=(aq.below (af.trans ((qa3 (Below.refl W.heap.size W) q).mono af.size))).look (x:=t.sort) q3 q4;rw [this,bp.out];have e:t.sort=((t.sort.toNat:Nat):Int):=o_;rw [e,qgv]
   rfl)
  obtain ⟨to,aX⟩:=e_ (t.op);obtain ⟨ts,aY⟩:=e_ (t.sort);rw [← aX] at av y0;rw [← aY] at aW y2;have lk:=aW.out;obtain ⟨⟨z0,z1,z2⟩,z3⟩:=ae.out.1;clear hM aq t0 t2 t3 ht hB hF aa ac af aG aX aY hS au q1 q2 q3 q4 hv aF hz aB ak ah ab aD;go_enter Tryz.func189,Tryz.ntmps189
  go_wp2_with fail
  rw [← hW];clear hW;refine (av.out W y0).mono ?_;rintro e w1 ⟨rfl,rfl⟩;go_wp2_with fail
  go_quiet (fail)
  go_wp2;go_ret;exact ⟨rfl,qa3 al.out _⟩
 ·obtain ⟨hk,h0,h7,aH,aC,aZ⟩:=qf5 ah aa hv
  have av:=z_ (fun W (hW:W.cell? ⟨g,o,none⟩=some (.int .i64 t.op))=>qbw g o t.op W hW false (decide_eq_false hv));have am:Hid (sv=sortsA (clo P.length (prs Q)) (O.getD t.op.toNat default).decls (O.getD t.op.toNat default).ass (O.getD t.op.toNat default).com (t.args.map (sortsT (clo P.length (prs Q)) O))):=z_ (by rw [au.out,if_neg hv]);obtain ⟨k,aI⟩:∃ k:Nat,t.op=(k:Int):=⟨t.op.toNat,by omega⟩;rw [aI,Int.toNat_natCast] at hk aH aC aZ am;obtain ⟨ge,oe,A2,c2,hA,bL,hcs,aJ,_,_⟩:=qnd hM.e (j:=k) (by rw [aB];exact hk);rw [show ((grM P Q O).E.getD k default).1=O.getD k default from qAc ah hk] at aJ hcs
  have a6:Hid (∀ (x:OpE),x=(grM P Q O).E.getD k default→∀ (va:Value) W',Below w.heap.size w W'→Has W' va (u16s (t.args.map (sortsT (clo P.length (prs Q)) O)))→Calls Tryz.prog 225 #[.agg #[.map mm,.slice Ao no co,.map um],aggE x.1.name A2 (O.getD k default).decls.length c2 x.1.ass x.1.com x.1.unt x.2.1 x.2.2.1 x.2.2.2.1 x.2.2.2.2.1 x.2.2.2.2.2.1 x.2.2.2.2.2.2,va] W' fun e w'=>e=.returned (.int .u16 (sv:Int))∧Below W'.heap.size W' w'):=z_ (fun x hx va W' ad bq=>by
   have e1:x.1=O.getD k default:=by rw [hx];exact qAc ah hk
   have a7:(t.args.map (sortsT (clo P.length (prs Q)) O)).length=t.args.length:=List.length_map _;have:=qjf (clo P.length (prs Q)) ab mm um Ao no co x.1.name A2 (O.getD k default).decls.length c2 x.1.ass x.1.com x.1.unt x.2.1 x.2.2.1 x.2.2.2.1 x.2.2.2.2.1 x.2.2.2.2.2.1 x.2.2.2.2.2.2 (O.getD k default).decls (t.args.map (sortsT (clo P.length (prs Q)) O)) (ar (O.getD k default)) (by rw [aD];exact qzk ah hk) (fun h=>by rw [e1] at h;rw [a7];exact ⟨(aC h).1,(aC h).2,h7⟩) (by rw [a7];exact aH) (qd4 (_U:=[]) (fun a _=>qem ab O a)) va W' (aq.below ad) (aJ.below qa6 n_ ad) bq;rw [e1,← am.out] at this;rw [e1]
   exact this)
  have br:Hid (∀ kn,N=kn+1→∀ (x:TermM) (gx ox:Nat) (vx:Value) (W':World),Below w.heap.size w W'→W'.cell? ⟨gx,ox,none⟩=some (.int .i64 x.op)→W'.cell? ⟨gx,ox+2,none⟩=some (.int .i64 x.sort)→W'.cell? ⟨gx,ox+3,none⟩=some vx→HasTs kn lo W' vx x.args→Bnd x→qay P Q O x→Calls Tryz.prog 189 #[.agg #[.map mm,.slice Ao no co,.map um],.pointer (some ⟨gx,ox,none⟩)] W' fun e w'=>e=.returned (.int .u16 ((sortsT (clo P.length (prs Q)) O x:Nat):Int))∧Below W'.heap.size W' w'):=z_ (fun kn e x gx ox vx W' ad k0 k2 k3 hx bs bt=>hS kn e mm um Ao no co x gx ox vx W' lo (hM.below ad) (aq.below ad) k0 k2 k3 hx bs bt);obtain ⟨x,hx⟩:=e_ ((grM P Q O).E.getD k default);have ag:=z_ (a6.out x hx);rw [← hx] at hcs;obtain ⟨i0,hi,a8,ba,bb⟩:=info_parts qBr;have bc:=z_ ht;have bd:=z_ ac;have be:=z_ (qCo (clo P.length (prs Q)) O t.args);have bu:=z_ (qem ab O);obtain ⟨L,hL⟩:=e_ (t.args);obtain ⟨q,hq⟩:=e_ (t.args.length);have aK:Hid (q=L.length):=z_ (by rw [hq,hL]);rw [← hL] at bd ag be;rw [← hq,← hL] at bc;rw [← hq] at ae h7;rw [aI] at y0 av;obtain ⟨dl,bf⟩:=e_ ((O.getD k default).decls.length);rw [← bf] at ag hcs;obtain ⟨⟨nm,ds,a,b,u⟩,i,s0,s1,s2,s3,s4⟩:=x;simp only [] at ag;subst hA;have kW:∀ {a:Addr} {v:Value},w.cell? a=some v→W.cell? a=some v:=fun {a v} h=>(af.cell (p:=a) (l_ h)).trans h
  have e0:W.cell? ⟨ge,oe+k*11,none⟩=some (.string (bstr nm)):=kW (hcs 0 o_);have e1:W.cell? ⟨ge,oe+k*11+1,none⟩=some (.slice A2 dl c2):=kW (hcs 1 o_);have e2:W.cell? ⟨ge,oe+k*11+2,none⟩=some (.bool a):=kW (hcs 2 o_);have e3:W.cell? ⟨ge,oe+k*11+3,none⟩=some (.bool b):=kW (hcs 3 o_);have e4:W.cell? ⟨ge,oe+k*11+4,none⟩=some (.int .i64 u):=kW (hcs 4 o_);have e5:W.cell? ⟨ge,oe+k*11+5,none⟩=some (.int .i64 (i:Int)):=kW (hcs 5 o_);have e6:W.cell? ⟨ge,oe+k*11+6,none⟩=some (.int .i64 (s0:Int)):=kW (hcs 6 o_);have e7:W.cell? ⟨ge,oe+k*11+7,none⟩=some (.int .u16 (s1:Int)):=kW (hcs 7 o_);have e8:W.cell? ⟨ge,oe+k*11+8,none⟩=some (.int .u16 (s2:Int)):=kW (hcs 8 o_);have e9:W.cell? ⟨ge,oe+k*11+9,none⟩=some (.int .u16 (s3:Int)):=kW (hcs 9 o_);have aw:W.cell? ⟨ge,oe+k*11+10,none⟩=some (.int .u16 (s4:Int)):=kW (hcs 10 o_);have HE:=z_ (And.intro y0 (And.intro e0 (And.intro e1 (And.intro e2 (And.intro e3 (And.intro e4 (And.intro e5 (And.intro e6 (And.intro e7 (And.intro e8 (And.intro e9 aw)))))))))));have bv:k<no:=o_;clear hM aq t0 t2 t3 ht hB hF aa ac af aG hS au am a6 q1 q2 q3 q4 hv aF hz aB ak ah ab aD aI hcs aJ hx hL hq bf hk h0 aH aC aZ kW y2 e0 e1 e2 e3 e4 e5 e6 e7 e8 e9 aw;obtain ⟨⟨z0,z1,z2⟩,z3⟩:=ae.out.1;go_enter Tryz.func189,Tryz.ntmps189
  go_wp2_with fail
  rw [← hW];clear hW;refine (av.out W y0).mono ?_;rintro e w1 ⟨rfl,rfl⟩;go_wp2_with (at_make;refine wpList_make_own _ rfl _ _ 269 rfl W.heap.size 176 i0 (.int .u16 0) 1 Tryz.underlying269 hi a8 ba _ _ _ q rfl rfl rfl (by rw [bb];omega) Aa_ n_ ?_)
  intro w1 hown ai;have bg:Below W.heap.size W w1:=(Below.refl W.heap.size W).grown ai n_ Be_;have aL:=z_ bg;have ax:=z_ hown;clear ai hown bg;have bw:=(ae.out.of aL.out).1.2;clear z0 z1 z2 z3 y0;go_wp2;clear bw;go_loopw [5,6,27] (fun v5 _ bx wr=>∃ p:Nat,bx=.int .i64 p∧p≤q∧Hid (wr.ownsRow W.heap.size 176 1 v5 p (u16s ((L.take p).map (sortsT (clo P.length (prs Q)) O))))∧Hid (Below W.heap.size W wr)) (fun _ _ i _=>q-(intOf i).toNat)
  case atStart=>exact ⟨0,rfl,y_,z_ (by simpa [u16s] using ax.out),aL⟩
  case round=>
   obtain ⟨p,rfl,hp,HO,HB⟩:=hrel;clear ax aL;have hsz:=HB.out.size;by_cases bz:p<q
   ·obtain ⟨kn,gx,ox,B2,cx,bA,rfl,_,aM,f0,_,f2,f3,aN,aO⟩:=qal bc.out bz
    have bh:=al.out.trans (HB.out.mono al.out.size);have bB:=z_ bh;have ay:L.getD p default∈L:=by rw [List.getD_eq_getElem?_getD,List.getElem?_eq_getElem (by have:=aK.out;omega)];exact List.getElem_mem _
    have aP:=bd.out _ ay;have an:=z_ (be.out p (by have:=aK.out;omega));have bi:=bu.out (L.getD p default);obtain ⟨x,hx⟩:=e_ (L.getD p default);rw [← hx] at f0 f2 f3 aN aO aP an bi;have bj:Hid (∀ W',Below w.heap.size w W'→Calls Tryz.prog 189 #[.agg #[.map mm,.slice (some ⟨ge,oe,none⟩) no co,.map um],.pointer (some ⟨gx,ox+p*4,none⟩)] W' fun e w'=>e=.returned (.int .u16 ((sortsT (clo P.length (prs Q)) O x:Nat):Int))∧Below W'.heap.size W' w'):=z_ (fun W' ad=>br.out kn bA x gx (ox+p*4) (.slice B2 x.args.length cx) W' ad ((ad.cell (p:=⟨gx,ox+p*4,none⟩) aM).trans f0) ((ad.cell (p:=⟨gx,ox+p*4+2,none⟩) aM).trans f2) ((ad.cell (p:=⟨gx,ox+p*4+3,none⟩) aM).trans f3) (aN.below n_ ad) aO aP);obtain ⟨xv,bk⟩:=e_ (sortsT (clo P.length (prs Q)) O x);rw [← bk] at bj an bi;have bM:=z_ (ae.out.of HB.out);have i1:(0:Int)≤(p:Int):=o_;have i2:(p:Int)<(q:Int):=o_;clear f0 f2 f3 aN aO aP ay hx bk bh;go_wp2_with fail
    refine wp_region_noPanic ?_;refine wp_region_held_drew (S:=(SNod w.heap.size g o mm um (some ⟨ge,oe,none⟩) no co (.slice (some ⟨gx,ox,none⟩) q cb) W)) k_ ?_ (fun aQ=>?_)
    ·exact ae.out.of (by first|exact HB.out.drew|exact ao.out|exact ap.out _|exact az.out)
    refine t_k 0 ?_;refine t_k 1 ?_;refine t_k 2 ?_;refine t_k 3 ?_;refine t_k 4 ?_;refine t_k 5 ?_;refine t_k 6 ?_;refine t_k 7 ?_;refine r_d [8] ?_;refine c_s (fun K hK=>?_) ?_
    ·(go_simp;refine (bj.out _ bB.out.drew).mono ?_;rintro e w2 ⟨rfl,aR⟩;have ao:Hid (Below W.heap.size W w2):=z_ (HB.out.drew.trans (aR.mono hsz));have bl:=z_ (own_below HO.out (show Below wr.heap.size wr w2 from b_.drew.trans aR));clear aR;have ap:Hid (∀ ob,Below W.heap.size W (w2.alloc ob)):=z_ (fun ob=>ao.out.alloc ao.out.size ob);have bC:Hid (∀ ob,Below w2.heap.size w2 (w2.alloc ob)):=z_ (fun ob=>b_.alloc n_ ob);have bm:Hid (∀ ob,W.heap.size≤(w2.alloc ob).heap.size):=z_ (fun ob=>(ap.out ob).size);(try dsimp only))
     refine k_o hK ?_ (fun aS=>?_)
     ·exact c94_
     clear hK K aQ;refine r_d [9] ?_;refine c_s (fun K hK=>?_) ?_
     ·go_simp
      refine k_o hK ?_ (fun aT=>?_)
      ·exact c94_
      clear hK K aS;refine r_d [10] ?_;refine c_s (fun K hK=>?_) ?_
      ·(refine qbc (by rfl) _ _ _ (by rfl) W.heap.size 176 i0 (.int .u16 0) 1 2 Tryz.underlying269 hi a8 ba bb rfl o_ _ p _ (by rfl) (own_below bl.out (bC.out _)) ⟨w2.heap.size,0,none⟩ 1 1 [.int .u16 (xv:Int)] (by rfl) o_ (by rfl) (qfn _ _ _) (qgn _ rfl) Aa_ o_ (bm.out _) ?_;intro g4 aU w5 aj aA bD aV;have az:Hid (Below W.heap.size W w5):=z_ ((ap.out _).grown aA (bm.out _) (qb7 bl.out));clear aA bD aV)
       refine k_o hK ?_ (fun bE=>?_)
       ·exact c94_
       clear hK K aT;refine t_k 11 ?_;refine wpAnyH_done k_ ?_ _;refine NoPanic.normal ?_;have bF:Hid (w5.ownsRow W.heap.size 176 1 (.slice (some ⟨g4,0,none⟩) (p+1) aU) (p+1) (u16s ((L.take (p+1)).map (sortsT (clo P.length (prs Q)) O)))):=z_ (by rw [an.out,qwd];exact aj);clear aj;go_wp2;go_roundw
       case rel=>exact ⟨p+1,by go_num,by omega,bF,az⟩
       case measure=>simp [intOf];omega
      exact a_l
     exact a_l
    exact a_l
   ·obtain rfl:p=q:=o_
    have bG:Hid ((L.take p).map (sortsT (clo P.length (prs Q)) O)=L.map (sortsT (clo P.length (prs Q)) O)):=z_ (by rw [aK.out,List.take_length]);have ho:=HO.out;rw [bG.out] at ho;obtain ⟨Ar,cr,rfl,_⟩:=qaz ho;have bH:=z_ (Has.of_own ho);have bn:=z_ (fun (t:BoxC (Below wr.heap.size wr))=>ag.out (.slice Ar p cr) t.W (al.out.trans ((HB.out.trans (t.h.mono hsz)).mono al.out.size)) (bH.out.below n_ t.h));obtain ⟨⟨⟨x0,x1,x2⟩,_⟩,_⟩:=ae.out.of HB.out;obtain ⟨y0,e0,e1,e2,e3,e4,e5,e6,e7,e8,e9,aw⟩:=HE.out
    have kr:∀ {g y:Nat} {v:Value},W.cell? ⟨g,y,none⟩=some v→∀ t:BoxC (Below wr.heap.size wr),t.W.cell? ⟨g,y,none⟩=some v:=fun {g y v} h t=>by
     have h1:=(HB.out.cell (p:=⟨g,y,none⟩) (l_ h)).trans h;exact t.cell h1 (l_ h1)
    have kx:∀ {g y:Nat} {v:Value},wr.cell? ⟨g,y,none⟩=some v→∀ t:BoxC (Below wr.heap.size wr),t.W.cell? ⟨g,y,none⟩=some v:=fun {g y v} h t=>t.cell h (l_ h)
    have r0:=kx x0;have r1:=kx x1;have r2:=kx x2;have ry:=kr y0;have g0:=kr e0;have g1:=kr e1;have g2:=kr e2;have g3:=kr e3;have g4:=kr e4;have g5:=kr e5;have g6:=kr e6;have g7:=kr e7;have g8:=kr e8;have g9:=kr e9;have bI:=kr aw;have nb:Nonempty (BoxC (Below wr.heap.size wr)):=⟨⟨_,Below.refl _ _⟩⟩;have i1:(0:Int)≤(k:Int):=o_;have i2:(k:Int)<(no:Int):=o_;have bJ:Hid (∀ t:BoxC (Below wr.heap.size wr),Below w.heap.size w t.W):=z_ (fun t=>al.out.trans ((HB.out.trans (t.h.mono hsz)).mono al.out.size));clear kr kx x0 x1 x2 y0 e0 e1 e2 e3 e4 e5 e6 e7 e8 e9 aw ho;go_wp2_with fail
    refine qa1 (C:=Below wr.heap.size wr) k_ k_ b_.drew ?_;repeat (go_big_quiet_step ((go_at_call 225;exact (bn.out _).mono (fun _ _ h=>⟨h.1,BoxC.step _ h.2⟩))))
    refine wpQuiet_nil ?_;rintro w5 ⟨t5,rfl⟩;clear r0 r1 r2 ry g0 g1 g2 g3 g4 g5 g6 g7 g8 g9 bI nb bn;go_wp2;go_ret;exact ⟨rfl,bJ.out t5⟩
theorem qs7 (P:List (List UInt8))(Q:List (Int×Int))(O:List OpM)(aa:qah P Q O=true):∀ n,NodC P Q O n
 | 0=>qob P Q O aa (fun k h=>by omega)
 | n+1=>qob P Q O aa (fun k h=>Nat.succ.inj h ▸ qs7 P Q O aa n)
end tsn

namespace tso
open mem dec split strl subs sortn setm sets sortm sortp sorti sortg rowl sigm sigs sigk trm trmv terml termb termt termx termro termvr rowg gram gramo gramk gramc gramn gramt formnd formk formr formf formt formm frm grami tsa tsm tsi tsj tsk tsl tsn
noncomputable def sortsZ (P:List (List UInt8))(Q:List (Int×Int))(O:List OpM)(t:TermM)(z:Bool):Nat:=if z=true then sortsT (clo P.length (prs Q)) O t else 0
set_option maxRecDepth 50000 in
set_option maxHeartbeats 8000000 in
theorem qq0 (P:List (List UInt8))(Q:List (Int×Int))(O:List OpM)(mm um:Option Nat)(A:Option Addr)(no c:Nat)(t:TermM)(ve:Value)(w:World)(hM:HasM w (.map mm) (.slice A no c) (grM P Q O))(hU:MapU w (.map um) (ordU P Q))(ht:HasTs N lo w ve t.args)(hB:Bnd t)(hsz:qa2 t.args≤1048576)(z:Bool)(hz:z=true↔qd3 P Q O t):
  Calls Tryz.prog 152 #[.agg #[.map mm,.slice A no c,.map um],aggT t ve] w fun e w'=>e=.returned (.int .u16 ((sortsZ P Q O t z:Nat):Int))∧Below w.heap.size w w':=by
 have al:=(hM.e.len).1
 have ae:Hid (∀ W,Below w.heap.size w W→Calls Tryz.prog 46 #[.agg #[.map mm,.slice A no c],aggT t ve] W fun e w'=>e=.returned (.bool z)∧Below W.heap.size W w'):=z_ (fun W hW=>by
  refine (qh1 (grM P Q O) (qlu P Q O) (.map mm) A no c t ve W (hM.below hW) al (ht.below n_ hW) hB hsz).mono ?_;rintro e w' ⟨r,rfl,hr,hb⟩;have:r=z:=by
   rw [Bool.eq_iff_iff,hr,hz,qd3];exact qbi t
  exact ⟨by rw [this],hb⟩)
 obtain ⟨B,cb,rfl,_⟩:=HasR.shape ht rfl
 have af:Hid (z=true→∀ W (g o:Nat),Below w.heap.size w W→W.cell? ⟨g,o,none⟩=some (.int .i64 t.op)→W.cell? ⟨g,o+2,none⟩=some (.int .i64 t.sort)→W.cell? ⟨g,o+3,none⟩=some (.slice B t.args.length cb)→Calls Tryz.prog 189 #[.agg #[.map mm,.slice A no c,.map um],.pointer (some ⟨g,o,none⟩)] W fun e w'=>e=.returned (.int .u16 ((sortsT (clo P.length (prs Q)) O t:Nat):Int))∧Below W.heap.size W w'):=z_ (fun au W g o hW h0 h2 h3=>by
  have hs:=hz.1 au;have ag:=(qa8 hs.1).1
  exact qs7 P Q O hs.1 N mm um A no c t g o _ W lo (hM.below hW) ((qlj ag) ▸ (hU.below hW)) h0 h2 h3 (ht.below n_ hW) hB hs.2.2)
 have aa:Hid (z=true→sortsZ P Q O t z=sortsT (clo P.length (prs Q)) O t):=z_ (fun h=>by rw [sortsZ,if_pos h]);have ab:Hid (z=false→sortsZ P Q O t z=0):=z_ (fun h=>by rw [sortsZ,if_neg (by rw [h];simp)]);obtain ⟨sz,ac⟩:=e_ (sortsZ P Q O t z);rw [← ac] at aa ab ⊢;obtain ⟨sv,am⟩:=e_ (sortsT (clo P.length (prs Q)) O t);rw [← am] at aa af;unfold aggT at ae ⊢;obtain ⟨q,hq⟩:=e_ (t.args.length);obtain ⟨to,ah⟩:=e_ (t.op);obtain ⟨tn,an⟩:=e_ (t.name);obtain ⟨ts,ai⟩:=e_ (t.sort);rw [← hq,← ah,← an,← ai] at ae ⊢;rw [← hq,← ah,← ai] at af;clear hM hU ht hB hsz hz hq ah an ai al ac am;obtain ⟨W,hW⟩:=e_ ((w.alloc (.cells #[.map mm,.slice A no c,.map um] 94)).alloc (.cells #[.int .i64 to,.string (bstr tn),.int .i64 ts,.slice B q cb] 38));have ao:Below w.heap.size w W:=by
  rw [hW];exact v_
 have ap:Box34 w.heap.size (w.heap.size+1) (.map mm) (.slice A no c) (.map um) (.int .i64 to) (.string (bstr tn)) (.int .i64 ts) (.slice B q cb) W:=by
  rw [hW];exact ⟨tsl.box3 (tsl.qbd _ _ _),box4 (termt.qa5 _ _ _ (by simp))⟩
 have HX:=z_ ap;have aj:=z_ ao;obtain ⟨⟨x0,x1,x2⟩,y0,y1,y2,y3⟩:=ap;clear ao;go_enter Tryz.func152,Tryz.ntmps152
 go_wp2_with fail
 rw [← hW];clear hW;go_wp2_with fail
 refine (ae.out _ aj.out).mono ?_;rintro e w1 ⟨rfl,ak⟩;have ad:=z_ (aj.out.trans (ak.mono aj.out.size));have av:=z_ (Box34.below HX.out ak);clear ak x0 x1 x2 y0 y1 y2 y3;obtain ⟨⟨x0,x1,x2⟩,y0,y1,y2,y3⟩:=av.out;cases z with
 | false=>
  have HQ:Hid (sz=0):=z_ (ab.out (by trivial));go_wp2;go_ret;exact ⟨qan (by rw [HQ.out];rfl),ad.out⟩
 | true=>
  have HQ:Hid (sz=sv):=z_ (aa.out (by trivial));go_wp2_with fail
  refine (af.out (by trivial) w1 (w.heap.size+1) 0 ad.out y0 y2 y3).mono ?_;rintro e w2 ⟨rfl,aq⟩;have aw:=z_ (ad.out.trans (aq.mono ad.out.size));clear aq;go_wp2;go_ret;exact ⟨qan (by rw [HQ.out]),aw.out⟩
end tso

namespace isub
set_option maxRecDepth 50000
set_option maxHeartbeats 8000000
open mem dec split subs setm sets sortm sortp sorti sortf rowl sigm sigs trm terml termb termt termx termvr rowg gram gramk formt grami tsa tsj tsl tsn tso bndl bndc
def qe8 (P:List (List UInt8))(Q:List (Int×Int))(O:List OpM)(b:BindM):Prop:=
 b.v.op=-1∧varB (grM P Q O) b.v=true∧qd3 P Q O b.t∧(sortsT (clo P.length (prs Q)) O b.t).testBit b.v.sort.toNat=true
theorem c97_{p:Prop}(h:p:=by
 go_wp2;go_ret;exact ⟨qa0 HF.out.symm,ac.out.trans (ai.out.mono ac.out.size)⟩
):p:=h
theorem qBs (P:List (List UInt8))(Q:List (Int×Int))(O:List OpM)(mm um:Option Nat)(A:Option Addr)(no c:Nat)(b:BindM)(g p:Nat)(A1:Option Addr)(c1:Nat)(A2:Option Addr)(c2:Nat)(w:World)(hM:HasM w (.map mm) (.slice A no c) (grM P Q O))(hU:MapU w (.map um) (ordU P Q))(hc:Cells8 w g p b A1 c1 A2 c2)(ht:HasTs N lo w (.slice A2 b.t.args.length c2) b.t.args)(ay:Bnd b.v)(az:Bnd b.t)(hsz:qa2 b.t.args≤1048576)(r:Bool)(hr:r=true↔qe8 P Q O b):
  Calls Tryz.prog 91 #[.agg #[.map mm,.slice A no c,.map um],.pointer (some ⟨g,p,none⟩)] w fun e w'=>e=.returned (.bool r)∧Below w.heap.size w w':=by
 obtain ⟨z,hz⟩:=x_ (qd3 P Q O b.t);obtain ⟨⟨x0,x1,x2,x3⟩,x4,x5,x6,x7⟩:=hc;have hg:=l_ x0;simp only [] at hg;obtain ⟨W,hW⟩:=e_ (w.alloc (.cells #[.map mm,.slice A no c,.map um] 94));have aj:=fr1_ hW;have hX:=fr2_ hW;have ac:=z_ aj;have ad:∀ t:BoxC (Below W.heap.size W),Below w.heap.size w t.W:=fun t=>aj.trans (t.h.mono aj.size)
 have k:∀ {o:Nat} {v:Value},w.cell? ⟨g,o,none⟩=some v→∀ t:BoxC (Below W.heap.size W),t.W.cell? ⟨g,o,none⟩=some v:=fun {o v} h t=>((ad t).cell (p:=⟨g,o,none⟩) hg).trans h
 have y0:=k x0;have y1:=k x1;have y2:=k x2;have y3:=k x3;have y4:=k x4;have y5:=k x5;have y6:=k x6;have y7:=k x7;have ak:∀ t:BoxC (Below W.heap.size W),t.W.heap[w.heap.size]? =some (.cells #[.map mm,.slice A no c,.map um] 94 (0,0)):=fun t=>(t.h.block _ (by rw [hW];simp)).trans hX
 have z0:=fun t=>(tsl.box3 (ak t)).1
 have z1:=fun t=>(tsl.box3 (ak t)).2.1
 have z2:=fun t=>(tsl.box3 (ak t)).2.2
 obtain ⟨r1,ao⟩:∃ r1,decide (b.v.op=-1)=r1:=⟨_,rfl⟩;obtain ⟨r2,af⟩:∃ r2,varB (grM P Q O) b.v=r2:=⟨_,rfl⟩;have ae:Hid (∀ t:BoxC (Below W.heap.size W),Calls Tryz.prog 98 #[.pointer (some ⟨g,p,none⟩)] t.W fun e w'=>e=.returned (.bool r1)∧Below t.W.heap.size t.W w'):=z_ (fun t=>(qbw g p b.v.op t.W (y0 t) r1 ao).mono (fun _ _ h=>⟨h.1,h.2 ▸ Below.refl _ _⟩));have ag:Hid (∀ t:BoxC (Below W.heap.size W),Calls Tryz.prog 151 #[.agg #[.map mm,.slice A no c],.pointer (some ⟨g,p,none⟩)] t.W fun e w'=>e=.returned (.bool r2)∧Below t.W.heap.size t.W w'):=z_ (fun t=>qk7 (grM P Q O) (.map mm) A no c b.v g p A1 c1 t.W (hM.below (ad t)) (y1 t) (y2 t) (y3 t) ay r2 af);have aa:Hid (∀ t:BoxC (Below W.heap.size W),Calls Tryz.prog 152 #[.agg #[.map mm,.slice A no c,.map um],aggT b.t (.slice A2 b.t.args.length c2)] t.W fun e w'=>e=.returned (.int .u16 ((sortsZ P Q O b.t z:Nat):Int))∧Below t.W.heap.size t.W w'):=z_ (fun t=>qq0 P Q O mm um A no c b.t _ t.W (hM.below (ad t)) (hU.below (ad t)) (ht.below n_ (ad t)) az hsz z hz);have al:sortsZ P Q O b.t z<65536:=by
  unfold sortsZ;split
  ·rename_i aD
   have am:=(qa8 (hz.1 aD).1).1;have ah:=qh7 am;exact w_ (qem ah O b.t) (Nat.le_trans (pow8 ah.1) (by decide))
  ·decide
 have an:r2=true→∃ k:Nat,b.v.sort=(k:Int)∧k<16:=fun h2=>by
  rw [h2] at af;simp only [varB,Bool.and_eq_true,decide_eq_true_eq] at af;have aF:(grM P Q O).U.length≤8:=by
   unfold grM;split
   ·rename_i am
    have h1:=(qb2 (qa8 am).1).2.1;have h2:=qgy P Q;rw [if_pos (qa8 am).1] at h2;show (qaq P Q).length≤8;omega
   ·simp
  exact ⟨b.v.sort.toNat,by omega,by omega⟩
 have aA:=z_ ao;have aB:=z_ af;have ap:=z_ hr;have HZ:=z_ hz;have nb:Nonempty (BoxC (Below W.heap.size W)):=⟨⟨_,Below.refl _ _⟩⟩;unfold aggT at aa;obtain ⟨sz,ab⟩:=e_ (sortsZ P Q O b.t z);have aE:=z_ ab;rw [← ab] at aa al;obtain ⟨qt,aq⟩:=e_ (b.t.args.length);obtain ⟨to,au⟩:=e_ (b.t.op);obtain ⟨tn,av⟩:=e_ (b.t.name);obtain ⟨ts,aw⟩:=e_ (b.t.sort);rw [← aq,← au,← av,← aw] at aa;rw [← au] at y4;rw [← av] at y5;rw [← aw] at y6;rw [← aq] at y7;clear hM hU x0 x1 x2 x3 x4 x5 x6 x7 aj hX ak ad k ht ay az hsz ao af hr hz ab aq au av aw;cases r1 with
 | false=>
  have HF:Hid (r=false):=z_ (by
   cases r with
   | false=>rfl
   | true=>
    have h1:=(ap.out.1 rfl).1;have h2:=aA.out;rw [decide_eq_false_iff_not] at h2
    exact absurd h1 h2)
  clear y1 y2 y3 y4 y5 y6 y7 ag aa an al;go_enter Tryz.func91,Tryz.ntmps91
  go_wp2_with fail
  rw [← hW];clear hW;refine qa1 (C:=Below W.heap.size W) k_ k_ b_.drew ?_;repeat go_big_quiet_step ((go_at_call 98;exact (ae.out _).mono (fun _ _ h=>⟨h.1,BoxC.step _ h.2⟩)))
  refine wpQuiet_nil ?_;rintro w5 ⟨t5,rfl⟩;have ai:=z_ t5.h;clear y0 z0 z1 z2 nb ae;exact c97_
 | true=>
  cases r2 with
  | false=>
   have HF:Hid (r=false):=z_ (by
    cases r with
    | false=>rfl
    | true=>
     have h1:=(ap.out.1 rfl).2.1;rw [aB.out] at h1
     cases h1)
   clear y1 y2 y3 y4 y5 y6 y7 aa an al;go_enter Tryz.func91,Tryz.ntmps91
   go_wp2_with fail
   rw [← hW];clear hW;refine qa1 (C:=Below W.heap.size W) k_ k_ b_.drew ?_;repeat go_big_quiet_step (first|(go_at_call 98;exact (ae.out _).mono (fun _ _ h=>⟨h.1,BoxC.step _ h.2⟩))|(go_at_call 151;exact (ag.out _).mono (fun _ _ h=>⟨h.1,BoxC.step _ h.2⟩)))
   refine wpQuiet_nil ?_;rintro w5 ⟨t5,rfl⟩;have ai:=z_ t5.h;clear y0 z0 z1 z2 nb ae ag;exact c97_
  | true=>
   obtain ⟨k,hk,ax⟩:=an rfl;have HK:=z_ hk
   have HF:Hid (sz.testBit k=r):=z_ (by
    rw [Bool.eq_iff_iff,ap.out,aE.out,sortsZ];have h1:=aA.out;rw [decide_eq_true_eq] at h1;unfold qe8;rw [hk,Int.toNat_natCast];cases z with
    | true=>
     rw [if_pos rfl];exact ⟨fun h=>⟨h1,aB.out,HZ.out.1 rfl,h⟩,fun h=>h.2.2.2⟩
    | false=>
     rw [if_neg (by simp)]
     exact ⟨fun h=>absurd h (by simp),fun h=>absurd (HZ.out.2 h.2.2.1) (by simp)⟩)
   rw [hk] at y2;have aC:Hid (∀ t:BoxC (Below W.heap.size W),Calls Tryz.prog 153 #[.int .u16 (sz:Int),.int .i64 (k:Int)] t.W fun e w'=>e=.returned (.bool r)∧Below t.W.heap.size t.W w'):=z_ (fun t=>(qck sz k al ax r HF.out t.W).mono (fun _ _ h=>⟨h.1,h.2 ▸ Below.refl _ _⟩));clear y1 y3 an hk;go_enter Tryz.func91,Tryz.ntmps91
   go_wp2_with fail
   rw [← hW];clear hW;refine qa1 (C:=Below W.heap.size W) k_ k_ b_.drew ?_;repeat go_big_quiet_step (first|(go_at_call 98;exact (ae.out _).mono (fun _ _ h=>⟨h.1,BoxC.step _ h.2⟩))|(go_at_call 151;exact (ag.out _).mono (fun _ _ h=>⟨h.1,BoxC.step _ h.2⟩))|(go_at_call 152;exact (aa.out _).mono (fun _ _ h=>⟨h.1,BoxC.step _ h.2⟩))|(go_at_call 153;exact (aC.out _).mono (fun _ _ h=>⟨h.1,BoxC.step _ h.2⟩)))
   refine wpQuiet_nil ?_;rintro w5 ⟨t5,rfl⟩;have ai:=z_ t5.h;clear y0 y2 y4 y5 y6 y7 z0 z1 z2 nb ae ag aa aC;go_wp2;go_ret;exact ⟨rfl,ac.out.trans (ai.out.mono ac.out.size)⟩
def SubP (P:List (List UInt8))(Q:List (Int×Int))(O:List OpM)(σ:List BindM):Prop:=
 σ.length≤8∧∀ i,i<σ.length→qe8 P Q O (σ.getD i default)∧(0<i→cmp (σ.getD (i-1) default).v (σ.getD i default).v<0)
theorem c96_{p:Prop}(h:p:=by
 go_wp2;go_roundw
 case rel=>exact ⟨j+1,by go_num,by omega,an,z_ (HB.out.trans (af.out.mono HB.out.size))⟩
 case measure=>simp [intOf];omega
):p:=h
theorem c98_{p:Prop}(h:p:=by
 go_wp2;go_ret;exact ⟨qa0 HF.out.symm,ac.out.trans (af.out.mono ac.out.size)⟩
):p:=h
theorem qBt (P:List (List UInt8))(Q:List (Int×Int))(O:List OpM)(mm um:Option Nat)(A:Option Addr)(no c:Nat)(σ:List BindM)(lv:Value)(w:World)(hM:HasM w (.map mm) (.slice A no c) (grM P Q O))(hU:MapU w (.map um) (ordU P Q))(hl:HasBs n lo w lv σ)(hsz:bsz σ≤1048576)(r:Bool)(hr:r=true↔SubP P Q O σ):
  Calls Tryz.prog 45 #[.agg #[.map mm,.slice A no c,.map um],lv] w fun e w'=>e=.returned (.bool r)∧Below w.heap.size w w':=by
 obtain ⟨m,hm⟩:=e_ (σ.length);obtain ⟨L,cl,rfl,_⟩:=HasR.shape hl hm.symm;have bd:m≤1048576:=by have:=qoq σ;omega
 obtain ⟨W,hW⟩:=e_ (w.alloc (.cells #[.map mm,.slice A no c,.map um] 94));have aq:=fr1_ hW;have hX:=fr2_ hW;have be:=fr3_ hW;have ak:=z_ aq;have HX:Hid (∀ w3,Below W.heap.size W w3→w3.cell? ⟨w.heap.size,0,none⟩=some (.map mm)∧w3.cell? ⟨w.heap.size,1,none⟩=some (.slice A no c)∧w3.cell? ⟨w.heap.size,2,none⟩=some (.map um)):=z_ (fun w3 h3=>tsl.box3 ((h3.block _ o_).trans hX));have HM:=z_ hm;have HR:=z_ hr
 have au:Hid (∀ j,j<m→∃ (g o:Nat),L=some ⟨g,o,none⟩∧∃ (A1:Option Addr) (c1:Nat) (A2:Option Addr) (c2:Nat),HasTs n lo w (.slice A1 (σ.getD j default).v.args.length c1) (σ.getD j default).v.args∧qa2 (σ.getD j default).v.args≤2097152∧(∀ w3,Below w.heap.size w w3→Cells8 w3 g (o+j*8) (σ.getD j default) A1 c1 A2 c2)∧
   (∀ (b:Bool),(b=true↔qe8 P Q O (σ.getD j default))→∀ w3,Below w.heap.size w w3→Calls Tryz.prog 91 #[.agg #[.map mm,.slice A no c,.map um],.pointer (some ⟨g,o+j*8,none⟩)] w3 fun e w'=>e=.returned (.bool b)∧Below w3.heap.size w3 w')):=z_ (fun j hj=>by
  obtain ⟨g,o,A1,c1,A2,c2,e,hg,ah,h1,h2,h3,h4⟩:=qdc hl hj;have bf:=qqf (L:=σ) (j:=j) o_;refine ⟨g,o,e,A1,c1,A2,c2,h1,by omega,fun w3 ad=>ah.below ad,fun b hb w3 ad=>?_⟩
  exact qBs P Q O mm um A no c (σ.getD j default) g (o+j*8) A1 c1 A2 c2 w3 (hM.below ad) (hU.below ad) (ah.below ad) (h2.below n_ ad) h3 h4 o_ b hb)
 clear hM hU hl hsz hr hX aq hm;go_enter Tryz.func45,Tryz.ntmps45
 by_cases h8:8<m
 ·have d0:decide ((8:Int)<(m:Int))=true:=d_
  have HF:Hid (r=false):=z_ (by
   cases r with
   | false=>rfl
   | true=>have h1:=(HR.out.1 rfl).1;have:=HM.out;omega)
  go_wp2;go_ret;refine ⟨qa0 HF.out.symm,?_⟩;rw [← hW];exact ak.out
 have d0:decide ((8:Int)<(m:Int))=false:=f_;go_wp2;rw [← hW];clear hW;go_loopw [11] (fun aU wr=>∃ j:Nat,aU=.int .i64 j∧j≤m∧Hid (∀ i,i<j→qe8 P Q O (σ.getD i default)∧(0<i→cmp (σ.getD (i-1) default).v (σ.getD i default).v<0))∧Hid (Below W.heap.size W wr)) (fun i _=>m-(intOf i).toNat)
 case atStart=>exact ⟨0,rfl,y_,z_ (fun i hi=>absurd hi (Nat.not_lt_zero _)),z_ b_⟩
 case round=>
  obtain ⟨j,rfl,hj,HQ,HB⟩:=hrel;have ac:=z_ (ak.out.trans (HB.out.mono ak.out.size));by_cases aV:j<m
  ·have d1:decide ((j:Int)<(m:Int))=true:=d_
   obtain ⟨b,hb⟩:=x_ (qe8 P Q O (σ.getD j default));obtain ⟨g,o,rfl,A1,c1,A2,c2,hv,av,ah,aw⟩:=au.out j aV;have HV:=z_ hv;have bg:=z_ av;have aW:=z_ ah;have ax:=aw b hb;have ae:Hid (∀ t:BoxC (Below wr.heap.size wr),Calls Tryz.prog 91 #[.agg #[.map mm,.slice A no c,.map um],.pointer (some ⟨g,o+j*8,none⟩)] t.W fun e w'=>e=.returned (.bool b)∧Below t.W.heap.size t.W w'):=z_ (fun t=>ax t.W (ac.out.trans (t.h.mono ac.out.size)));have al:=z_ hb;have i1:(0:Int)≤(j:Int):=o_;have i2:(j:Int)<(m:Int):=o_;have z0:=fun t:BoxC (Below wr.heap.size wr)=>(HX.out t.W (HB.out.trans (t.h.mono HB.out.size))).1
   have z1:=fun t:BoxC (Below wr.heap.size wr)=>(HX.out t.W (HB.out.trans (t.h.mono HB.out.size))).2.1
   have z2:=fun t:BoxC (Below wr.heap.size wr)=>(HX.out t.W (HB.out.trans (t.h.mono HB.out.size))).2.2
   have nb:Nonempty (BoxC (Below wr.heap.size wr)):=⟨⟨_,Below.refl _ _⟩⟩;clear hv av ah aw ax hb;cases b with
   | false=>
    have HF:Hid (r=false):=z_ (by
     cases r with
     | false=>rfl
     | true=>exact absurd (al.out.2 ((HR.out.1 rfl).2 j Af_).1) (by simp))
    go_wp2_with fail
    refine qa1 (C:=Below wr.heap.size wr) k_ k_ b_.drew ?_;repeat go_big_quiet_step ((go_at_call 91;exact (ae.out _).mono (fun _ _ h=>⟨h.1,BoxC.step _ h.2⟩)))
    refine wpQuiet_nil ?_;rintro w5 ⟨t5,rfl⟩;have af:=z_ t5.h;clear z0 z1 z2 nb ae;exact c98_
   | true=>
    have ay:Hid (qe8 P Q O (σ.getD j default)):=z_ (al.out.1 rfl);clear al;by_cases am:j=0
    ·have d2:decide (0<j)=false:=f_
     have an:Hid (∀ i,i<j+1→qe8 P Q O (σ.getD i default)∧(0<i→cmp (σ.getD (i-1) default).v (σ.getD i default).v<0)):=z_ (fun i hi=>by
      obtain rfl:i=j:=o_
      exact ⟨ay.out,fun h=>by omega⟩)
     have bh:=z_ am;clear am;go_wp2_with fail
     refine qa1 (C:=Below wr.heap.size wr) k_ k_ b_.drew ?_;repeat go_big_quiet_step ((go_at_call 91;exact (ae.out _).mono (fun _ _ h=>⟨h.1,BoxC.step _ h.2⟩)))
     refine wpQuiet_nil ?_;rintro w5 ⟨t5,rfl⟩;have af:=z_ t5.h;clear z0 z1 z2 nb ae;exact c96_
    ·obtain ⟨k,hk⟩:∃ k,j=k+1:=⟨j-1,by omega⟩
     have d2:decide (0<j)=true:=d_;have i3:IntKind.i64.wrap ((j:Int)-1)=(k:Int):=by rw [qcf _ o_ o_];omega
     have i4:(0:Int)≤(k:Int):=o_;have i5:(k:Int)<(m:Int):=o_;obtain ⟨g',o',e',az,aA,ao,ap,aB,ai,aj,_⟩:=au.out k o_;have aX:g=g'∧o=o':=by
      injection e' with e'
      injection e' with e1 e2 _
      exact ⟨e1,e2⟩
     obtain ⟨rfl,rfl⟩:=aX;obtain ⟨s,hs⟩:=e_ (cmp (σ.getD k default).v (σ.getD j default).v)
     have ab:Hid (∀ t:BoxC (Below wr.heap.size wr),Calls Tryz.prog 92 #[aggB (σ.getD k default) (.slice az (σ.getD k default).v.args.length aA) (.slice ao (σ.getD k default).t.args.length ap),aggB (σ.getD j default) (.slice A1 (σ.getD j default).v.args.length c1) (.slice A2 (σ.getD j default).t.args.length c2)] t.W fun e w'=>e=.returned (.int .i64 s)∧Below t.W.heap.size t.W w'):=z_ (fun t=>by
      rw [hs];have aC:=ac.out.trans (t.h.mono ac.out.size)
      exact (qxw (σ.getD k default) (σ.getD j default) _ _ ao _ ap A2 _ c2 t.W (aB.below n_ aC) (HV.out.below n_ aC) ai).mono (fun _ _ h=>⟨h.1,h.2.below⟩))
     have aa:Hid (∀ t:BoxC (Below wr.heap.size wr),Cells8 t.W g (o+k*8) (σ.getD k default) az aA ao ap∧Cells8 t.W g (o+j*8) (σ.getD j default) A1 c1 A2 c2):=z_ (fun t=>⟨aj t.W (ac.out.trans (t.h.mono ac.out.size)),aW.out t.W (ac.out.trans (t.h.mono ac.out.size))⟩);have aD:Hid (s=cmp (σ.getD k default).v (σ.getD j default).v):=z_ hs;have HK:=z_ hk;unfold aggB at ab;obtain ⟨x,hx⟩:=e_ (σ.getD k default);obtain ⟨y,hy⟩:=e_ (σ.getD j default);rw [← hx,← hy] at ab aa;clear aB ai aj hs hk am e' hx hy;unfold Cells8 at aa;obtain ⟨x1,aE⟩:=e_ (x.v.op);rw [← aE] at ab aa;clear aE;obtain ⟨x2,aF⟩:=e_ (x.v.name);rw [← aF] at ab aa;clear aF;obtain ⟨x3,aG⟩:=e_ (x.v.sort);rw [← aG] at ab aa;clear aG;obtain ⟨x4,aH⟩:=e_ (x.v.args.length);rw [← aH] at ab aa;clear aH;obtain ⟨x5,aI⟩:=e_ (x.t.op);rw [← aI] at ab aa;clear aI;obtain ⟨x6,aJ⟩:=e_ (x.t.name);rw [← aJ] at ab aa;clear aJ;obtain ⟨x7,aK⟩:=e_ (x.t.sort);rw [← aK] at ab aa;clear aK;obtain ⟨x8,aL⟩:=e_ (x.t.args.length);rw [← aL] at ab aa;clear aL;obtain ⟨y1,aM⟩:=e_ (y.v.op);rw [← aM] at ab aa;clear aM;obtain ⟨y2,aN⟩:=e_ (y.v.name);rw [← aN] at ab aa;clear aN;obtain ⟨y3,aO⟩:=e_ (y.v.sort);rw [← aO] at ab aa;clear aO;obtain ⟨y4,aP⟩:=e_ (y.v.args.length);rw [← aP] at ab aa;clear aP;obtain ⟨y5,aQ⟩:=e_ (y.t.op);rw [← aQ] at ab aa;clear aQ;obtain ⟨y6,aR⟩:=e_ (y.t.name);rw [← aR] at ab aa;clear aR;obtain ⟨y7,aS⟩:=e_ (y.t.sort);rw [← aS] at ab aa;clear aS;obtain ⟨y8,aT⟩:=e_ (y.t.args.length);rw [← aT] at ab aa;clear aT;have c0:=fun t:BoxC (Below wr.heap.size wr)=>(aa.out t).1.1.1
     have aY:=fun t:BoxC (Below wr.heap.size wr)=>(aa.out t).1.1.2.1
     have aZ:=fun t:BoxC (Below wr.heap.size wr)=>(aa.out t).1.1.2.2.1
     have c3:=fun t:BoxC (Below wr.heap.size wr)=>(aa.out t).1.1.2.2.2
     have c4:=fun t:BoxC (Below wr.heap.size wr)=>(aa.out t).1.2.1
     have c5:=fun t:BoxC (Below wr.heap.size wr)=>(aa.out t).1.2.2.1
     have c6:=fun t:BoxC (Below wr.heap.size wr)=>(aa.out t).1.2.2.2.1
     have c7:=fun t:BoxC (Below wr.heap.size wr)=>(aa.out t).1.2.2.2.2
     have c8:=fun t:BoxC (Below wr.heap.size wr)=>(aa.out t).2.1.1
     have c9:=fun t:BoxC (Below wr.heap.size wr)=>(aa.out t).2.1.2.1
     have a6:=fun t:BoxC (Below wr.heap.size wr)=>(aa.out t).2.1.2.2.1
     have a7:=fun t:BoxC (Below wr.heap.size wr)=>(aa.out t).2.1.2.2.2
     have a8:=fun t:BoxC (Below wr.heap.size wr)=>(aa.out t).2.2.1
     have ba:=fun t:BoxC (Below wr.heap.size wr)=>(aa.out t).2.2.2.1
     have bb:=fun t:BoxC (Below wr.heap.size wr)=>(aa.out t).2.2.2.2.1
     have bc:=fun t:BoxC (Below wr.heap.size wr)=>(aa.out t).2.2.2.2.2
     go_wp2_with fail
     refine qa1 (C:=Below wr.heap.size wr) k_ k_ b_.drew ?_;repeat go_big_quiet_step (first|(go_at_call 91;exact (ae.out _).mono (fun _ _ h=>⟨h.1,BoxC.step _ h.2⟩))|(go_at_call 92;exact (ab.out _).mono (fun _ _ h=>⟨h.1,BoxC.step _ h.2⟩)))
     refine wpQuiet_nil ?_;rintro w5 ⟨t5,rfl⟩;have af:=z_ t5.h;clear z0 z1 z2 nb ae c0 aY aZ c3 c4 c5 c6 c7 c8 c9 a6 a7 a8 ba bb bc aa ab;by_cases ag:s<0
     ·have d3:decide ((0:Int)≤s)=false:=f_
      have d4:decide (s<0)=true:=decide_eq_true ag;have d5:¬ (0≤s):=o_
      have an:Hid (∀ i,i<j+1→qe8 P Q O (σ.getD i default)∧(0<i→cmp (σ.getD (i-1) default).v (σ.getD i default).v<0)):=z_ (fun i hi=>by
       by_cases e:i=j
       ·subst e
        refine ⟨ay.out,fun _=>?_⟩;have e2:i-1=k:=by have:=HK.out;omega
        rw [e2,← aD.out];exact ag
       ·exact HQ.out i o_)
      clear ag;exact c96_
     ·have d3:decide ((0:Int)≤s)=true:=d_
      have d4:decide (s<0)=false:=decide_eq_false ag;have d5:0≤s:=o_
      have HF:Hid (r=false):=z_ (by
       cases r with
       | false=>rfl
       | true=>
        have h1:=((HR.out.1 rfl).2 j Af_).2 (by have:=HK.out;omega);have e2:j-1=k:=by have:=HK.out;omega
        rw [e2,← aD.out] at h1
        exact absurd h1 ag)
      clear ag;exact c98_
  ·have d1:decide ((j:Int)<(m:Int))=false:=f_
   have HF:Hid (r=true):=z_ (HR.out.2 ⟨by have:=HM.out;omega,fun i hi=>HQ.out i Af_⟩);go_wp2;go_ret;exact ⟨qa0 HF.out.symm,ac.out⟩
end isub
end Go.Proofs.YtiilamngcoegiaaGreat
