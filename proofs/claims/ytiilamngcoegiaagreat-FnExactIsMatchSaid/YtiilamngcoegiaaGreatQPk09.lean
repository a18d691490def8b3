/- parts -/
import Derived.Test.YtiilamngcoegiaaGreatQPk05
import Derived.Shelf.Abstract
namespace Go.Proofs.YtiilamngcoegiaaGreat
open Go.ChangeShapes Go.WideShapes Go.ChangeAt Go.RowKit
variable {N lo g o:Nat}{w W0 W1 w':World}{F F0:List Nat}{v:Value}
namespace termsd
open mem dec rowl trm terml termb termt termro
theorem qga (h:w.cell? ⟨g,o,none⟩=some v)(hb:w'.heap[g]? =w.heap[g]?):w'.cell? ⟨g,o,none⟩=some v:=(World.cell?_of_block (a:=⟨g,o,none⟩) hb).trans h
theorem qfi (h:w.frozen? ⟨g,o,none⟩=false)(hb:w'.heap[g]? =w.heap[g]?):w'.frozen? ⟨g,o,none⟩=false:=(World.frozen?_of_block (a:=⟨g,o,none⟩) hb).trans h
theorem qAy{W:World}{t:TermM}(h:HasTs N lo w v t.args)(hb:Below w.heap.size w W)(hg:g<W.heap.size)(hB:Bnd t)(hd:1+depth t≤1073741824)(c0:W.cell? ⟨g,0,none⟩=some (.int .i64 t.op))(c1:W.cell? ⟨g,1,none⟩=some (.string (bstr t.name)))(c2:W.cell? ⟨g,2,none⟩=some (.int .i64 t.sort))(c3:W.cell? ⟨g,3,none⟩=some v):qst N lo W (g,0,1) (t,1):=
 ⟨rfl,hd,hg,c0,c1,c2,v,c3,h.below n_ hb,hB⟩
theorem qi1 (t:TermM):depth t≤size t:=by
 have aa:∀ t,depth t≤size t:=by
  refine TermM.ind (fun o n s l ih=>?_);rw [qeo,qbe];have:depths l≤qa2 l:=by
   induction l with
   | nil=>simp [depths]
   | cons a l ab=>
    have h1:=ih a (by simp);have h2:=ab (fun t ht=>ih t (by simp [ht]));have e:depths (a::l)=max (depth a) (depths l):=rfl;rw [e];simp only [qa2,List.map_cons,List.sum_cons] at h2 ⊢;omega
  omega
 exact aa t
end termsd

namespace graml
set_option maxRecDepth 20000
set_option maxHeartbeats 4000000
open mem dec rowl trm trmv terml termb termt termx gram gramo
theorem qp7 (L:List TermM):Srt L↔∀ i,i+1<L.length→cmp (L.getD i default) (L.getD (i+1) default)≤0:=by
 constructor
 ·intro h i hi
  rw [qai o_,qai hi];exact List.pairwise_iff_getElem.1 h i (i+1) o_ hi o_
 ·intro h
  refine List.pairwise_iff_getElem.2 (fun i j hi hj ab=>?_);have aa:∀ d,i+1+d<L.length→cmp (L.getD i default) (L.getD (i+1+d) default)≤0:=by
   intro d;induction d with
   | zero=>intro hd;exact h i hd
   | succ d ih=>
    intro hd;exact qct _ _ _ (ih o_) (h (i+1+d) o_)
  have:=aa (j-i-1) o_;rw [show i+1+(j-i-1)=j by omega,qai hi,qai hj] at this;exact this
theorem qnf (L:List TermM)(v:Value)(w:World)(h:HasTs N lo w v L)(hsz:qa2 L≤2097152)(r:Bool)(hr:r=true↔Srt L):
  Calls Tryz.prog 196 #[v,.func (.func 115) #[] #[]] w fun e w'=>e=.returned (.bool r)∧Below w.heap.size w w':=by
 have eg:∀ args w,(callFunc 115 args).run Tryz.prog w=.ok (.enter 115 args) w:=Go.Proofs.enters_of Tryz.func115 k_ rfl;obtain ⟨n,hn⟩:=e_ (L.length);obtain ⟨A,c,rfl,h⟩:=HasR.shape h hn.symm;have hl:=h.len.2.1;rw [qp7,← hn] at hr;have HR:=z_ hr
 have ai:Hid (∀ j,j<n→∃ (g o:Nat) (A2:Option Addr) (c2 k:Nat),A=some ⟨g,o,none⟩∧g<w.heap.size∧N=k+1∧w.cell? ⟨g,o+j*4,none⟩=some (.int .i64 (L.getD j default).op)∧w.cell? ⟨g,o+j*4+1,none⟩=some (.string (bstr (L.getD j default).name))∧
   w.cell? ⟨g,o+j*4+2,none⟩=some (.int .i64 (L.getD j default).sort)∧w.cell? ⟨g,o+j*4+3,none⟩=some (.slice A2 (L.getD j default).args.length c2)∧HasTs k lo w (.slice A2 (L.getD j default).args.length c2) (L.getD j default).args∧qa2 (L.getD j default).args≤2097152):=z_ (by
  intro j hj;obtain ⟨k,g,o,A2,c2,h0,h1,_,h2,h3,h4,h5,h6,h7,_⟩:=qal h hj;refine ⟨g,o,A2,c2,k,h1,h2,h0,h3,h4,h5,h6,h7,?_⟩;have h9:=qam (l:=L) (j:=j) o_;have ap:=termro.qao (L.getD j default)
  omega)
 clear h hn hr;by_cases hz:n≤1
 ·have HT:Hid (r=true):=z_ (HR.out.2 (fun i hi=>by omega))
  have hcs:n=0∨n=1:=o_;clear hz;rcases hcs with rfl|rfl
  all_goals
   go_enter Tryz.func196,Tryz.ntmps196
   go_wp2;go_loopw [5] (fun v5 wr=>∃ z:Int,v5=.int .i64 z∧z≤0∧wr=w) (fun _ _=>0)
   case atStart=>exact ⟨_,rfl,by omega,rfl⟩
   case round=>
    obtain ⟨z,rfl,hz,rfl⟩:=hrel;have d1:decide (0<z)=false:=f_;have d2:¬ 0<z:=o_;go_wp2;go_ret;exact ⟨qa0 HT.out.symm,Below.refl _ _⟩
 ·obtain ⟨m,hm⟩:∃ m,m+1=n:=⟨n-1,by omega⟩
  have hw:IntKind.i64.wrap ((n:Int)-1)=(m:Int):=by rw [← hm,IntWalk.i64_in _ o_];omega
  have HM:=z_ hm;have aq:m<n:=o_;clear hm hz;go_enter Tryz.func196,Tryz.ntmps196
  go_wp2;go_loopw [5] (fun v5 wr=>∃ k:Nat,v5=.int .i64 k∧k≤m∧Hid (∀ i,k≤i→i+1<n→cmp (L.getD i default) (L.getD (i+1) default)≤0)∧Hid (Below w.heap.size w wr)) (fun k _=>(intOf k).toNat)
  case atStart=>exact ⟨m,rfl,Nat.le_refl _,z_ (fun i h1 h2=>by have:=HM.out;omega),z_ b_⟩
  case round=>
   obtain ⟨k,rfl,hk,ac,HB⟩:=hrel;by_cases au:k≤0
   ·have HT:Hid (r=true):=z_ (HR.out.2 (fun i hi=>ac.out i o_ hi))
    have d1:decide ((0:Int)<(k:Int))=false:=f_;have d3:decide (0<k)=false:=f_;have d4:¬ 0<k:=o_;go_wp2;go_ret;exact ⟨qa0 HT.out.symm,HB.out⟩
   ·obtain ⟨p,hp⟩:∃ p,p+1=k:=⟨k-1,by omega⟩
    have d1:decide ((0:Int)<(k:Int))=true:=d_;have d3:decide (0<k)=true:=d_;have d4:0<k:=o_;have av:IntKind.i64.wrap ((k:Int)-1)=(p:Int):=by rw [← hp,IntWalk.i64_in _ o_];omega
    obtain ⟨g,o,A1,c1,N1,rfl,hg,am,e0,e1,e2,e3,ae,aj⟩:=ai.out p o_;obtain ⟨g',o',A2,c2,N2,hA,_,an,f0,f1,f2,f3,af,ag⟩:=ai.out k o_;simp only [Option.some.injEq,Addr.mk.injEq,and_true] at hA;obtain ⟨rfl,rfl⟩:=hA;obtain rfl:N1=N2:=o_;have aa:=HB.out;obtain ⟨x,hx⟩:=e_ (L.getD p default);obtain ⟨u,hu⟩:=e_ (L.getD k default);rw [← hx] at e0 e1 e2 e3 ae aj;rw [← hu] at f0 f1 f2 f3 af ag;have ab:g<wr.heap.size:=w_ hg aa.size;have kc:∀ y,wr.cell? ⟨g,y,none⟩=w.cell? ⟨g,y,none⟩:=fun y=>aa.cell (p:=⟨g,y,none⟩) hg
    have r0:∀ t:BoxC (Below wr.heap.size wr),t.W.cell? ⟨g,o+p*4,none⟩=some (.int .i64 x.op):=fun t=>t.cell ((kc _).trans e0) ab
    have r1:∀ t:BoxC (Below wr.heap.size wr),t.W.cell? ⟨g,o+p*4+1,none⟩=some (.string (bstr x.name)):=fun t=>t.cell ((kc _).trans e1) ab
    have r2:∀ t:BoxC (Below wr.heap.size wr),t.W.cell? ⟨g,o+p*4+2,none⟩=some (.int .i64 x.sort):=fun t=>t.cell ((kc _).trans e2) ab
    have r3:∀ t:BoxC (Below wr.heap.size wr),t.W.cell? ⟨g,o+p*4+3,none⟩=some (.slice A1 x.args.length c1):=fun t=>t.cell ((kc _).trans e3) ab
    have s0:∀ t:BoxC (Below wr.heap.size wr),t.W.cell? ⟨g,o+k*4,none⟩=some (.int .i64 u.op):=fun t=>t.cell ((kc _).trans f0) ab
    have s1:∀ t:BoxC (Below wr.heap.size wr),t.W.cell? ⟨g,o+k*4+1,none⟩=some (.string (bstr u.name)):=fun t=>t.cell ((kc _).trans f1) ab
    have s2:∀ t:BoxC (Below wr.heap.size wr),t.W.cell? ⟨g,o+k*4+2,none⟩=some (.int .i64 u.sort):=fun t=>t.cell ((kc _).trans f2) ab
    have s3:∀ t:BoxC (Below wr.heap.size wr),t.W.cell? ⟨g,o+k*4+3,none⟩=some (.slice A2 u.args.length c2):=fun t=>t.cell ((kc _).trans f3) ab
    obtain ⟨q,hq⟩:=e_ (cmp u x)
    have ad:Hid (∀ t:BoxC (Below wr.heap.size wr),Calls Tryz.prog 115 #[.agg #[.int .i64 u.op,.string (bstr u.name),.int .i64 u.sort,.slice A2 u.args.length c2],.agg #[.int .i64 x.op,.string (bstr x.name),.int .i64 x.sort,.slice A1 x.args.length c1]] t.W fun e w'=>e=.returned (.int .i64 q)∧Below t.W.heap.size t.W w'):=z_ (fun t=>by
     have hb:=aa.trans (t.h.mono aa.size);rw [hq]
     exact (qcu u x _ _ t.W (af.below n_ hb) (ae.below n_ hb) ag).mono (fun _ _ h=>⟨h.1,h.2.below⟩))
    have HQ:Hid (q=- cmp (L.getD p default) (L.getD k default)):=z_ (by rw [hq,hx,hu,qb6 (L.getD p default)]);have HP:=z_ hp;have nb:Nonempty (BoxC (Below wr.heap.size wr)):=⟨⟨_,Below.refl _ _⟩⟩;have i1:(0:Int)≤(p:Int):=o_;have i2:(p:Int)<(n:Int):=o_;have i3:(0:Int)≤(k:Int):=o_;have i4:(k:Int)<(n:Int):=o_;have ak:=aa.size;clear e0 e1 e2 e3 f0 f1 f2 f3 ae af aj ag aa kc hx hu hq hp am an;by_cases al:q<0
    ·have d2:decide (q<0)=true:=decide_eq_true al
     have HF:Hid (r=false):=z_ (by
      cases ao:r with
      | false=>rfl
      | true=>
       have h1:=HR.out.1 ao p Bc_;have h2:=HQ.out;have h3:=HP.out;rw [h3] at h1
       omega)
     go_wp2_with fail
     refine qa1 (C:=Below wr.heap.size wr) k_ k_ b_.drew ?_;repeat (go_big_quiet_step ((go_at_call 115;exact (ad.out _).mono (fun _ _ h=>⟨h.1,BoxC.step _ h.2⟩))))
     refine wpQuiet_nil ?_;rintro w5 ⟨t5,rfl⟩;have ah:=z_ (HB.out.trans (t5.h.mono ak));clear r0 r1 r2 r3 s0 s1 s2 s3 nb ad;go_wp2;go_ret;exact ⟨qa0 HF.out.symm,ah.out⟩
    ·have d2:decide (q<0)=false:=decide_eq_false al
     go_wp2_with fail
     refine qa1 (C:=Below wr.heap.size wr) k_ k_ b_.drew ?_;repeat (go_big_quiet_step ((go_at_call 115;exact (ad.out _).mono (fun _ _ h=>⟨h.1,BoxC.step _ h.2⟩))))
     refine wpQuiet_nil ?_;rintro w5 ⟨t5,rfl⟩;have ah:=z_ (HB.out.trans (t5.h.mono ak))
     have HA:Hid (∀ i,p≤i→i+1<n→cmp (L.getD i default) (L.getD (i+1) default)≤0):=z_ (fun i h1 h2=>by
      by_cases e:i=p
      ·subst e
       have h3:=HQ.out;have h4:=HP.out;rw [h4];omega
      ·exact ac.out i Bc_ h2)
     clear r0 r1 r2 r3 s0 s1 s2 s3 nb ad;go_wp2;go_roundw
     case measure=>have:=HP.out;simp [intOf];omega
     case rel=>exact ⟨p,by go_num,by have:=HP.out;omega,HA,ah⟩
theorem qp8{x:Nat}{v0 v1 v2 v3 v4 v5 v6 v7 v8 v9 aa:Value}{t:TypeId}(h:w.heap[x]? =some (.cells #[v0,v1,v2,v3,v4,v5,v6,v7,v8,v9,aa] t (0,0))):w.cell? ⟨x,0,none⟩=some v0∧w.cell? ⟨x,1,none⟩=some v1∧w.cell? ⟨x,2,none⟩=some v2∧w.cell? ⟨x,3,none⟩=some v3∧w.cell? ⟨x,4,none⟩=some v4∧w.cell? ⟨x,5,none⟩=some v5∧w.cell? ⟨x,6,none⟩=some v6∧w.cell? ⟨x,7,none⟩=some v7∧w.cell? ⟨x,8,none⟩=some v8∧w.cell? ⟨x,9,none⟩=some v9∧w.cell? ⟨x,10,none⟩=some aa:=
 ⟨h_ w x 0 _ _ _ h,h_ w x 1 _ _ _ h,h_ w x 2 _ _ _ h,h_ w x 3 _ _ _ h,h_ w x 4 _ _ _ h,h_ w x 5 _ _ _ h,h_ w x 6 _ _ _ h,h_ w x 7 _ _ _ h,h_ w x 8 _ _ _ h,h_ w x 9 _ _ _ h,h_ w x 10 _ _ _ h⟩
def isUB (u:Int)(t:TermM):Bool:=decide (u≠0∧t.op=u-1)
def isAB (a:Bool)(i:Nat)(t:TermM):Bool:=a&&decide (t.op=i)
theorem qsu (nm:List UInt8)(A:Option Addr)(n c:Nat)(a b:Bool)(u:Int)(hu:I64 u)(ao:0≤u)(i s0 s1 s2 s3 s4:Nat)(L:List TermM)(v:Value)(w:World)(h:HasTs N lo w v L)(hsz:qa2 L≤2097152)(s:Bool)(hs:s=true↔Srt L)(r:Bool)(hr:(!(L.any (isUB u))&&!(L.any (isAB a i))&&(!b || s))=r):
  Calls Tryz.prog 158 #[aggE nm A n c a b u i s0 s1 s2 s3 s4,v] w fun e w'=>e=.returned (.bool r)∧Below w.heap.size w w':=by
 have ai:∀ args w,(callFunc 194 args).run Tryz.prog w=.ok (.enter 194 args) w:=Go.Proofs.enters_of Tryz.func194 k_ rfl;have aj:∀ args w,(callFunc 195 args).run Tryz.prog w=.ok (.enter 195 args) w:=Go.Proofs.enters_of Tryz.func195 k_ rfl;have af:=z_ (fun W (hW:Below w.heap.size w W)=>qg7 194 #[aggE nm A n c a b u i s0 s1 s2 s3 s4] #[] ai (isUB u) L v W (h.below n_ hW) (fun t _ B m cb W' _=>by simpa using qk6 nm A n c a b u hu ao i s0 s1 s2 s3 s4 t B m cb (isUB u t) rfl W') _ rfl);have ak:=z_ (fun W (hW:Below w.heap.size w W)=>qg7 195 #[aggE nm A n c a b u i s0 s1 s2 s3 s4] #[] aj (isAB a i) L v W (h.below n_ hW) (fun t _ B m cb W' _=>by simpa using qj0 nm A n c a b u i s0 s1 s2 s3 s4 t B m cb (isAB a i t) rfl W') _ rfl);have ap:=z_ (fun W (hW:Below w.heap.size w W)=>qnf L v W (h.below n_ hW) hsz s hs);obtain ⟨Av,cv,rfl,_⟩:=HasR.shape h rfl;obtain ⟨p,hp⟩:=e_ (L.any (isUB u));obtain ⟨q,hq⟩:=e_ (L.any (isAB a i));rw [← hp] at af hr;rw [← hq] at ak hr;have HR:=z_ hr;clear h hp hq hr hs ai aj;have al:Below w.heap.size w (w.alloc (.cells #[.string (bstr nm),.slice A n c,.bool a,.bool b,.int .i64 u,.int .i64 (i:Int),.int .i64 (s0:Int),.int .u16 (s1:Int),.int .u16 (s2:Int),.int .u16 (s3:Int),.int .u16 (s4:Int)] 181)):=b_.alloc n_ _;have ab:=z_ al;clear al;cases p with
 | true=>
  go_enter Tryz.func158,Tryz.ntmps158
  go_wp2_with fail
  refine (af.out _ ab.out).mono ?_;rintro e w1 ⟨rfl,ac⟩;have aa:=ab.out.trans (ac.mono ab.out.size);clear ac;go_wp2;go_ret;exact ⟨qa0 (by rw [← HR.out];rfl),aa⟩
 | false=>
  go_enter Tryz.func158,Tryz.ntmps158
  go_wp2_with fail
  refine (af.out _ ab.out).mono ?_;rintro e w1 ⟨rfl,ac⟩;have aa:=ab.out.trans (ac.mono ab.out.size);have h1:w1.heap[w.heap.size]? =some (.cells #[.string (bstr nm),.slice A n c,.bool a,.bool b,.int .i64 u,.int .i64 (i:Int),.int .i64 (s0:Int),.int .u16 (s1:Int),.int .u16 (s2:Int),.int .u16 (s3:Int),.int .u16 (s4:Int)] 181 (0,0)):=(ac.block _ (by simp)).trans (qa5 _ _ _ rfl);have aq:=(q_ h1);obtain ⟨k0,k1,k2,k3,k4,k5,k6,k7,k8,k9,am⟩:=qp8 h1;have ag:=z_ aa;have au:=z_ h1;clear ac aa h1;go_wp2_with fail
  refine (ak.out _ ag.out).mono ?_;rintro e w2 ⟨rfl,ah⟩;have ad:=ag.out.trans (ah.mono ag.out.size);have h2:=(ah.block _ aq).trans au.out;clear k0 k1 k2 k3 k4 k5 k6 k7 k8 k9 am;obtain ⟨k0,k1,k2,k3,k4,k5,k6,k7,k8,k9,am⟩:=qp8 h2;have ae:=z_ ad;clear ah ad h2;cases q with
  | true=>
   go_wp2;go_ret;exact ⟨qa0 (by rw [← HR.out];rfl),ae.out⟩
  | false=>
   cases b with
   | false=>
    go_wp2;go_ret;exact ⟨qa0 (by rw [← HR.out];rfl),ae.out⟩
   | true=>
    go_wp2_with fail
    refine (ap.out _ ae.out).mono ?_;rintro e w3 ⟨rfl,an⟩;have HF:=z_ (ae.out.trans (an.mono ae.out.size));clear an;go_wp2;go_ret;exact ⟨qa0 (by rw [← HR.out];simp),HF.out⟩
end graml

namespace termev
set_option maxRecDepth 50000
open mem dec rowl trm terml termb termt termx termz termro termsd
def EntO (N lo:Nat)(W0 W1:World)(F:List Nat)(e:Ent)(p:TermM×Nat):Prop:=e.2.2=p.2∧p.2+depth p.1≤1073741824∧e.1<W1.heap.size∧e.1 ∉ F∧W1.cell? ⟨e.1,e.2.1,none⟩=some (.int .i64 p.1.op)∧W1.cell? ⟨e.1,e.2.1+1,none⟩=some (.string (bstr p.1.name))∧
 W1.cell? ⟨e.1,e.2.1+2,none⟩=some (.int .i64 p.1.sort)∧∃ v,W1.cell? ⟨e.1,e.2.1+3,none⟩=some v∧HasTs N lo W0 v p.1.args∧Bnd p.1
theorem qr1 {Q Q':Ent→TermM×Nat→Prop}(h:∀ e p,Q e p→Q' e p):∀ {L:List Ent} {T:Pend},AllE Q L T→AllE Q' L T
 | [],[],_=>trivial
 | _::_,_::_,⟨a,b⟩=>⟨h _ _ a,qr1 h b⟩
 | [],_::_,h'=>h'.elim
 | _::_,[],h'=>h'.elim
theorem qCd (hb:Below W0.heap.size W0 W1)(hF:∀ k∈F,W0.heap.size≤k)(e:Ent)(p:TermM×Nat)(h:qst N lo W0 e p):EntO N lo W0 W1 F e p:=by
 obtain ⟨h1,h2,h3,c0,c1,c2,v,c3,h4,h5⟩:=h;have k:∀ y,W1.cell? ⟨e.1,y,none⟩=W0.cell? ⟨e.1,y,none⟩:=fun y=>hb.cell (p:=⟨e.1,y,none⟩) h3
 exact ⟨h1,h2,w_ h3 hb.size,fun hm=>by have:=hF _ hm;omega,(k _).trans c0,(k _).trans c1,(k _).trans c2,v,(k _).trans c3,h4,h5⟩
theorem qng{G:List Nat}{a b c:World}(h:Chg F a b)(k:Chg G b c)(hG:∀ x∈G,x∈F∨a.heap.size≤x):Chg F a c:=
 ⟨k.os.trans h.os,k.tape.trans h.tape,k.output.trans h.output,Nat.le_trans h.size k.size,fun i hi hn=>(k.block i (w_ hi h.size) (fun hm=>by rcases hG i hm with h'|h';exact hn h';omega)).trans (h.block i hi hn)⟩
def ROE (W0 W1:World)(N lo:Nat)(F:List Nat)(J:Pend→World→Prop)(n:Nat)(S:List Nat)(L:List Ent)(w:World):Prop:=
 ∃ T:Pend,AllE (EntO N lo W0 W1 F) L T∧qbv T≤n∧n≤1073741824∧(∀ k∈S,W1.heap.size≤k∧k<w.heap.size)∧Chg F W1 w∧J T w
theorem qsy{J:Pend→World→Prop}(hb:Below W0.heap.size W0 W1)(hF:∀ k∈F,W0.heap.size≤k∧k<W1.heap.size)(hJ:∀ {T:Pend} {w w':World},J T w→(∀ k∈F,w'.heap[k]? =w.heap[k]?)→J T w')(vf:Nat)(cb:Array Value)(hv:∀ (e:Ent) (t:TermM) (d:Nat) (T:Pend) (w:World),EntO N lo W0 W1 F e (t,d)→Chg F W1 w→J ((t,d)::T) w→Calls Tryz.prog vf (#[qdi e]++cb) w fun ex w'=>∃ b,ex=.returned (.bool b)∧Chg F w w'∧J (if b then kidsP t d++T else T) w'):Visits vf cb (ROE W0 W1 N lo F J) where
 keep:=by
  rintro n S S' L w w' ⟨T,h1,h2,h3,h4,h5,h6⟩ hc hS;refine ⟨T,h1,h2,h3,fun k hk=>⟨?_,(hS k hk).2⟩,qng h5 hc (fun k hk=>.inr (h4 k hk).1),hJ h6 (fun k hk=>hc.block k (w_ (hF k hk).2 h5.size) (fun hm=>by have:=(hF k hk).2;have:=(h4 k hm).1;omega))⟩;rcases (hS k hk).1 with h|h
  ·exact (h4 k h).1
  ·exact Nat.le_trans h5.size h
 ent:=by
  rintro n S e L w ⟨T,h1,h2,h3,h4,h5,h6⟩;cases T with
  | nil=>exact h1.elim
  | cons p T=>
   obtain ⟨⟨a1,a2,a3,_⟩,hL⟩:=h1;have h8:=qcz T;have h9:=AllE.len hL;have ag:qbv (p::T)=size p.1+qbv T:=rfl;refine ⟨w_ a3 h5.size,fun hm=>by have:=(h4 _ hm).1;omega,by omega,h3,by omega⟩
 visit:=by
  rintro n S e L w ⟨T,h1,h2,h3,h4,h5,h6⟩;cases T with
  | nil=>exact h1.elim
  | cons p T=>
   obtain ⟨t,d⟩:=p;obtain ⟨hE,hL⟩:=h1;have af:=hE;obtain ⟨a1,a2,a3,a4,c0,c1,c2,v,c3,hh,ah⟩:=af;have hsz:qbv ((t,d)::T)=1+qa2 t.args+qbv T:=by rw [← qao];rfl
   refine ⟨n-1,by omega,(hv e t d T w hE h5 h6).mono ?_⟩;rintro ex w' ⟨b,rfl,hc,ac⟩;have aa:Chg F W1 w':=qng h5 hc (fun k hk=>.inl hk);have ad:∀ k∈S,W1.heap.size≤k∧k<w'.heap.size:=fun k hk=>⟨(h4 k hk).1,w_ (h4 k hk).2 hc.size⟩
   refine ⟨b,rfl,hc.size,fun k hk ab=>hc.block k ab (fun hm=>by have:=(hF k hm).2;have:=(h4 k hk).1;omega),?_⟩;cases b with
   | false=>exact .inl ⟨rfl,T,hL,by omega,by omega,ad,aa,ac⟩
   | true=>
    right
    obtain ⟨A,c,rfl,ae⟩:=HasR.shape hh rfl;have ai:=qas t;have aj:d+depth t≤1073741824:=a2;obtain ⟨g,o,hA,hK⟩:=qne (d:=d) ae (show d+1+depths t.args≤1073741824 by omega);have hcell:w'.cell? ⟨e.1,e.2.1+3,none⟩=some (.slice A t.args.length c):=(World.cell?_of_block (a:=⟨e.1,e.2.1+3,none⟩) (aa.block _ a3 a4)).trans c3;refine ⟨rfl,A,t.args.length,c,hcell,by have:=qat t.args;omega,ae.len.2.2,g,o,hA,kidsP t d++T,?_,?_,by omega,ad,aa,ac⟩
    ·rw [a1];exact AllE.append (qr1 (qCd hb (fun k hk=>(hF k hk).1)) hK) hL
    ·rw [qc1,qeu];omega
def JE (c hb:Nat)(fv:Value)(J:Pend→World→Prop)(Ans:Bool→Prop)(T:Pend)(w:World):Prop:=∃ a:Bool,w.cell? ⟨c,0,none⟩=some (.bool a)∧w.frozen? ⟨c,0,none⟩=false∧w.cell? ⟨hb,0,none⟩=some fv∧(a=true→J T w)∧(a=false→Ans false)
set_option maxHeartbeats 4000000 in
theorem qyh (f:Nat)(ab cap:Array Value)(eg:∀ args w,(callFunc f args).run Tryz.prog w=.ok (.enter f args) w)(c hb g o d:Nat)(a:Bool)(w:World)(h:w.cell? ⟨c,0,none⟩=some (.bool a))(hf:w.frozen? ⟨c,0,none⟩=false)(hh:w.cell? ⟨hb,0,none⟩=some (.func (.func f) ab cap))(F0:List Nat)(Q:Bool→World→Prop)(hv:a=true→∀ W,Below w.heap.size w W→Calls Tryz.prog f (ab.push (qdi (g,o,d))++cap) W fun ex w'=>∃ b,ex=.returned (.bool b)∧Chg F0 W w'∧Q b w')(ac:c ∉ F0∧hb ∉ F0)(ae:c≠hb):
  Calls Tryz.prog 155 (#[qdi (g,o,d)]++#[.pointer (some ⟨c,0,none⟩),.pointer (some ⟨hb,0,none⟩)]) w fun ex w'=>∃ b,ex=.returned (.bool b)∧Chg (c::F0) w w'∧w'.cell? ⟨c,0,none⟩=some (.bool b)∧w'.frozen? ⟨c,0,none⟩=false∧w'.cell? ⟨hb,0,none⟩=some (.func (.func f) ab cap)∧(a=false→b=false)∧(a=true→∃ w1,Q b w1∧∀ k,k≠c→w'.heap[k]? =w1.heap[k]?):=by
 have hc:=l_ h;have ad:=l_ hh;simp only [] at hc ad;unfold qdi ptr at hv ⊢;show Calls _ _ #[.agg #[.pointer (some ⟨g,o,none⟩),.int .i64 d],.pointer (some ⟨c,0,none⟩),.pointer (some ⟨hb,0,none⟩)] _ _;cases a with
 | false=>
  clear hv;go_enter Tryz.func155,Tryz.ntmps155
  go_wp2;go_ret;refine ⟨false,rfl,?_,?_,?_,?_,fun _=>rfl,fun e=>by cases e⟩
  ·exact (Chg.set (S:=c::F0) (w:=w) (by simp) (.bool false)).trans (Chg.of_below (b_.alloc n_ _))
  ·rw [((Below.refl (w.setCell ⟨c,0,none⟩ (.bool false)).heap.size _).alloc n_ _).cell (p:=⟨c,0,none⟩) (by show c<_;simpa [World.setCell] using hc)]
   exact World.cell?_setCell_same _ _ _ h
  ·rw [((Below.refl (w.setCell ⟨c,0,none⟩ (.bool false)).heap.size _).alloc n_ _).frozen (p:=⟨c,0,none⟩) (by show c<_;simpa [World.setCell] using hc),World.frozen?_setCell]
   exact hf
  ·rw [((Below.refl (w.setCell ⟨c,0,none⟩ (.bool false)).heap.size _).alloc n_ _).cell (p:=⟨hb,0,none⟩) (by show hb<_;simpa [World.setCell] using ad)]
   exact (World.cell?_setCell_other w ⟨c,0,none⟩ ⟨hb,0,none⟩ _ (fun e=>ae (congrArg Addr.block e))).trans hh
 | true=>
  have HV:=z_ (hv rfl);clear hv;go_enter Tryz.func155,Tryz.ntmps155
  go_wp2_with fail
  have af:Below w.heap.size w (w.alloc (.cells #[.pointer (some ⟨g,o,none⟩),.int .i64 d] 164)):=b_.alloc n_ _;refine (HV.out _ af).mono ?_;rintro e w1 ⟨b,rfl,ag,hq⟩;have aa:=(Chg.of_below af).trans ag;have k1:w1.cell? ⟨c,0,none⟩=some (.bool true):=(World.cell?_of_block (a:=⟨c,0,none⟩) (aa.block c hc ac.1)).trans h;have k2:w1.frozen? ⟨c,0,none⟩=false:=(World.frozen?_of_block (a:=⟨c,0,none⟩) (aa.block c hc ac.1)).trans hf;have k3:w1.cell? ⟨hb,0,none⟩=some (.func (.func f) ab cap):=(World.cell?_of_block (a:=⟨hb,0,none⟩) (aa.block hb ad ac.2)).trans hh
  have HF:Hid (Chg (c::F0) w (w1.setCell ⟨c,0,none⟩ (.bool b))∧(w1.setCell ⟨c,0,none⟩ (.bool b)).cell? ⟨c,0,none⟩=some (.bool b)∧(w1.setCell ⟨c,0,none⟩ (.bool b)).frozen? ⟨c,0,none⟩=false∧(w1.setCell ⟨c,0,none⟩ (.bool b)).cell? ⟨hb,0,none⟩=some (.func (.func f) ab cap)∧∃ w2,Q b w2∧∀ k,k≠c→(w1.setCell ⟨c,0,none⟩ (.bool b)).heap[k]? =w2.heap[k]?):=z_
   ⟨(aa.mono (fun k hk=>by simp [hk])).trans (Chg.set (by simp) _),World.cell?_setCell_same _ _ _ k1,by rw [World.frozen?_setCell];exact k2,(World.cell?_setCell_other w1 ⟨c,0,none⟩ ⟨hb,0,none⟩ _ (fun e=>ae (congrArg Addr.block e))).trans k3,w1,hq,fun k hk=>Below.heap_setCell w1 ⟨c,0,none⟩ _ k hk⟩
  clear ag hq aa k3 hh HV h hf;go_wp2;go_ret;obtain ⟨f1,f2,f3,f4,f5⟩:=HF.out;exact ⟨b,rfl,f1,f2,f3,f4,(fun e=>by cases e),fun _=>f5⟩
def qyi (f:Nat)(aa cap:Array Value)(W0 W1:World)(N lo:Nat)(F F0:List Nat)(J:Pend→World→Prop)(Ans:Bool→Prop):Prop:=
 ∀ (e:Ent) (t:TermM) (d:Nat) (T:Pend) (w:World),EntO N lo W0 W1 F e (t,d)→Chg F W1 w→J ((t,d)::T) w→Calls Tryz.prog f (aa.push (qdi e)++cap) w fun ex w'=>∃ b,ex=.returned (.bool b)∧Chg F0 w w'∧(b=true→J (kidsP t d++T) w')∧(b=false→Ans false)
theorem qnh (f:Nat)(aa cap:Array Value)(eg:∀ args w,(callFunc f args).run Tryz.prog w=.ok (.enter f args) w){c hb:Nat}{J:Pend→World→Prop}{Ans:Bool→Prop}(ad:Below W0.heap.size W0 W1)(hF:∀ k∈F0,W0.heap.size≤k∧k<W1.heap.size)(ab:c ∉ F0∧hb ∉ F0)(ae:c≠hb)(hc:W0.heap.size≤c∧c<W1.heap.size)(af:W0.heap.size≤hb∧hb<W1.heap.size)(hJ:∀ {T:Pend} {w w':World},J T w→(∀ k∈F0,w'.heap[k]? =w.heap[k]?)→J T w')(hv:qyi f aa cap W0 W1 N lo (c::hb::F0) F0 J Ans):
  Visits 155 #[.pointer (some ⟨c,0,none⟩),.pointer (some ⟨hb,0,none⟩)] (ROE W0 W1 N lo (c::hb::F0) (JE c hb (.func (.func f) aa cap) J Ans)):=
 qsy ad (fun k hk=>by
  simp only [List.mem_cons] at hk;rcases hk with rfl|rfl|hk
  ·exact hc
  ·exact af
  ·exact hF k hk) (by
  rintro T w w' ⟨a,h1,h2,h3,h4,h5⟩ hs;exact ⟨a,qga h1 (hs c (by simp)),qfi h2 (hs c (by simp)),qga h3 (hs hb (by simp)),fun ha=>hJ (h4 ha) (fun k hk=>hs k (by simp [hk])),h5⟩) _ _ (by
  rintro ⟨g,o,d'⟩ t d T w hE ac ⟨a,h1,h2,h3,h4,h5⟩;refine (qyh f aa cap eg c hb g o d' a w h1 h2 h3 F0 (fun b w'=>(b=true→J (kidsP t d++T) w')∧(b=false→Ans false)) (fun ha W hW=>?_) ab ae).mono ?_
  ·refine (hv (g,o,d') t d T W hE (ac.trans (Chg.of_below hW)) (hJ (h4 ha) (fun k hk=>hW.block k (w_ (hF k hk).2 ac.size)))).mono ?_
   rintro ex w' ⟨b,rfl,q1,q2,q3⟩;exact ⟨b,rfl,q1,q2,q3⟩
  ·rintro ex w' ⟨b,rfl,q1,q2,q3,q4,q5,q6⟩
   refine ⟨b,rfl,q1.mono (fun k hk=>by simp only [List.mem_cons] at hk ⊢;rcases hk with h|h;exact .inl h;exact .inr (.inr h)),?_⟩;cases a with
   | false=>
    obtain rfl:=q5 rfl;exact ⟨false,q2,q3,q4,(fun e=>by cases e),fun _=>h5 rfl⟩
   | true=>
    obtain ⟨w1,⟨r1,r2⟩,r3⟩:=q6 rfl;refine ⟨b,q2,q3,q4,fun ag=>?_,r2⟩;subst ag
    exact hJ (r1 rfl) (fun k hk=>r3 k (fun e=>ab.1 (by rw [← e];exact hk))))
theorem qk8 (w:World)(o1 o2 o3:Obj):(((w.alloc o1).alloc o2).alloc o3).heap[w.heap.size]? =some o1:=by
 show (((w.heap.push o1).push o2).push o3)[w.heap.size]? =some o1;rw [Array.getElem?_push,if_neg (by simp;try omega),Array.getElem?_push,if_neg (by simp;try omega),Array.getElem?_push,if_pos rfl]
theorem qv6 (w:World)(o1 o2 o3:Obj):(((w.alloc o1).alloc o2).alloc o3).heap[w.heap.size+1]? =some o2:=by
 show (((w.heap.push o1).push o2).push o3)[w.heap.size+1]? =some o2;rw [Array.getElem?_push,if_neg (by simp;try omega),Array.getElem?_push,if_pos (by simp;try omega)]
theorem qni{f:Nat}{ad cap:Array Value}(eg:∀ args w,(callFunc f args).run Tryz.prog w=.ok (.enter f args) w)(t:TermM)(va:Value)(h:HasTs N lo W0 va t.args)(hB:Bnd t)(hsz:qa2 t.args≤1048576)(hb:Below W0.heap.size W0 w){J:Pend→World→Prop}{Ans:Bool→Prop}(hF:∀ k∈F0,W0.heap.size≤k∧k<w.heap.size)(hJ:∀ {T:Pend} {w w':World},J T w→(∀ k∈F0,w'.heap[k]? =w.heap[k]?)→J T w')(hv:∀ (W1:World) (c hb:Nat),Below w.heap.size w W1→w.heap.size≤c→w.heap.size≤hb→qyi f ad cap W0 W1 N lo (c::hb::F0) F0 J Ans)(af:J [(t,1)] w)(ac:∀ w,J [] w→Ans true):
  Calls Tryz.prog 94 #[aggT t va,.func (.func f) ad cap] w fun e w'=>∃ r,e=.returned (.bool r)∧Ans r∧Chg F0 w w':=by
 obtain ⟨A,ca,rfl,_⟩:=HasR.shape h rfl;have HH:=z_ h;have ak:=z_ hB;have al:=qao t;have am:=qi1 t;have ag:=hb.size;have an:∀ args w,(callFunc 155 args).run Tryz.prog w=.ok (.enter 155 args) w:=Go.Proofs.enters_of Tryz.func155 k_ rfl
 have HC:Hid (∀ W1,Below w.heap.size w W1→W1.heap.size=w.heap.size+3→
   W1.cell? ⟨w.heap.size,0,none⟩=some (.int .i64 t.op)→W1.cell? ⟨w.heap.size,1,none⟩=some (.string (bstr t.name))→W1.cell? ⟨w.heap.size,2,none⟩=some (.int .i64 t.sort)→W1.cell? ⟨w.heap.size,3,none⟩=some (.slice A t.args.length ca)→
   W1.cell? ⟨w.heap.size+1,0,none⟩=some (.func (.func f) ad cap)→W1.cell? ⟨w.heap.size+1+1,0,none⟩=some (.bool true)→W1.frozen? ⟨w.heap.size+1+1,0,none⟩=false→
   Calls Tryz.prog 111 #[.pointer (some ⟨w.heap.size,0,none⟩),.func (.func 155) #[] #[.pointer (some ⟨w.heap.size+1+1,0,none⟩),.pointer (some ⟨w.heap.size+1,0,none⟩)]] W1 fun e w'=>e=.returned (.tuple #[])∧∃ r,w'.cell? ⟨w.heap.size+1+1,0,none⟩=some (.bool r)∧Ans r∧Chg F0 w w'):=z_ (by
  intro W1 aa ap c0 c1 c2 c3 x0 z0 zf;have ao:=hb.trans (aa.mono ag);refine (qlt _ _ an _ (qnh f ad cap eg (N:=N) (lo:=lo) (J:=J) (Ans:=Ans) (c:=w.heap.size+1+1) (hb:=w.heap.size+1) ao (fun k hk=>⟨(hF k hk).1,by have:=(hF k hk).2;omega⟩) ⟨fun hm=>by have:=(hF _ hm).2;omega,fun hm=>by have:=(hF _ hm).2;omega⟩ o_ ⟨by omega,by omega⟩ ⟨by omega,by omega⟩ hJ (hv W1 _ _ aa o_ o_)) (size t) w.heap.size 0 W1 ⟨[(t,1)],⟨⟨rfl,by show 1+depth t≤_;omega,by show w.heap.size<_;omega,?_,c0,c1,c2,_,c3,HH.out,ak.out⟩,trivial⟩,by simp [qbv],by omega,fun k hk=>by simp at hk,Chg.refl _ _,true,z0,zf,x0,fun _=>hJ af (fun k hk=>aa.block k (hF k hk).2),fun e=>by cases e⟩).mono ?_
  ·intro hm
   simp only [List.mem_cons] at hm;rcases hm with hm|hm|hm
   ·omega
   ·omega
   ·have:=(hF _ hm).2
    omega
  ·rintro e w' ⟨rfl,n',S,T,hA,_,_,_,ab,⟨a,q1,q2,q3,q4,q5⟩⟩
   cases T with
   | cons p T=>exact hA.elim
   | nil=>
    refine ⟨rfl,a,q1,?_,?_⟩
    ·cases a with
     | false=>exact q5 rfl
     | true=>exact ac _ (q4 rfl)
    ·refine ⟨ab.os.trans aa.os,ab.tape.trans aa.tape,ab.output.trans aa.output,by have:=ab.size;omega,fun k hk hn=>?_⟩
     rw [ab.block k o_ (by simp only [List.mem_cons];intro hm;rcases hm with hm|hm|hm;omega;omega;exact hn hm)]
     exact aa.block k hk)
 unfold aggT;obtain ⟨q,hq⟩:=e_ (t.args.length);rw [← hq] at HC ⊢;obtain ⟨to,ah⟩:=e_ (t.op);obtain ⟨tn,ai⟩:=e_ (t.name);obtain ⟨ts,aj⟩:=e_ (t.sort);rw [← ah,← ai,← aj] at HC ⊢;clear h hB hsz hb al am ag hF hJ hv af ac hq ah ai aj;go_enter Tryz.func94,Tryz.ntmps94
 go_wp2_with fail
 refine (HC.out _ ?_ ?_ ?_ ?_ ?_ ?_ ?_ ?_ ?_).mono ?_;rotate_left 1
 ·simp
 ·exact h_ _ _ 0 _ _ _ (qk8 _ _ _ _)
 ·exact h_ _ _ 1 _ _ _ (qk8 _ _ _ _)
 ·exact h_ _ _ 2 _ _ _ (qk8 _ _ _ _)
 ·exact h_ _ _ 3 _ _ _ (qk8 _ _ _ _)
 ·exact h_ _ _ 0 _ _ _ (qv6 _ _ _ _)
 rotate_left 3
 ·exact v_
 ·exact h_ _ _ 0 _ _ _ (qa5 _ _ _ (by simp))
 ·exact g_ _ _ 0 _ _ (qa5 _ _ _ (by simp))
 rintro e w1 ⟨rfl,r,hr,ae,ab⟩;go_wp2;go_ret;exact ⟨r,rfl,ae,ab⟩
end termev

namespace termlm
set_option maxRecDepth 50000
open mem dec rowl trm terml termb termt termx termz termro termsd termev frm
def LimV (cs k:Nat)(b:Bool)(w:World)(ex:Ending)(w':World):Prop:=ex=.returned (.bool b)∧Chg [cs] w w'∧w'.cell? ⟨cs,0,none⟩=some (.int .i64 ((k:Int)+1))∧w'.frozen? ⟨cs,0,none⟩=false
theorem c48_{p:Prop}(h:p:=by
 clear hb hk hd hm;go_enter Tryz.func154,Tryz.ntmps154
 go_wp2;go_ret;exact aa.out false _ HB.out
):p:=h
set_option maxHeartbeats 4000000 in
theorem qCe (cs g o d k:Nat)(m c:Nat)(A:Option Addr)(w:World)(hk:k≤60)(hd:d≤1073741824)(hm:m≤1073741824)(h:w.cell? ⟨cs,0,none⟩=some (.int .i64 k))(hf:w.frozen? ⟨cs,0,none⟩=false)(t3:w.cell? ⟨g,o+3,none⟩=some (.slice A m c))(ab:g≠cs)(b:Bool)(hb:decide (k+1≤60∧d≤20∧m≤7)=b):
  Calls Tryz.prog 154 #[qdi (g,o,d),.pointer (some ⟨cs,0,none⟩)] w (LimV cs k b w):=by
 have hc:=l_ h;have hg:=l_ t3;simp only [] at hc hg
 have aa:Hid (∀ (b':Bool) (ob:Obj),b=b'→LimV cs k b w (.returned (.bool b')) ((w.setCell ⟨cs,0,none⟩ (.int .i64 ((k:Int)+1))).alloc ob)):=z_ (fun b' ob ac=>by
  subst ac;have hW:Below w.heap.size (w.setCell ⟨cs,0,none⟩ (.int .i64 ((k:Int)+1))) ((w.setCell ⟨cs,0,none⟩ (.int .i64 ((k:Int)+1))).alloc ob):=b_.alloc (by simp [World.setCell]) _;refine ⟨rfl,(Chg.set (S:=[cs]) (w:=w) (by simp) _).trans (Chg.of_below (b_.alloc n_ _)),?_,?_⟩
  ·rw [hW.cell (p:=⟨cs,0,none⟩) hc];exact World.cell?_setCell_same _ _ _ h
  ·rw [hW.frozen (p:=⟨cs,0,none⟩) hc,World.frozen?_setCell];exact hf)
 unfold qdi ptr;have hw:IntKind.i64.wrap ((k:Int)+1)=(k:Int)+1:=IntWalk.i64_in _ o_;have ad:¬ cs=g:=fun e=>ab e.symm
 have ae:¬ w.heap.size=cs:=o_;by_cases h1:k+1≤60
 ·have d1:decide ((k:Int)+1≤60)=true:=d_
  by_cases h2:d≤20
  ·have d2:decide ((d:Int)≤20)=true:=d_
   by_cases h3:m≤7
   ·have HB:Hid (b=true):=z_ (by rw [← hb];exact decide_eq_true ⟨h1,h2,h3⟩)
    have d3:decide ((m:Int)≤7)=true:=d_;clear hb hk hd hm;go_enter Tryz.func154,Tryz.ntmps154
    go_wp2;go_ret;exact aa.out true _ HB.out
   ·have HB:Hid (b=false):=z_ (by rw [← hb];exact decide_eq_false (fun e=>h3 e.2.2))
    have d3:decide ((m:Int)≤7)=false:=f_;exact c48_
  ·have HB:Hid (b=false):=z_ (by rw [← hb];exact decide_eq_false (fun e=>h2 e.2.1))
   have d2:decide ((d:Int)≤20)=false:=f_;exact c48_
 ·have HB:Hid (b=false):=z_ (by rw [← hb];exact decide_eq_false (fun e=>h1 e.1))
  have d1:decide ((k:Int)+1≤60)=false:=f_;exact c48_
def LimJ (cs:Nat)(t0:TermM)(T:Pend)(w:World):Prop:=∃ k:Nat,w.cell? ⟨cs,0,none⟩=some (.int .i64 k)∧w.frozen? ⟨cs,0,none⟩=false∧k+qbv T=size t0∧k≤60∧(depth t0≤20∧wide t0↔LimP T)∧∀ p∈T,1≤p.2
theorem qv7 (cs:Nat)(t0:TermM)(ac:size t0≤1073741824)(W0 W1:World)(N lo:Nat)(F:List Nat)(hcs:cs∈F):
  qyi 154 #[] #[.pointer (some ⟨cs,0,none⟩)] W0 W1 N lo F [cs] (LimJ cs t0) (fun r=>r=true↔LimT t0):=by
 rintro ⟨g,o,d'⟩ t d T w ⟨a1,a2,a3,a4,c0,c1,c2,v,c3,hh,ad⟩ aa ⟨k,h1,h2,h3,h4,h5,h6⟩;simp only [] at a1 a2 a3 a4 c3;subst a1;obtain ⟨A,c,rfl,_⟩:=HasR.shape hh rfl;have hsz:qbv ((t,d')::T)=size t+qbv T:=rfl;have ae:=qao t;have af:=qat t.args;have ab:1≤d':=h6 (t,d') (by simp);have hg:g≠cs:=fun e=>a4 (by rw [e];exact hcs)
 have t3:w.cell? ⟨g,o+3,none⟩=some (.slice A t.args.length c):=(World.cell?_of_block (a:=⟨g,o+3,none⟩) (aa.block g a3 a4)).trans c3;refine (qCe cs g o d' k t.args.length c A w h4 o_ o_ h1 h2 t3 hg _ rfl).mono ?_;rintro ex w' ⟨rfl,q1,q2,q3⟩;refine ⟨_,rfl,q1,fun hb=>?_,fun hb=>?_⟩
 ·obtain ⟨b1,b2,b3⟩:=of_decide_eq_true hb
  refine ⟨k+1,q2,q3,?_,b1,h5.trans (qv5 ab b2 b3),fun p hp=>?_⟩
  ·rw [qc1,qeu];omega
  ·rcases List.mem_append.1 hp with hp|hp
   ·unfold kidsP at hp
    simp only [List.mem_reverse,List.mem_map] at hp;obtain ⟨a,_,rfl⟩:=hp;show 1≤d'+1;omega
   ·exact h6 p (by simp [hp])
 ·have hb:=of_decide_eq_false hb
  constructor
  ·intro e;cases e
  ·rintro ⟨l1,l2⟩
   exfalso
   have hp:=h5.1 l2;by_cases hk:k+1≤60
   ·exact qB0 (fun hx=>hb ⟨hk,hx.1,hx.2⟩) hp
   ·omega
theorem qk9 (t:TermM)(va:Value)(h:HasTs N lo W0 va t.args)(hB:Bnd t)(hsz:qa2 t.args≤1048576)(hb:Below W0.heap.size W0 w):
  Calls Tryz.prog 93 #[aggT t va] w fun e w'=>∃ r,e=.returned (.bool r)∧(r=true↔LimT t)∧Below w.heap.size w w':=by
 obtain ⟨A,ca,rfl,_⟩:=HasR.shape h rfl;have af:=qao t;have aa:=hb.size;have eg:∀ args w,(callFunc 154 args).run Tryz.prog w=.ok (.enter 154 args) w:=Go.Proofs.enters_of Tryz.func154 k_ rfl
 have HC:Hid (∀ W,Below w.heap.size w W→W.heap.size=w.heap.size+2→W.cell? ⟨w.heap.size+1,0,none⟩=some (.int .i64 0)→W.frozen? ⟨w.heap.size+1,0,none⟩=false→
   Calls Tryz.prog 94 #[aggT t (.slice A t.args.length ca),.func (.func 154) #[] #[.pointer (some ⟨w.heap.size+1,0,none⟩)]] W fun e w'=>∃ r,e=.returned (.bool r)∧(r=true↔LimT t)∧Below w.heap.size w w'):=z_ (by
  intro W hW hs z0 zf;refine (qni eg (W0:=W0) t _ h hB hsz (hb.trans (hW.mono aa)) (F0:=[w.heap.size+1]) (J:=LimJ (w.heap.size+1) t) (Ans:=fun r=>r=true↔LimT t) (fun k hk=>?_) ?_ (fun W1 c ai _ _ _=>qv7 _ t o_ W0 W1 N lo _ (by simp)) ⟨0,z0,zf,by simp [qbv],by omega,?_,fun p hp=>?_⟩ ?_).mono ?_
  ·simp at hk;omega
  ·rintro T w1 w2 ⟨k,q1,q2,q3⟩ ab
   exact ⟨k,qga q1 (ab _ (by simp)),qfi q2 (ab _ (by simp)),q3⟩
  ·unfold LimP
   simp
  ·simp at hp;subst hp;show 1≤1;omega
  ·rintro w1 ⟨k,_,_,q3,q4,q5,_⟩
   simp only [qbv] at q3;exact ⟨fun _=>⟨by omega,q5.2 (fun p hp=>by simp at hp)⟩,fun _=>rfl⟩
  ·rintro e w' ⟨r,rfl,hr,ag⟩
   exact ⟨r,rfl,hr,hW.trans (ag.below o_ (fun k hk=>by simp at hk;omega))⟩)
 unfold aggT at HC ⊢;obtain ⟨q,hq⟩:=e_ (t.args.length);rw [← hq] at HC ⊢;obtain ⟨to,ac⟩:=e_ (t.op);obtain ⟨tn,ad⟩:=e_ (t.name);obtain ⟨ts,ae⟩:=e_ (t.sort);rw [← ac,← ad,← ae] at HC ⊢;clear h hB hsz hb af aa hq ac ad ae;go_enter Tryz.func93,Tryz.ntmps93
 go_wp2_with fail
 refine (HC.out _ ?_ ?_ ?_ ?_).mono ?_
 ·exact v_
 ·simp
 ·exact h_ _ _ 0 _ _ _ (qa5 _ _ _ (by simp))
 ·exact g_ _ _ 0 _ _ (qa5 _ _ _ (by simp))
 rintro e w1 ⟨r,rfl,hr,ah⟩;have HR:=z_ hr;clear hr;go_wp2;go_ret;exact ⟨r,rfl,HR.out,ah⟩
end termlm
end Go.Proofs.YtiilamngcoegiaaGreat
