/- parts -/
import Derived.Test.YtiilamngcoegiaaGreatPk05
import Derived.Shelf.Abstract
import Derived.Laws.IdiomCopy
import Derived.IntWalk
namespace Go.Proofs.YtiilamngcoegiaaGreat
open Go.ChangeShapes Go.WideShapes Go.ChangeAt Go.RowKit
namespace termsd
open rowl trm terml termb
theorem qij {w w':World}{g o:Nat}{v:Value}(h:w.cell? ⟨g,o,none⟩=some v)(hb:w'.heap[g]? =w.heap[g]?):w'.cell? ⟨g,o,none⟩=some v:=(World.cell?_of_block (a:=⟨g,o,none⟩) hb).trans h
theorem qik {w w':World}{g o:Nat}(h:w.frozen? ⟨g,o,none⟩=false)(hb:w'.heap[g]? =w.heap[g]?):w'.frozen? ⟨g,o,none⟩=false:=(World.frozen?_of_block (a:=⟨g,o,none⟩) hb).trans h
theorem qlg (t:TermM):depth t≤size t:=by
 have aa:∀ t,depth t≤size t:=by
  refine TermM.ind (fun o n s l ih=>?_);rw [qeh,qb7];have:depths l≤sizes l:=by
   induction l with
   | nil=>simp [depths]
   | cons a l ab=>
    have h1:=ih a (by simp);have h2:=ab (fun t ht=>ih t (by simp [ht]));have e:depths (a::l)=max (depth a) (depths l):=rfl;rw [e];simp only [sizes,List.map_cons,List.sum_cons] at h2 ⊢;omega
  omega
 exact aa t
end termsd

namespace graml
set_option maxRecDepth 20000
set_option maxHeartbeats 4000000
open mem rowl trm trmv terml termb termt termx gram gramo
theorem qoy (L:List TermM):Srt L↔∀ i,i+1<L.length→cmp (L.getD i default) (L.getD (i+1) default)≤0:=by
 constructor
 ·intro h i hi
  rw [qar o_,qar hi];exact List.pairwise_iff_getElem.1 h i (i+1) o_ hi o_
 ·intro h
  refine List.pairwise_iff_getElem.2 (fun i j hi hj ab=>?_);have aa:∀ d,i+1+d<L.length→cmp (L.getD i default) (L.getD (i+1+d) default)≤0:=by
   intro d;induction d with
   | zero=>intro hd;exact h i hd
   | succ d ih=>
    intro hd;exact qdy _ _ _ (ih o_) (h (i+1+d) o_)
  have:=aa (j-i-1) o_;rw [show i+1+(j-i-1)=j by omega,qar hi,qar hj] at this;exact this
theorem qn4 {N lo:Nat}(L:List TermM)(v:Value)(w:World)(h:HasTs N lo w v L)(hsz:sizes L≤2097152)(r:Bool)(hr:r=true↔Srt L):
  Calls Tryz.prog 196 #[v,.func (.func 115) #[] #[]] w fun e w'=>e=.returned (.bool r)∧Below w.heap.size w w':=by
 have eg:∀ args w,(callFunc 115 args).run Tryz.prog w=.ok (.enter 115 args) w:=Go.Proofs.enters_of Tryz.func115 k_ rfl;obtain ⟨n,hn⟩:=e_ (L.length);obtain ⟨A,c,rfl,h⟩:=HasR.shape h hn.symm;have hl:=h.len.2.1;rw [qoy,← hn] at hr;have HR:=z_ hr
 have ai:Hid (∀ j,j<n→∃ (g o:Nat) (A2:Option Addr) (c2 k:Nat),A=some ⟨g,o,none⟩∧g<w.heap.size∧N=k+1∧w.cell? ⟨g,o+j*4,none⟩=some (.int .i64 (L.getD j default).op)∧w.cell? ⟨g,o+j*4+1,none⟩=some (.string (bstr (L.getD j default).name))∧
   w.cell? ⟨g,o+j*4+2,none⟩=some (.int .i64 (L.getD j default).sort)∧w.cell? ⟨g,o+j*4+3,none⟩=some (.slice A2 (L.getD j default).args.length c2)∧HasTs k lo w (.slice A2 (L.getD j default).args.length c2) (L.getD j default).args∧sizes (L.getD j default).args≤2097152):=z_ (by
  intro j hj;obtain ⟨k,g,o,A2,c2,h0,h1,_,h2,h3,h4,h5,h6,h7,_⟩:=qaj h hj;refine ⟨g,o,A2,c2,k,h1,h2,h0,h3,h4,h5,h6,h7,?_⟩;have h9:=qah (l:=L) (j:=j) o_;have ap:=termro.qao (L.getD j default)
  omega)
 clear h hn hr;by_cases hz:n≤1
 ·have HT:Hid (r=true):=z_ (HR.out.2 (fun i hi=>by omega))
  have hcs:n=0∨n=1:=o_;clear hz;rcases hcs with rfl|rfl
  all_goals
   go_enter Tryz.func196,Tryz.ntmps196
   go_wp2;go_loopw [5] (fun v5 wr=>∃ z:Int,v5=.int .i64 z∧z≤0∧wr=w) (fun _ _=>0)
   case atStart=>exact ⟨_,rfl,by omega,rfl⟩
   case round=>
    obtain ⟨z,rfl,hz,rfl⟩:=hrel;have d1:decide (0<z)=false:=f_;have d2:¬ 0<z:=o_;go_wp2;go_ret;exact ⟨qa0 HT.out.symm,Below.refl _ _⟩
 ·obtain ⟨m,hm⟩:∃ m,m+1=n:=⟨n-1,by omega⟩
  have hw:IntKind.i64.wrap ((n:Int)-1)=(m:Int):=by rw [← hm,IntWalk.i64_in _ o_];omega
  have HM:=z_ hm;have aq:m<n:=o_;clear hm hz;go_enter Tryz.func196,Tryz.ntmps196
  go_wp2;go_loopw [5] (fun v5 wr=>∃ k:Nat,v5=.int .i64 k∧k≤m∧Hid (∀ i,k≤i→i+1<n→cmp (L.getD i default) (L.getD (i+1) default)≤0)∧Hid (Below w.heap.size w wr)) (fun k _=>(intOf k).toNat)
  case atStart=>exact ⟨m,rfl,Nat.le_refl _,z_ (fun i h1 h2=>by have:=HM.out;omega),z_ b_⟩
  case round=>
   obtain ⟨k,rfl,hk,ac,HB⟩:=hrel;by_cases au:k≤0
   ·have HT:Hid (r=true):=z_ (HR.out.2 (fun i hi=>ac.out i o_ hi))
    have d1:decide ((0:Int)<(k:Int))=false:=f_;have d3:decide (0<k)=false:=f_;have d4:¬ 0<k:=o_;go_wp2;go_ret;exact ⟨qa0 HT.out.symm,HB.out⟩
   ·obtain ⟨p,hp⟩:∃ p,p+1=k:=⟨k-1,by omega⟩
    have d1:decide ((0:Int)<(k:Int))=true:=d_;have d3:decide (0<k)=true:=d_;have d4:0<k:=o_;have av:IntKind.i64.wrap ((k:Int)-1)=(p:Int):=by rw [← hp,IntWalk.i64_in _ o_];omega
    obtain ⟨g,o,A1,c1,N1,rfl,hg,am,e0,e1,e2,e3,ae,aj⟩:=ai.out p o_;obtain ⟨g',o',A2,c2,N2,hA,_,an,f0,f1,f2,f3,af,ag⟩:=ai.out k o_;simp only [Option.some.injEq,Addr.mk.injEq,and_true] at hA;obtain ⟨rfl,rfl⟩:=hA;obtain rfl:N1=N2:=o_;have aa:=HB.out;obtain ⟨x,hx⟩:=e_ (L.getD p default);obtain ⟨u,hu⟩:=e_ (L.getD k default);rw [← hx] at e0 e1 e2 e3 ae aj;rw [← hu] at f0 f1 f2 f3 af ag;have ab:g<wr.heap.size:=w_ hg aa.size;have kc:∀ y,wr.cell? ⟨g,y,none⟩=w.cell? ⟨g,y,none⟩:=fun y=>aa.cell (p:=⟨g,y,none⟩) hg
    have r0:∀ t:BoxC (Below wr.heap.size wr),t.W.cell? ⟨g,o+p*4,none⟩=some (.int .i64 x.op):=fun t=>t.cell ((kc _).trans e0) ab
    have r1:∀ t:BoxC (Below wr.heap.size wr),t.W.cell? ⟨g,o+p*4+1,none⟩=some (.string (bstr x.name)):=fun t=>t.cell ((kc _).trans e1) ab
    have r2:∀ t:BoxC (Below wr.heap.size wr),t.W.cell? ⟨g,o+p*4+2,none⟩=some (.int .i64 x.sort):=fun t=>t.cell ((kc _).trans e2) ab
    have r3:∀ t:BoxC (Below wr.heap.size wr),t.W.cell? ⟨g,o+p*4+3,none⟩=some (.slice A1 x.args.length c1):=fun t=>t.cell ((kc _).trans e3) ab
    have s0:∀ t:BoxC (Below wr.heap.size wr),t.W.cell? ⟨g,o+k*4,none⟩=some (.int .i64 u.op):=fun t=>t.cell ((kc _).trans f0) ab
    have s1:∀ t:BoxC (Below wr.heap.size wr),t.W.cell? ⟨g,o+k*4+1,none⟩=some (.string (bstr u.name)):=fun t=>t.cell ((kc _).trans f1) ab
    have s2:∀ t:BoxC (Below wr.heap.size wr),t.W.cell? ⟨g,o+k*4+2,none⟩=some (.int .i64 u.sort):=fun t=>t.cell ((kc _).trans f2) ab
    have s3:∀ t:BoxC (Below wr.heap.size wr),t.W.cell? ⟨g,o+k*4+3,none⟩=some (.slice A2 u.args.length c2):=fun t=>t.cell ((kc _).trans f3) ab
    obtain ⟨q,hq⟩:=e_ (cmp u x)
    have ad:Hid (∀ t:BoxC (Below wr.heap.size wr),Calls Tryz.prog 115 #[.agg #[.int .i64 u.op,.string (bstr u.name),.int .i64 u.sort,.slice A2 u.args.length c2],.agg #[.int .i64 x.op,.string (bstr x.name),.int .i64 x.sort,.slice A1 x.args.length c1]] t.W fun e w'=>e=.returned (.int .i64 q)∧Below t.W.heap.size t.W w'):=z_ (fun t=>by
     have hb:=aa.trans (t.h.mono aa.size);rw [hq]
     exact (qf6 u x _ _ t.W (af.below n_ hb) (ae.below n_ hb) ag).mono (fun _ _ h=>⟨h.1,h.2.below⟩))
    have HQ:Hid (q=- cmp (L.getD p default) (L.getD k default)):=z_ (by rw [hq,hx,hu,qbs (L.getD p default)]);have HP:=z_ hp;have nb:Nonempty (BoxC (Below wr.heap.size wr)):=⟨⟨_,Below.refl _ _⟩⟩;have i1:(0:Int)≤(p:Int):=o_;have i2:(p:Int)<(n:Int):=o_;have i3:(0:Int)≤(k:Int):=o_;have i4:(k:Int)<(n:Int):=o_;have ak:=aa.size;clear e0 e1 e2 e3 f0 f1 f2 f3 ae af aj ag aa kc hx hu hq hp am an;by_cases al:q<0
    ·have d2:decide (q<0)=true:=decide_eq_true al
     have HF:Hid (r=false):=z_ (by
      cases ao:r with
      | false=>rfl
      | true=>
       have h1:=HR.out.1 ao p (by have:=HP.out;omega);have h2:=HQ.out;have h3:=HP.out;rw [h3] at h1
       omega)
     go_wp2_with fail
     refine qa1 (C:=Below wr.heap.size wr) k_ k_ b_.drew ?_;repeat (go_big_quiet_step ((go_at_call 115;exact (ad.out _).mono (fun _ _ h=>⟨h.1,BoxC.step _ h.2⟩))))
     refine wpQuiet_nil ?_;rintro w5 ⟨t5,rfl⟩;have ah:=z_ (HB.out.trans (t5.h.mono ak));clear r0 r1 r2 r3 s0 s1 s2 s3 nb ad;go_wp2;go_ret;exact ⟨qa0 HF.out.symm,ah.out⟩
    ·have d2:decide (q<0)=false:=decide_eq_false al
     go_wp2_with fail
     refine qa1 (C:=Below wr.heap.size wr) k_ k_ b_.drew ?_;repeat (go_big_quiet_step ((go_at_call 115;exact (ad.out _).mono (fun _ _ h=>⟨h.1,BoxC.step _ h.2⟩))))
     refine wpQuiet_nil ?_;rintro w5 ⟨t5,rfl⟩;have ah:=z_ (HB.out.trans (t5.h.mono ak))
     have HA:Hid (∀ i,p≤i→i+1<n→cmp (L.getD i default) (L.getD (i+1) default)≤0):=z_ (fun i h1 h2=>by
      by_cases e:i=p
      ·subst e
       have h3:=HQ.out;have h4:=HP.out;rw [h4];omega
      ·exact ac.out i (by have:=HP.out;omega) h2)
     clear r0 r1 r2 r3 s0 s1 s2 s3 nb ad;go_wp2;go_roundw
     case measure=>have:=HP.out;simp [intOf];omega
     case rel=>exact ⟨p,by go_num,by have:=HP.out;omega,HA,ah⟩
theorem qoz {w:World}{x:Nat}{v0 v1 v2 v3 v4 v5 v6 v7 v8 v9 aa:Value}{t:TypeId}(h:w.heap[x]? =some (.cells #[v0,v1,v2,v3,v4,v5,v6,v7,v8,v9,aa] t (0,0))):w.cell? ⟨x,0,none⟩=some v0∧w.cell? ⟨x,1,none⟩=some v1∧w.cell? ⟨x,2,none⟩=some v2∧w.cell? ⟨x,3,none⟩=some v3∧w.cell? ⟨x,4,none⟩=some v4∧w.cell? ⟨x,5,none⟩=some v5∧w.cell? ⟨x,6,none⟩=some v6∧w.cell? ⟨x,7,none⟩=some v7∧w.cell? ⟨x,8,none⟩=some v8∧w.cell? ⟨x,9,none⟩=some v9∧w.cell? ⟨x,10,none⟩=some aa:=
 ⟨h_ w x 0 _ _ _ h,h_ w x 1 _ _ _ h,h_ w x 2 _ _ _ h,h_ w x 3 _ _ _ h,h_ w x 4 _ _ _ h,h_ w x 5 _ _ _ h,h_ w x 6 _ _ _ h,h_ w x 7 _ _ _ h,h_ w x 8 _ _ _ h,h_ w x 9 _ _ _ h,h_ w x 10 _ _ _ h⟩
def isUB (u:Int)(t:TermM):Bool:=decide (u≠0∧t.op=u-1)
def isAB (a:Bool)(i:Nat)(t:TermM):Bool:=a&&decide (t.op=i)
theorem qsn (nm:List UInt8)(A:Option Addr)(n c:Nat)(a b:Bool)(u:Int)(hu:I64 u)(an:0≤u)(i s0 s1 s2 s3 s4:Nat){N lo:Nat}(L:List TermM)(v:Value)(w:World)(h:HasTs N lo w v L)(hsz:sizes L≤2097152)(s:Bool)(hs:s=true↔Srt L)(r:Bool)(hr:(!(L.any (isUB u))&&!(L.any (isAB a i))&&(!b || s))=r):
  Calls Tryz.prog 158 #[aggE nm A n c a b u i s0 s1 s2 s3 s4,v] w fun e w'=>e=.returned (.bool r)∧Below w.heap.size w w':=by
 have ah:∀ args w,(callFunc 194 args).run Tryz.prog w=.ok (.enter 194 args) w:=Go.Proofs.enters_of Tryz.func194 k_ rfl;have ai:∀ args w,(callFunc 195 args).run Tryz.prog w=.ok (.enter 195 args) w:=Go.Proofs.enters_of Tryz.func195 k_ rfl;have af:=z_ (fun W (hW:Below w.heap.size w W)=>qg1 194 #[aggE nm A n c a b u i s0 s1 s2 s3 s4] #[] ah (isUB u) L v W (h.below n_ hW) (fun t _ B m cb W' _=>by simpa using qjq nm A n c a b u hu an i s0 s1 s2 s3 s4 t B m cb (isUB u t) rfl W') _ rfl);have aj:=z_ (fun W (hW:Below w.heap.size w W)=>qg1 195 #[aggE nm A n c a b u i s0 s1 s2 s3 s4] #[] ai (isAB a i) L v W (h.below n_ hW) (fun t _ B m cb W' _=>by simpa using qii nm A n c a b u i s0 s1 s2 s3 s4 t B m cb (isAB a i t) rfl W') _ rfl);have ao:=z_ (fun W (hW:Below w.heap.size w W)=>qn4 L v W (h.below n_ hW) hsz s hs);obtain ⟨Av,cv,rfl,_⟩:=HasR.shape h rfl;obtain ⟨p,hp⟩:=e_ (L.any (isUB u));obtain ⟨q,hq⟩:=e_ (L.any (isAB a i));rw [← hp] at af hr;rw [← hq] at aj hr;have HR:=z_ hr;clear h hp hq hr hs ah ai;have ak:Below w.heap.size w (w.alloc (.cells #[.string (bstr nm),.slice A n c,.bool a,.bool b,.int .i64 u,.int .i64 (i:Int),.int .i64 (s0:Int),.int .u16 (s1:Int),.int .u16 (s2:Int),.int .u16 (s3:Int),.int .u16 (s4:Int)] 181)):=b_.alloc n_ _;have ab:=z_ ak;clear ak;cases p with
 | true=>
  go_enter Tryz.func158,Tryz.ntmps158
  go_wp2_with fail
  refine (af.out _ ab.out).mono ?_;rintro e w1 ⟨rfl,ac⟩;have aa:=ab.out.trans (ac.mono ab.out.size);clear ac;go_wp2;go_ret;exact ⟨qa0 (by rw [← HR.out];rfl),aa⟩
 | false=>
  go_enter Tryz.func158,Tryz.ntmps158
  go_wp2_with fail
  refine (af.out _ ab.out).mono ?_;rintro e w1 ⟨rfl,ac⟩;have aa:=ab.out.trans (ac.mono ab.out.size);have h1:w1.heap[w.heap.size]? =some (.cells #[.string (bstr nm),.slice A n c,.bool a,.bool b,.int .i64 u,.int .i64 (i:Int),.int .i64 (s0:Int),.int .u16 (s1:Int),.int .u16 (s2:Int),.int .u16 (s3:Int),.int .u16 (s4:Int)] 181 (0,0)):=(ac.block _ (by simp)).trans (qa5 _ _ _ rfl);have ap:=(q_ h1);obtain ⟨k0,k1,k2,k3,k4,k5,k6,k7,k8,k9,al⟩:=qoz h1;have ag:=z_ aa;have aq:=z_ h1;clear ac aa h1;go_wp2_with fail
  refine (aj.out _ ag.out).mono ?_;rintro e w2 ⟨rfl,hb2⟩;have ad:=ag.out.trans (hb2.mono ag.out.size);have h2:=(hb2.block _ ap).trans aq.out;clear k0 k1 k2 k3 k4 k5 k6 k7 k8 k9 al;obtain ⟨k0,k1,k2,k3,k4,k5,k6,k7,k8,k9,al⟩:=qoz h2;have ae:=z_ ad;clear hb2 ad h2;cases q with
  | true=>
   go_wp2;go_ret;exact ⟨qa0 (by rw [← HR.out];rfl),ae.out⟩
  | false=>
   cases b with
   | false=>
    go_wp2;go_ret;exact ⟨qa0 (by rw [← HR.out];rfl),ae.out⟩
   | true=>
    go_wp2_with fail
    refine (ao.out _ ae.out).mono ?_;rintro e w3 ⟨rfl,am⟩;have HF:=z_ (ae.out.trans (am.mono ae.out.size));clear am;go_wp2;go_ret;exact ⟨qa0 (by rw [← HR.out];simp),HF.out⟩
end graml

namespace termvr
open mem rowl trm terml termb termt
def qdv:List TermM→List Value
 | []=>[]
 | t::l=>.int .i64 t.op::.string (bstr t.name)::.int .i64 t.sort::.slice none 0 0::qdv l
theorem qn5:∀ l:List TermM,(qdv l).length=l.length*4
 | []=>rfl
 | t::l=>by simp only [qdv,List.length_cons,qn5 l];omega
theorem qh8:∀ l m:List TermM,qdv (l++m)=qdv l++qdv m
 | [],m=>rfl
 | t::l,m=>by simp [qdv,qh8 l m]
theorem qr0:∀ {l:List TermM} {j:Nat},j<l.length→qcl (qdv l) j (l.getD j default) (.slice none 0 0)
 | [],_,h=>by simp at h
 | t::l,0,_=>⟨rfl,rfl,rfl,rfl⟩
 | t::l,j+1,h=>by
  obtain ⟨a,b,c,d⟩:=qr0 (l:=l) (j:=j) (by simpa using h);rw [List.getD_cons_succ];unfold qcl;rw [show (j+1)*4=j*4+4 by omega];exact ⟨a,b,c,d⟩
theorem qcv {a b c d:Value}(h:a.oneCell'=true)(h1:b.oneCell'=true)(h2:c.oneCell'=true)(h3:d.oneCell'=true):∀ x∈[a,b,c,d],x.oneCell'=true:=by
 intro x hx;simp at hx;rcases hx with rfl|rfl|rfl|rfl
 ·exact h
 ·exact h1
 ·exact h2
 ·exact h3
theorem qca (g o:Nat)(x:Int)(w:World)(h:w.cell? ⟨g,o,none⟩=some (.int .i64 x))(r:Bool)(hr:decide (x=-1)=r):
  Calls Tryz.prog 98 #[.pointer (some ⟨g,o,none⟩)] w fun e w'=>e=.returned (.bool r)∧w=w':=by
 have HR:Hid (r=(x==-1)):=z_ (by rw [← hr,Bool.eq_iff_iff];simp);clear hr;go_enter Tryz.func98,Tryz.ntmps98
 go_wp2;go_ret;exact ⟨qa0 HR.out.symm,rfl⟩
theorem qp0 (g o:Nat)(op:Int)(l:List UInt8)(s:Int)(w:World)(t0:w.cell? ⟨g,o,none⟩=some (.int .i64 op))(t1:w.cell? ⟨g,o+1,none⟩=some (.string (bstr l)))(t2:w.cell? ⟨g,o+2,none⟩=some (.int .i64 s)):
  Calls Tryz.prog 113 #[.pointer (some ⟨g,o,none⟩)] w fun e w'=>e=.returned (.agg #[.int .i64 op,.string (bstr l),.int .i64 s,.slice none 0 0])∧Below w.heap.size w w':=by
 have hg:=l_ t0;simp only [] at hg;go_enter Tryz.func113,Tryz.ntmps113
 go_wp2_with fail
 have ab:¬ w.heap.size=g:=o_;have aa:Below w.heap.size w (w.alloc (.cells #[.int .i64 0,.string { data:=#[] },.int .i64 0,.slice none 0 0] 38)):=b_.alloc n_ _;have c0:=(aa.cell (p:=⟨g,o,none⟩) hg).trans t0;have c1:=(aa.cell (p:=⟨g,o+1,none⟩) hg).trans t1;have c2:=(aa.cell (p:=⟨g,o+2,none⟩) hg).trans t2
 go_region_held3 (fun w'=>w'.cell? ⟨g,o,none⟩=some (.int .i64 op)∧w'.cell? ⟨g,o+1,none⟩=some (.string (bstr l))∧w'.cell? ⟨g,o+2,none⟩=some (.int .i64 s))
  (first|assumption|(refine ⟨?_,?_,?_⟩<;>assumption)|(refine ⟨?_,?_,?_⟩<;>(refine (Below.cell (((Below.refl w.heap.size w).alloc n_ _).drew) (p:=⟨g,_,none⟩) hg).trans ?_;assumption)))
  (fail)
 go_wp2;refine bodyPost_ret (v:=.agg #[.int .i64 op,.string (bstr l),.int .i64 s,.slice none 0 0]) (by simp [results,Tryz.results113,go_sem]) rfl ⟨rfl,?_⟩;repeat (first|(refine Below.drew ?_)|(refine Below.setCell ?_ (by first|(simp;done)|(simp;omega)) _)|(refine Below.alloc ?_ (by first|(simp;done)|(simp;omega)) _))
 exact Below.refl _ _
end termvr

namespace gramk
set_option maxRecDepth 20000
set_option maxHeartbeats 4000000
open mem setm sortn sortp sorti rowl trm terml termb termt termvr gram
def gKind (G:GrM)(t:TermM):Nat:=if t.op=-1 then atU G.U t.sort else if 0≤t.op∧t.op<G.E.length then (G.E.getD t.op.toNat default).2.2.2.2.2.2 else 0
theorem qd6 {w:World}{v:Value}{U:List Nat}(h:MapU w v U):∃ mm,v=.map mm:=by
 rcases h with ⟨rfl,_⟩|⟨b,_,_,rfl,_⟩
 ·exact ⟨none,rfl⟩
 ·exact ⟨some b,rfl⟩
theorem qso (G:GrM)(mv:Value)(A:Option Addr)(n c:Nat)(t:TermM)(g o:Nat)(w:World)(hM:HasM w mv (.slice A n c) G)(hn:n=G.E.length)(t0:w.cell? ⟨g,o,none⟩=some (.int .i64 t.op))(t2:w.cell? ⟨g,o+2,none⟩=some (.int .i64 t.sort))(hB:Bnd t):
  Calls Tryz.prog 191 #[.agg #[mv,.slice A n c],.pointer (some ⟨g,o,none⟩)] w fun e w'=>e=.returned (.int .u16 ((gKind G t:Nat):Int))∧Below w.heap.size w w':=by
 obtain ⟨mm,rfl⟩:=qd6 hM.m;have hg:=l_ t0;simp only [] at hg;have ad:Below w.heap.size w (w.alloc (.cells #[.map mm,.slice A n c] 92)):=b_.alloc n_ _;have aa:=z_ ad;have x0:(w.alloc (.cells #[.map mm,.slice A n c] 92)).cell? ⟨w.heap.size,0,none⟩=some (.map mm):=by simp
 have x1:(w.alloc (.cells #[.map mm,.slice A n c] 92)).cell? ⟨w.heap.size,1,none⟩=some (.slice A n c):=by simp
 have y0:=(ad.cell (p:=⟨g,o,none⟩) hg).trans t0;have y2:=(ad.cell (p:=⟨g,o+2,none⟩) hg).trans t2;have ag:(w.alloc (.cells #[.map mm,.slice A n c] 92)).heap.size=w.heap.size+1:=by simp
 have HM:=z_ (hM.below ad);obtain ⟨_,⟨q1,q2⟩,⟨q3,q4⟩⟩:=hB;obtain ⟨to,ah⟩:=e_ (t.op);obtain ⟨ts,ai⟩:=e_ (t.sort);rw [← ah] at t0 y0 q1 q2;rw [← ai] at t2 y2 q3 q4;have HK:Hid (gKind G t=if to=-1 then atU G.U ts else if 0≤to∧to<G.E.length then (G.E.getD to.toNat default).2.2.2.2.2.2 else 0):=z_ (by rw [ah,ai];rfl);obtain ⟨kk,an⟩:=e_ (gKind G t);rw [← an] at HK ⊢;have HN:=z_ hn;clear hM ad ah ai an hn t2;by_cases hv:to=-1
 ·have ab:Hid (kk=atU G.U ts):=z_ (by rw [HK.out,if_pos hv])
  have af:=z_ (fun W (hW:W.cell? ⟨g,o,none⟩=some (.int .i64 to))=>qca g o to W hW true (decide_eq_true hv));have aj:=z_ (fun W (hW:Below (w.alloc (.cells #[.map mm,.slice A n c] 92)).heap.size (w.alloc (.cells #[.map mm,.slice A n c] 92)) W)=>(HM.out.m.below hW).look q3 q4);rw [← ab.out] at aj;clear HK hv;go_enter Tryz.func191,Tryz.ntmps191
  go_wp2_with fail
  generalize w.alloc (.cells #[.map mm,.slice A n c] 92)=W at aa x0 x1 y0 y2 ag HM aj ⊢
  refine (af.out W y0).mono ?_;rintro e w1 ⟨rfl,rfl⟩;have ao:w.heap.size<W.heap.size:=o_;have ap:g<W.heap.size:=o_;have lk:∀ q,(Instr.lookup 89 (.map mm) (.int .i64 ts) false).run Tryz.prog (W.drewN q)=.ok (.int .u16 (kk:Int)) (W.drewN q):=fun q=>aj.out _ (qa3 b_ q)
  have ae:Hid (∀ q,Below w.heap.size w (W.drewN q)):=z_ (fun q=>qa3 aa.out q);go_wp2_with fail
  go_quiet (fail)
  go_wp2;go_ret;exact ⟨rfl,ae.out _⟩
 ·have af:=z_ (fun W (hW:W.cell? ⟨g,o,none⟩=some (.int .i64 to))=>qca g o to W hW false (decide_eq_false hv))
  by_cases ac:0≤to∧to<n
  ·obtain ⟨k,hk⟩:∃ k:Nat,to=(k:Int):=⟨to.toNat,by omega⟩
   have aq:k<n:=o_;have ab:Hid (kk=(G.E.getD k default).2.2.2.2.2.2):=z_ (by rw [HK.out,if_neg hv,if_pos (by rw [← HN.out];exact ac),hk];rfl);have ak:=z_ (fun W=>qbk to n true (decide_eq_true ac) W);obtain ⟨ge,oe,A2,c2,hA,au,hcs,_⟩:=qn3 HM.out.e aq;have al:=hcs 10 o_;obtain ⟨x,hx⟩:=e_ (G.E.getD k default);rw [← hx] at al ab;have am:(w.alloc (.cells #[.map mm,.slice A n c] 92)).cell? ⟨ge,oe+k*11+10,none⟩=some (.int .u16 (kk:Int)):=by rw [al,ab.out];rfl
   have i1:(0:Int)≤(k:Int):=o_;have i2:(k:Int)<(n:Int):=o_;subst hA;subst hk;clear HK hv hcs al hx ac;go_enter Tryz.func191,Tryz.ntmps191
   go_wp2_with fail
   generalize w.alloc (.cells #[.map mm,.slice (some ⟨ge,oe,none⟩) n c] 92)=W at aa x0 x1 y0 y2 ag HM au am ⊢
   refine (af.out W y0).mono ?_;rintro e w1 ⟨rfl,rfl⟩;have ao:w.heap.size<W.heap.size:=o_;have ap:g<W.heap.size:=o_;have ae:Hid (∀ q,Below w.heap.size w (W.drewN q)):=z_ (fun q=>qa3 aa.out q);go_wp2_with fail
   go_quiet ((go_at_call 174;exact (ak.out _).mono (fun _ _ h=>⟨h.1,_,h.2.symm⟩)))
   go_wp2_with fail
   go_quiet (fail)
   go_wp2;go_ret;exact ⟨rfl,qa3 (ae.out _) _⟩
  ·have ab:Hid (kk=0):=z_ (by rw [HK.out,if_neg hv,if_neg (by rw [← HN.out];exact ac)])
   have ak:=z_ (fun W=>qbk to n false (decide_eq_false ac) W);clear HK hv ac;go_enter Tryz.func191,Tryz.ntmps191
   go_wp2_with fail
   generalize w.alloc (.cells #[.map mm,.slice A n c] 92)=W at aa x0 x1 y0 y2 ag HM ⊢
   refine (af.out W y0).mono ?_;rintro e w1 ⟨rfl,rfl⟩;have ao:w.heap.size<W.heap.size:=o_;have ap:g<W.heap.size:=o_;have ae:Hid (∀ q,Below w.heap.size w (W.drewN q)):=z_ (fun q=>qa3 aa.out q);go_wp2_with fail
   go_quiet ((go_at_call 174;exact (ak.out _).mono (fun _ _ h=>⟨h.1,_,h.2.symm⟩)))
   go_wp2;go_ret;exact ⟨qaa (by rw [ab.out];rfl),ae.out _⟩
theorem qen (l:List UInt8):(bstr l).toList=[]↔l=[]:=by
 have h:=qf4 (a:=l) (b:=[]);have e:(bstr []).toList=[]:=by first|rfl|(simp [bstr];done)|(decide +kernel)
 rw [e] at h;constructor
 ·intro hl
  rw [hl] at h;exact of_decide_eq_true h.symm
 ·rintro rfl;exact e
def qd7 (t:TermM):Bool:=decide (t.name=[]∧t.sort=0)
theorem qp1 (t:TermM)(g o:Nat)(w:World)(t1:w.cell? ⟨g,o+1,none⟩=some (.string (bstr t.name)))(t2:w.cell? ⟨g,o+2,none⟩=some (.int .i64 t.sort))(r:Bool)(hr:qd7 t=r):
  Calls Tryz.prog 156 #[.pointer (some ⟨g,o,none⟩)] w fun e w'=>e=.returned (.bool r)∧w=w':=by
 by_cases h1:t.name=[]
 ·rw [h1] at t1
  have HR:Hid ((t.sort==0)=r):=z_ (by rw [← hr,qd7,Bool.eq_iff_iff];simp [h1]);have e1:(bstr []).toList=[]:=(qen []).2 rfl;have e2:(bstr []).toList.isEmpty=true:=by rw [e1];rfl
  clear hr h1;go_enter Tryz.func156,Tryz.ntmps156
  go_wp2;go_ret;exact ⟨qa0 (by rw [← HR.out];try rfl),rfl⟩
 ·have HR:Hid (r=false):=z_ (by rw [← hr,qd7];exact decide_eq_false (fun e=>h1 e.1))
  have e1:¬ (bstr t.name).toList=[]:=fun e=>h1 ((qen _).1 e)
  have e2:(bstr t.name).toList.isEmpty=false:=by
   cases hq:(bstr t.name).toList with
   | nil=>exact absurd hq e1
   | cons _ _=>rfl
  clear hr h1;go_enter Tryz.func156,Tryz.ntmps156
  go_wp2;go_ret;exact ⟨qa0 HR.out.symm,rfl⟩
def varB (G:GrM)(t:TermM):Bool:=qaz t.name&&decide (0≤t.sort∧t.sort<G.U.length)&&decide (t.args.length=0)
theorem qjs (G:GrM)(mv:Value)(A:Option Addr)(n c:Nat)(t:TermM)(g o:Nat)(B:Option Addr)(cb:Nat)(w:World)(hM:HasM w mv (.slice A n c) G)(t1:w.cell? ⟨g,o+1,none⟩=some (.string (bstr t.name)))(t2:w.cell? ⟨g,o+2,none⟩=some (.int .i64 t.sort))(t3:w.cell? ⟨g,o+3,none⟩=some (.slice B t.args.length cb))(hB:Bnd t)(r:Bool)(hr:varB G t=r):
  Calls Tryz.prog 151 #[.agg #[mv,.slice A n c],.pointer (some ⟨g,o,none⟩)] w fun e w'=>e=.returned (.bool r)∧Below w.heap.size w w':=by
 obtain ⟨mm,rfl⟩:=qd6 hM.m;have hg:=l_ t1;simp only [] at hg;have aa:Below w.heap.size w (w.alloc (.cells #[.map mm,.slice A n c] 92)):=b_.alloc n_ _;have ab:=z_ aa;have x0:(w.alloc (.cells #[.map mm,.slice A n c] 92)).cell? ⟨w.heap.size,0,none⟩=some (.map mm):=by simp
 have y1:=(aa.cell (p:=⟨g,o+1,none⟩) hg).trans t1;have y2:=(aa.cell (p:=⟨g,o+2,none⟩) hg).trans t2;have y3:=(aa.cell (p:=⟨g,o+3,none⟩) hg).trans t3;have ae:(w.alloc (.cells #[.map mm,.slice A n c] 92)).heap.size=w.heap.size+1:=by simp
 obtain ⟨q0,⟨q3,q4⟩,⟨q1,q2⟩⟩:=hB;have aj:=z_ (fun r hr W=>qi4 t.name q0 r hr W);have ak:=z_ (fun r hr W (hW:Below (w.alloc (.cells #[.map mm,.slice A n c] 92)).heap.size (w.alloc (.cells #[.map mm,.slice A n c] 92)) W)=>qid G.U (.map mm) t.sort q1 q2 r hr W ((hM.below aa).m.below hW));obtain ⟨m,hm⟩:=e_ (t.args.length);rw [← hm] at y3;obtain ⟨p1,af⟩:=e_ (qaz t.name);obtain ⟨p2,ag⟩:=e_ (decide (0≤t.sort∧t.sort<G.U.length));have HR:Hid ((p1&&p2&&decide (m=0))=r):=z_ (by rw [af,ag,hm,← hr];rfl);have ah:=z_ (fun W=>aj.out p1 af.symm W);have ac:=z_ (fun W hW=>ak.out p2 ag.symm W hW);clear hM aa t1 t2 t3 hr hm af ag aj ak;cases p1 with
 | false=>
  go_enter Tryz.func151,Tryz.ntmps151
  go_wp2_with fail
  generalize w.alloc (.cells #[.map mm,.slice A n c] 92)=W at ab x0 y1 y2 y3 ae ac ⊢
  have al:w.heap.size<W.heap.size:=o_;have am:g<W.heap.size:=o_;have ad:Hid (∀ q,Below w.heap.size w (W.drewN q)):=z_ (fun q=>qa3 ab.out q);go_quiet ((go_at_call 187;exact (ah.out _).mono (fun _ _ h=>⟨h.1,_,h.2.symm⟩)))
  go_wp2;go_ret;exact ⟨qa0 (by rw [← HR.out];rfl),ad.out _⟩
 | true=>
  cases p2 with
  | false=>
   go_enter Tryz.func151,Tryz.ntmps151
   go_wp2_with fail
   generalize w.alloc (.cells #[.map mm,.slice A n c] 92)=W at ab x0 y1 y2 y3 ae ac ⊢
   have al:w.heap.size<W.heap.size:=o_;have am:g<W.heap.size:=o_;have ad:Hid (∀ q,Below w.heap.size w (W.drewN q)):=z_ (fun q=>qa3 ab.out q);have ai:=z_ (fun q=>ac.out (W.drewN q) (qa3 b_ q));go_quiet (first|(go_at_call 187;exact (ah.out _).mono (fun _ _ h=>⟨h.1,_,h.2.symm⟩))|(go_at_call 188;exact (ai.out _).mono (fun _ _ h=>⟨h.1,_,h.2.symm⟩)))
   go_wp2;go_ret;exact ⟨qa0 (by rw [← HR.out];rfl),ad.out _⟩
  | true=>
   have hmc:(m=0∧Hid (r=true))∨(((m:Int)==0)=false∧decide ((m:Int)=0)=false∧¬ m=0∧Hid (r=false)):=by
    by_cases hz:m=0
    ·exact .inl ⟨hz,z_ (by rw [← HR.out,hz];rfl)⟩
    ·exact .inr ⟨by simp;omega,f_,hz,z_ (by rw [← HR.out];simp [hz])⟩
   rcases hmc with ⟨rfl,HF⟩|⟨d1,d2,d3,HF⟩
   all_goals
    go_enter Tryz.func151,Tryz.ntmps151
    go_wp2_with fail
    generalize w.alloc (.cells #[.map mm,.slice A n c] 92)=W at ab x0 y1 y2 y3 ae ac ⊢
    have al:w.heap.size<W.heap.size:=o_;have am:g<W.heap.size:=o_;have ad:Hid (∀ q,Below w.heap.size w (W.drewN q)):=z_ (fun q=>qa3 ab.out q);have ai:=z_ (fun q=>ac.out (W.drewN q) (qa3 b_ q));go_quiet (first|(go_at_call 187;exact (ah.out _).mono (fun _ _ h=>⟨h.1,_,h.2.symm⟩))|(go_at_call 188;exact (ai.out _).mono (fun _ _ h=>⟨h.1,_,h.2.symm⟩)))
    go_wp2;go_ret;exact ⟨qa0 (by rw [HF.out];try rfl),ad.out _⟩
end gramk

namespace gramc
open mem sortp sorti rowl trm terml termb termt gram gramo gramk
def GrOk (G:GrM):Prop:=∀ j,j<G.E.length→(G.E.getD j default).2.1=j∧(G.E.getD j default).2.2.1≤3∧0≤(G.E.getD j default).1.unt∧I64 (G.E.getD j default).1.unt
def qh9 (x:OpE)(m:Nat):Bool:=if x.1.ass then decide (2≤m) else decide (m=x.2.2.1)
def CanP (G:GrM)(op:Int)(L:List TermM):Prop:=(0≤op∧op<G.E.length)∧qh9 (G.E.getD op.toNat default) L.length=true∧∀ i,i<L.length→gKind G (L.getD i default)=kAtS (G.E.getD op.toNat default).1.ass (G.E.getD op.toNat default).2.2 i
set_option maxRecDepth 20000 in
set_option maxHeartbeats 8000000 in
theorem qha {N lo:Nat}(G:GrM)(hG:GrOk G)(mv:Value)(A:Option Addr)(n c:Nat)(op:Int)(aH:I64 op)(L:List TermM)(v:Value)(w:World)(hM:HasM w mv (.slice A n c) G)(hn:n=G.E.length)(h:HasTs N lo w v L)(r:Bool)(hr:r=true↔CanP G op L):
  Calls Tryz.prog 157 #[.agg #[mv,.slice A n c],.int .i64 op,v] w fun e w'=>e=.returned (.bool r)∧Below w.heap.size w w':=by
 obtain ⟨mm,rfl⟩:=qd6 hM.m;obtain ⟨m,hm⟩:=e_ (L.length);obtain ⟨B,cb,rfl,h⟩:=HasR.shape h hm.symm;have hl:=h.len.2.1;have ai:Below w.heap.size w (w.alloc (.cells #[.map mm,.slice A n c] 92)):=b_.alloc n_ _;have aj:=z_ ai;have x0:(w.alloc (.cells #[.map mm,.slice A n c] 92)).cell? ⟨w.heap.size,0,none⟩=some (.map mm):=by simp
 have x1:(w.alloc (.cells #[.map mm,.slice A n c] 92)).cell? ⟨w.heap.size,1,none⟩=some (.slice A n c):=by simp
 have aI:(w.alloc (.cells #[.map mm,.slice A n c] 92)).heap.size=w.heap.size+1:=by simp
 have HM:=z_ (hM.below ai);have HH:=z_ (h.below n_ ai);have HN:=z_ hn;have aR:=z_ hm;have HR:=z_ hr;clear hM ai h hr;by_cases ad:0≤op∧op<n
 ·obtain ⟨k,hk⟩:∃ k:Nat,op=(k:Int):=⟨op.toNat,by omega⟩
  have aJ:k<n:=o_;have ae:=z_ (fun W=>qbk op n true (decide_eq_true ad) W);obtain ⟨ge,oe,A2,c2,hA,ax,hcs,_⟩:=qn3 HM.out.e aJ;obtain ⟨aK,ay,aL,aM⟩:=hG k o_
  have af:Hid (r=true↔qh9 (G.E.getD k default) m=true∧∀ i,i<m→gKind G (L.getD i default)=kAtS (G.E.getD k default).1.ass (G.E.getD k default).2.2 i):=z_ (by
   rw [HR.out,CanP,hk,← hn,← hm];have h1:(0:Int)≤(k:Int)∧(k:Int)<(n:Int):=o_
   simp only [h1,true_and,Int.toNat_natCast,and_self])
  obtain ⟨⟨⟨nm,ds,a,b,u⟩,i,s0,s1,s2,s3,s4⟩,hx⟩:∃ x,x=G.E.getD k default:=⟨_,rfl⟩;rw [← hx] at hcs af ay;simp only [] at ay;obtain ⟨dl,az⟩:=e_ (ds.length);have e0:(w.alloc (.cells #[.map mm,.slice A n c] 92)).cell? ⟨ge,oe+k*11,none⟩=some (.string (bstr nm)):=hcs 0 o_;have e1:(w.alloc (.cells #[.map mm,.slice A n c] 92)).cell? ⟨ge,oe+k*11+1,none⟩=some (.slice A2 dl c2):=by rw [az];exact hcs 1 o_
  have e2:(w.alloc (.cells #[.map mm,.slice A n c] 92)).cell? ⟨ge,oe+k*11+2,none⟩=some (.bool a):=hcs 2 o_;have e3:(w.alloc (.cells #[.map mm,.slice A n c] 92)).cell? ⟨ge,oe+k*11+3,none⟩=some (.bool b):=hcs 3 o_;have e4:(w.alloc (.cells #[.map mm,.slice A n c] 92)).cell? ⟨ge,oe+k*11+4,none⟩=some (.int .i64 u):=hcs 4 o_;have e5:(w.alloc (.cells #[.map mm,.slice A n c] 92)).cell? ⟨ge,oe+k*11+5,none⟩=some (.int .i64 (i:Int)):=hcs 5 o_;have e6:(w.alloc (.cells #[.map mm,.slice A n c] 92)).cell? ⟨ge,oe+k*11+6,none⟩=some (.int .i64 (s0:Int)):=hcs 6 o_;have e7:(w.alloc (.cells #[.map mm,.slice A n c] 92)).cell? ⟨ge,oe+k*11+7,none⟩=some (.int .u16 (s1:Int)):=hcs 7 o_;have e8:(w.alloc (.cells #[.map mm,.slice A n c] 92)).cell? ⟨ge,oe+k*11+8,none⟩=some (.int .u16 (s2:Int)):=hcs 8 o_;have e9:(w.alloc (.cells #[.map mm,.slice A n c] 92)).cell? ⟨ge,oe+k*11+9,none⟩=some (.int .u16 (s3:Int)):=hcs 9 o_;have an:(w.alloc (.cells #[.map mm,.slice A n c] 92)).cell? ⟨ge,oe+k*11+10,none⟩=some (.int .u16 (s4:Int)):=hcs 10 o_;have i1:(0:Int)≤(k:Int):=o_;have i2:(k:Int)<(n:Int):=o_;obtain ⟨tk,htk⟩:=e_ (qh9 ((⟨nm,ds,a,b,u⟩,i,s0,s1,s2,s3,s4):OpE) m);have ao:=z_ (fun W=>quw nm A2 dl c2 a b u i s0 s1 s2 s3 s4 m hl tk htk.symm W);have aN:Hid (tk=if a then decide (2≤m) else decide (m=s0)):=z_ htk;rw [← htk] at af;subst hA;subst hk;clear hcs hx ad az htk aK aL aM hn hm;cases tk with
  | false=>
   have HF:Hid (r=false):=z_ (by cases hq:r with|false=>rfl|true=>exact absurd (af.out.1 hq).1 (by simp));go_enter Tryz.func157,Tryz.ntmps157
   go_wp2_with fail
   refine (ae.out _).mono ?_;rintro e w1 ⟨rfl,rfl⟩;go_wp2_with fail
   refine (ao.out _).mono ?_;rintro e w2 ⟨rfl,hb2⟩;have ap:Hid (Below w.heap.size w w2):=z_ (aj.out.trans (hb2.mono (by rw [aI];omega)));clear hb2;go_wp2;go_ret;exact ⟨qa0 HF.out.symm,ap.out⟩
  | true=>
   have aO:a=false→m≤3:=fun ha=>by
    have:=aN.out;rw [ha,if_neg (by simp)] at this;have:=of_decide_eq_true this.symm;omega
   go_enter Tryz.func157,Tryz.ntmps157
   go_wp2_with fail
   refine (ae.out _).mono ?_;rintro e w1 ⟨rfl,rfl⟩;go_wp2_with fail
   refine (ao.out _).mono ?_;rintro e w2 ⟨rfl,hb2⟩;generalize w.alloc (.cells #[.map mm,.slice (some ⟨ge,oe,none⟩) n c] 92)=W at *
   have aa:=ax;have ag:w.heap.size<W.heap.size:=o_;clear ae ao ax i1 i2 aH;go_wp2;go_loopw [7,27] (fun _ aP wr=>∃ p:Nat,aP=.int .i64 p∧p≤m∧Hid (∀ i,i<p→gKind G (L.getD i default)=kAtS a (s0,s1,s2,s3,s4) i)∧Hid (Below W.heap.size W wr)) (fun _ i _=>m-(intOf i).toNat)
   case atStart=>exact ⟨0,rfl,y_,z_ (fun i h=>absurd h (Nat.not_lt_zero _)),z_ hb2⟩
   case round=>
    obtain ⟨p,rfl,hp,ah,HB⟩:=hrel;by_cases ak:p<m
    ·have d1:decide ((p:Int)<(m:Int))=true:=d_
     have d3:decide (p<m)=true:=decide_eq_true ak;obtain ⟨_,g,o,A3,c3,_,rfl,_,aq,t0,_,t2,_,_,aA⟩:=qaj HH.out ak;obtain ⟨x,hx⟩:=e_ (L.getD p default);rw [← hx] at t0 t2 aA;have ac:=HB.out;have aB:g<wr.heap.size:=w_ aq ac.size;have ab:ge<wr.heap.size:=w_ aa ac.size;have aC:w.heap.size<wr.heap.size:=w_ ag ac.size;have kc:∀ b y,b<W.heap.size→wr.cell? ⟨b,y,none⟩=W.cell? ⟨b,y,none⟩:=fun b y h=>ac.cell (p:=⟨b,y,none⟩) h
     have r0:∀ t:BoxC (Below wr.heap.size wr),t.W.cell? ⟨w.heap.size,0,none⟩=some (.map mm):=fun t=>t.cell ((kc _ _ ag).trans x0) aC
     have r1:∀ t:BoxC (Below wr.heap.size wr),t.W.cell? ⟨w.heap.size,1,none⟩=some (.slice (some ⟨ge,oe,none⟩) n c):=fun t=>t.cell ((kc _ _ ag).trans x1) aC
     have g0:∀ t:BoxC (Below wr.heap.size wr),t.W.cell? ⟨ge,oe+k*11,none⟩=some (.string (bstr nm)):=fun t=>t.cell ((kc _ _ aa).trans e0) ab
     have g1:∀ t:BoxC (Below wr.heap.size wr),t.W.cell? ⟨ge,oe+k*11+1,none⟩=some (.slice A2 dl c2):=fun t=>t.cell ((kc _ _ aa).trans e1) ab
     have g2:∀ t:BoxC (Below wr.heap.size wr),t.W.cell? ⟨ge,oe+k*11+2,none⟩=some (.bool a):=fun t=>t.cell ((kc _ _ aa).trans e2) ab
     have g3:∀ t:BoxC (Below wr.heap.size wr),t.W.cell? ⟨ge,oe+k*11+3,none⟩=some (.bool b):=fun t=>t.cell ((kc _ _ aa).trans e3) ab
     have g4:∀ t:BoxC (Below wr.heap.size wr),t.W.cell? ⟨ge,oe+k*11+4,none⟩=some (.int .i64 u):=fun t=>t.cell ((kc _ _ aa).trans e4) ab
     have g5:∀ t:BoxC (Below wr.heap.size wr),t.W.cell? ⟨ge,oe+k*11+5,none⟩=some (.int .i64 (i:Int)):=fun t=>t.cell ((kc _ _ aa).trans e5) ab
     have g6:∀ t:BoxC (Below wr.heap.size wr),t.W.cell? ⟨ge,oe+k*11+6,none⟩=some (.int .i64 (s0:Int)):=fun t=>t.cell ((kc _ _ aa).trans e6) ab
     have g7:∀ t:BoxC (Below wr.heap.size wr),t.W.cell? ⟨ge,oe+k*11+7,none⟩=some (.int .u16 (s1:Int)):=fun t=>t.cell ((kc _ _ aa).trans e7) ab
     have g8:∀ t:BoxC (Below wr.heap.size wr),t.W.cell? ⟨ge,oe+k*11+8,none⟩=some (.int .u16 (s2:Int)):=fun t=>t.cell ((kc _ _ aa).trans e8) ab
     have g9:∀ t:BoxC (Below wr.heap.size wr),t.W.cell? ⟨ge,oe+k*11+9,none⟩=some (.int .u16 (s3:Int)):=fun t=>t.cell ((kc _ _ aa).trans e9) ab
     have aD:∀ t:BoxC (Below wr.heap.size wr),t.W.cell? ⟨ge,oe+k*11+10,none⟩=some (.int .u16 (s4:Int)):=fun t=>t.cell ((kc _ _ aa).trans an) ab
     obtain ⟨kk,au⟩:=e_ (gKind G x);obtain ⟨ka,av⟩:=e_ (kAtS a (s0,s1,s2,s3,s4) p)
     have al:Hid (∀ t:BoxC (Below wr.heap.size wr),Calls Tryz.prog 191 #[.agg #[.map mm,.slice (some ⟨ge,oe,none⟩) n c],.pointer (some ⟨g,o+p*4,none⟩)] t.W fun e w'=>e=.returned (.int .u16 (kk:Int))∧Below t.W.heap.size t.W w'):=z_ (fun t=>by
      have hb:=ac.trans (t.h.mono ac.size);rw [au]
      exact qso G (.map mm) _ n c x g (o+p*4) t.W (HM.out.below hb) HN.out (t.cell ((kc _ _ aq).trans t0) aB) (t.cell ((kc _ _ aq).trans t2) aB) aA)
     have am:Hid (∀ t:BoxC (Below wr.heap.size wr),Calls Tryz.prog 192 #[aggE nm A2 dl c2 a b u i s0 s1 s2 s3 s4,.int .i64 p] t.W fun e w'=>e=.returned (.int .u16 (ka:Int))∧Below t.W.heap.size t.W w'):=z_ (fun t=>by
      rw [av]
      exact qsk nm A2 dl c2 a b u i s0 s1 s2 s3 s4 p (fun ha=>by have:=aO ha;omega) t.W)
     have aE:Hid (kk=gKind G (L.getD p default)):=z_ (by rw [au,hx]);have aF:=z_ av;have nb:Nonempty (BoxC (Below wr.heap.size wr)):=⟨⟨_,Below.refl _ _⟩⟩;have i1:(0:Int)≤(k:Int):=o_;have i2:(k:Int)<(n:Int):=o_;have i3:(0:Int)≤(p:Int):=o_;have i4:(p:Int)<(m:Int):=o_;have aG:=ac.size;clear t0 t2 ac kc au av hx x0 x1 e0 e1 e2 e3 e4 e5 e6 e7 e8 e9 an;by_cases hq:kk=ka
     ·have q1:((kk:Int)==(ka:Int))=true:=by rw [hq];simp
      have q2:(kk==ka)=true:=by rw [hq];simp
      have q3:decide (kk=ka)=true:=decide_eq_true hq;go_wp2_with fail
      refine qa1 (C:=Below wr.heap.size wr) k_ k_ b_.drew ?_;repeat (first|go_big_quiet_step ((go_at_call 191;exact (al.out _).mono (fun _ _ h=>⟨h.1,BoxC.step _ h.2⟩)))|go_big_quiet_step ((go_at_call 192;exact (am.out _).mono (fun _ _ h=>⟨h.1,BoxC.step _ h.2⟩))))
      refine wpQuiet_nil ?_;rintro w5 ⟨t5,rfl⟩;have aw:=z_ (HB.out.trans (t5.h.mono aG))
      have HA:Hid (∀ i,i<p+1→gKind G (L.getD i default)=kAtS a (s0,s1,s2,s3,s4) i):=z_ (fun j hj=>by
       by_cases e:j=p
       ·subst e;rw [← aE.out,← aF.out,hq]
       ·exact ah.out j o_)
      clear r0 r1 g0 g1 g2 g3 g4 g5 g6 g7 g8 g9 aD nb al am;go_wp2;go_roundw
      case measure=>simp [intOf];omega
      case rel=>exact ⟨p+1,by go_num,by omega,HA,aw⟩
     ·have q1:((kk:Int)==(ka:Int))=false:=by simp;omega
      have q2:(kk==ka)=false:=by simp [hq]
      have q3:decide (kk=ka)=false:=decide_eq_false hq
      have HF:Hid (r=false):=z_ (by
       cases aQ:r with
       | false=>rfl
       | true=>exact absurd ((af.out.1 aQ).2 p ak) (by rw [← aE.out,← aF.out];exact hq))
      go_wp2_with fail
      refine qa1 (C:=Below wr.heap.size wr) k_ k_ b_.drew ?_;repeat (first|go_big_quiet_step ((go_at_call 191;exact (al.out _).mono (fun _ _ h=>⟨h.1,BoxC.step _ h.2⟩)))|go_big_quiet_step ((go_at_call 192;exact (am.out _).mono (fun _ _ h=>⟨h.1,BoxC.step _ h.2⟩))))
      refine wpQuiet_nil ?_;rintro w5 ⟨t5,rfl⟩;have aw:=z_ (aj.out.trans ((HB.out.trans (t5.h.mono aG)).mono (Nat.le_of_lt ag)));clear r0 r1 g0 g1 g2 g3 g4 g5 g6 g7 g8 g9 aD nb al am;go_wp2;go_ret;exact ⟨qa0 HF.out.symm,aw.out⟩
    ·have d1:decide ((p:Int)<(m:Int))=false:=f_
     have d3:decide (p<m)=false:=decide_eq_false ak;have HT:Hid (r=true):=z_ (af.out.2 ⟨by first|rfl|trivial,fun i hi=>ah.out i o_⟩);have ap:=z_ (aj.out.trans (HB.out.mono (Nat.le_of_lt ag)));clear e0 e1 e2 e3 e4 e5 e6 e7 e8 e9 an x0 x1;go_wp2;go_ret;exact ⟨qa0 HT.out.symm,ap.out⟩
 ·have ae:=z_ (fun W=>qbk op n false (decide_eq_false ad) W)
  have HF:Hid (r=false):=z_ (by
   cases hq:r with
   | false=>rfl
   | true=>exact absurd (HR.out.1 hq).1 (by rw [← HN.out];exact ad))
  clear ad hn hm;go_enter Tryz.func157,Tryz.ntmps157
  go_wp2_with fail
  refine (ae.out _).mono ?_;rintro e w1 ⟨rfl,rfl⟩;go_wp2;go_ret;exact ⟨qa0 HF.out.symm,aj.out⟩
end gramc

namespace gramn
open mem sortp sorti rowl trm trmv terml termb termt termvr gram gramo graml gramk gramc
theorem qbh (w:World)(o1 o2:Obj):((w.alloc o1).alloc o2).heap[w.heap.size]? =some o1:=by
 show ((w.heap.push o1).push o2)[w.heap.size]? =some o1;rw [Array.getElem?_push,if_neg (by simp;try omega),Array.getElem?_push,if_pos rfl]
noncomputable instance (L:List TermM):Decidable (Srt L):=by unfold Srt;infer_instance
noncomputable def qsp (x:OpE)(L:List TermM)(s:Bool):Bool:=!(L.any (isUB x.1.unt))&&!(L.any (isAB x.1.ass x.2.1))&&(!x.1.com || s)
def qc0 (G:GrM)(t:TermM):Prop:=if t.op=-1 then varB G t=true else qd7 t=true∧CanP G t.op t.args∧qsp (G.E.getD t.op.toNat default) t.args (decide (Srt t.args))=true
set_option maxRecDepth 50000 in
set_option maxHeartbeats 8000000 in
theorem qsq {N lo:Nat}(G:GrM)(hG:GrOk G)(mv:Value)(A:Option Addr)(n c:Nat)(t:TermM)(g o d:Nat)(B:Option Addr)(cb:Nat)(w:World)(hM:HasM w mv (.slice A n c) G)(hn:n=G.E.length)
  (t0:w.cell? ⟨g,o,none⟩=some (.int .i64 t.op)) (t1:w.cell? ⟨g,o+1,none⟩=some (.string (bstr t.name))) (t2:w.cell? ⟨g,o+2,none⟩=some (.int .i64 t.sort)) (t3:w.cell? ⟨g,o+3,none⟩=some (.slice B t.args.length cb))
  (h:HasTs N lo w (.slice B t.args.length cb) t.args) (hB:Bnd t) (hsz:sizes t.args≤2097152) (r:Bool) (hr:r=true↔qc0 G t):
  Calls Tryz.prog 95 #[.agg #[mv,.slice A n c],.agg #[.pointer (some ⟨g,o,none⟩),.int .i64 d]] w fun e w'=>e=.returned (.bool r)∧Below w.heap.size w w':=by
 obtain ⟨mm,rfl⟩:=qd6 hM.m;have hg:=l_ t0;simp only [] at hg;obtain ⟨W,hW⟩:=e_ ((w.alloc (.cells #[.map mm,.slice A n c] 92)).alloc (.cells #[.pointer (some ⟨g,o,none⟩),.int .i64 d] 164));have ab:Below w.heap.size w W:=by
  rw [hW];exact v_
 have x0:W.cell? ⟨w.heap.size,0,none⟩=some (.map mm):=by rw [hW];exact h_ _ _ 0 _ _ _ (qbh _ _ _)
 have x1:W.cell? ⟨w.heap.size,1,none⟩=some (.slice A n c):=by rw [hW];exact h_ _ _ 1 _ _ _ (qbh _ _ _)
 have y0:W.cell? ⟨w.heap.size+1,0,none⟩=some (.pointer (some ⟨g,o,none⟩)):=by rw [hW];exact h_ _ _ 0 _ _ _ (qa5 _ _ _ (by simp))
 have am:W.heap.size=w.heap.size+2:=by rw [hW];simp
 have an:g<W.heap.size:=o_;have z0:=(ab.cell (p:=⟨g,o,none⟩) hg).trans t0;have z1:=(ab.cell (p:=⟨g,o+1,none⟩) hg).trans t1;have z2:=(ab.cell (p:=⟨g,o+2,none⟩) hg).trans t2;have z3:=(ab.cell (p:=⟨g,o+3,none⟩) hg).trans t3;have ae:=z_ ab;have HM:=z_ (hM.below ab);have HH:=z_ (h.below n_ ab);have HN:=z_ hn;have HR:=z_ hr;have ay:=z_ hB;obtain ⟨to,ac⟩:=e_ (t.op);obtain ⟨ar,af⟩:=e_ (t.args.length);by_cases hv:to=-1
 ·have ak:=z_ (fun V (hV:V.cell? ⟨g,o,none⟩=some (.int .i64 to))=>qca g o to V hV true (decide_eq_true hv))
  have HC:=z_
   (qjs G _ A n c t g o B cb W HM.out z1 z2 z3 ay.out r (by
    have h1:=HR.out;rw [qc0,if_pos (by rw [← ac];exact hv)] at h1;cases r with
    | true=>exact h1.1 rfl
    | false=>cases hq:varB G t with
     | false=>rfl
     | true=>exact absurd (h1.2 hq) (by simp)))
  rw [← ac] at z0;clear am hM ab t0 t1 t2 t3 z1 z2 z3 h hn hr hB ac af hv HM HH;go_enter Tryz.func95,Tryz.ntmps95
  go_wp2_with fail
  rw [← hW];clear hW;refine (ak.out _ z0).mono ?_;rintro e w1 ⟨rfl,rfl⟩;go_wp2_with fail
  refine HC.out.mono ?_;rintro e w1 ⟨rfl,av⟩;have HF:=z_ (ae.out.trans (av.mono ae.out.size));clear av;go_wp2;go_ret;exact ⟨rfl,HF.out⟩
 ·have ak:=z_ (fun V (hV:V.cell? ⟨g,o,none⟩=some (.int .i64 to))=>qca g o to V hV false (decide_eq_false hv))
  have ag:Hid (r=true↔qd7 t=true∧CanP G to t.args∧qsp (G.E.getD to.toNat default) t.args (decide (Srt t.args))=true):=z_ (by
   have h1:=HR.out;rw [qc0,if_neg (by rw [← ac];exact hv),← ac] at h1
   exact h1)
  have hI:I64 to:=by rw [ac];exact hB.2.1
  obtain ⟨pb,ah⟩:=e_ (qd7 t);obtain ⟨aq,ai⟩:∃ q:Bool,q=true↔CanP G to t.args:=by
   by_cases hq:CanP G to t.args
   ·exact ⟨true,fun _=>hq,fun _=>rfl⟩
   ·exact ⟨false,fun e=>absurd e (by simp),fun e=>absurd e hq⟩
  have HP:Hid (∀ t':BoxC (Below W.heap.size W),Calls Tryz.prog 156 #[.pointer (some ⟨g,o,none⟩)] t'.W fun e w'=>e=.returned (.bool pb)∧Below t'.W.heap.size t'.W w'):=z_ (fun t'=>
   (qp1 t g o t'.W (t'.cell z1 an) (t'.cell z2 an) pb ah.symm).mono (fun _ _ q=>⟨q.1,q.2 ▸ Below.refl _ _⟩))
  have HC:Hid (∀ t':BoxC (Below W.heap.size W),Calls Tryz.prog 157 #[.agg #[.map mm,.slice A n c],.int .i64 to,.slice B ar cb] t'.W fun e w'=>e=.returned (.bool aq)∧Below t'.W.heap.size t'.W w'):=z_ (fun t'=>by
   rw [af]
   exact qha G hG _ A n c to hI t.args _ t'.W (HM.out.below t'.h) HN.out (HH.out.below n_ t'.h) aq ai)
  have r0:∀ t':BoxC (Below W.heap.size W),t'.W.cell? ⟨w.heap.size,0,none⟩=some (.map mm):=fun t'=>t'.cell x0 (by show _<_;omega)
  have r1:∀ t':BoxC (Below W.heap.size W),t'.W.cell? ⟨w.heap.size,1,none⟩=some (.slice A n c):=fun t'=>t'.cell x1 (by show _<_;omega)
  have r2:∀ t':BoxC (Below W.heap.size W),t'.W.cell? ⟨w.heap.size+1,0,none⟩=some (.pointer (some ⟨g,o,none⟩)):=fun t'=>t'.cell y0 (by show _<_;omega)
  have r3:∀ t':BoxC (Below W.heap.size W),t'.W.cell? ⟨g,o,none⟩=some (.int .i64 to):=fun t'=>t'.cell (by rw [ac];exact z0) an
  have r4:∀ t':BoxC (Below W.heap.size W),t'.W.cell? ⟨g,o+3,none⟩=some (.slice B ar cb):=fun t'=>t'.cell (by rw [af];exact z3) an
  have nb:Nonempty (BoxC (Below W.heap.size W)):=⟨⟨_,Below.refl _ _⟩⟩;have aj:W.cell? ⟨g,o,none⟩=some (.int .i64 to):=by rw [ac];exact z0
  cases pb with
  | false=>
   have HF:Hid (r=false):=z_ (by cases hq:r with
    | false=>rfl
    | true=>exact absurd (ag.out.1 hq).1 (by rw [← ah];simp))
   clear am hM ab t0 t1 t2 t3 z0 z1 z2 z3 h hn hr hB ac af hv HM HH HR ag ah ai hI HC;go_enter Tryz.func95,Tryz.ntmps95
   go_wp2_with fail
   rw [← hW];clear hW;refine (ak.out _ aj).mono ?_;rintro e w1 ⟨rfl,rfl⟩;go_wp2_with fail
   refine qa1 (C:=Below W.heap.size W) k_ k_ b_.drew ?_;repeat (go_big_quiet_step ((go_at_call 156;exact (HP.out _).mono (fun _ _ h=>⟨h.1,BoxC.step _ h.2⟩))))
   refine wpQuiet_nil ?_;rintro w5 ⟨t5,rfl⟩;have al:=z_ (ae.out.trans (t5.h.mono ae.out.size));clear r0 r1 r2 r3 r4 nb HP x0 x1 y0 aj;go_wp2;go_ret;exact ⟨qa0 HF.out.symm,al.out⟩
  | true=>
   cases aq with
   | false=>
    have HF:Hid (r=false):=z_ (by cases hq:r with
     | false=>rfl
     | true=>exact absurd (ai.2 (ag.out.1 hq).2.1) (by simp))
    clear am hM ab t0 t1 t2 t3 z0 z1 z2 z3 h hn hr hB ac af hv HM HH HR ag ah ai hI;go_enter Tryz.func95,Tryz.ntmps95
    go_wp2_with fail
    rw [← hW];clear hW;refine (ak.out _ aj).mono ?_;rintro e w1 ⟨rfl,rfl⟩;go_wp2_with fail
    refine qa1 (C:=Below W.heap.size W) k_ k_ b_.drew ?_;repeat (first|go_big_quiet_step ((go_at_call 156;exact (HP.out _).mono (fun _ _ h=>⟨h.1,BoxC.step _ h.2⟩)))|go_big_quiet_step ((go_at_call 157;exact (HC.out _).mono (fun _ _ h=>⟨h.1,BoxC.step _ h.2⟩))))
    refine wpQuiet_nil ?_;rintro w5 ⟨t5,rfl⟩;have al:=z_ (ae.out.trans (t5.h.mono ae.out.size));clear r0 r1 r2 r3 r4 nb HP HC x0 x1 y0 aj;go_wp2;go_ret;exact ⟨qa0 HF.out.symm,al.out⟩
   | true=>
    have ad:=ai.1 rfl;obtain ⟨k,rfl⟩:∃ k:Nat,to=(k:Int):=⟨to.toNat,by have:=ad.1;omega⟩;have aw:k<n:=by have:=ad.1.2;omega
    obtain ⟨ge,oe,A2,c2,hA,az,hcs,_⟩:=qn3 HM.out.e aw;obtain ⟨aA,aB,ao,ap⟩:=hG k o_
    have au:Hid (r=qsp (G.E.getD k default) t.args (decide (Srt t.args))):=z_ (by
     have h1:=ag.out;rw [← ah] at h1;simp only [ad,true_and,Int.toNat_natCast] at h1;rw [Bool.eq_iff_iff]
     exact h1)
    obtain ⟨⟨⟨nm,ds,a,b,u⟩,i,s0,s1,s2,s3,s4⟩,hx⟩:∃ x,x=G.E.getD k default:=⟨_,rfl⟩;rw [← hx] at hcs au ao ap;simp only [] at ao ap;obtain ⟨dl,ax⟩:=e_ (ds.length)
    have aa:∀ (j:Nat) (v:Value),j<11→(encE (⟨nm,ds,a,b,u⟩,i,s0,s1,s2,s3,s4) (.slice A2 dl c2)).getD j undef=v→∀ t':BoxC (Below W.heap.size W),t'.W.cell? ⟨ge,oe+k*11+j,none⟩=some v:=fun j v hj e t'=>by
     refine t'.cell ?_ az;rw [hcs j hj,← e,ax]
    have g0:∀ t:BoxC (Below W.heap.size W),t.W.cell? ⟨ge,oe+k*11,none⟩=some (.string (bstr nm)):=aa 0 _ o_ rfl;have g1:∀ t:BoxC (Below W.heap.size W),t.W.cell? ⟨ge,oe+k*11+1,none⟩=some (.slice A2 dl c2):=aa 1 _ o_ rfl;have g2:∀ t:BoxC (Below W.heap.size W),t.W.cell? ⟨ge,oe+k*11+2,none⟩=some (.bool a):=aa 2 _ o_ rfl;have g3:∀ t:BoxC (Below W.heap.size W),t.W.cell? ⟨ge,oe+k*11+3,none⟩=some (.bool b):=aa 3 _ o_ rfl;have g4:∀ t:BoxC (Below W.heap.size W),t.W.cell? ⟨ge,oe+k*11+4,none⟩=some (.int .i64 u):=aa 4 _ o_ rfl;have g5:∀ t:BoxC (Below W.heap.size W),t.W.cell? ⟨ge,oe+k*11+5,none⟩=some (.int .i64 (i:Int)):=aa 5 _ o_ rfl;have g6:∀ t:BoxC (Below W.heap.size W),t.W.cell? ⟨ge,oe+k*11+6,none⟩=some (.int .i64 (s0:Int)):=aa 6 _ o_ rfl;have g7:∀ t:BoxC (Below W.heap.size W),t.W.cell? ⟨ge,oe+k*11+7,none⟩=some (.int .u16 (s1:Int)):=aa 7 _ o_ rfl;have g8:∀ t:BoxC (Below W.heap.size W),t.W.cell? ⟨ge,oe+k*11+8,none⟩=some (.int .u16 (s2:Int)):=aa 8 _ o_ rfl;have g9:∀ t:BoxC (Below W.heap.size W),t.W.cell? ⟨ge,oe+k*11+9,none⟩=some (.int .u16 (s3:Int)):=aa 9 _ o_ rfl;have aC:∀ t:BoxC (Below W.heap.size W),t.W.cell? ⟨ge,oe+k*11+10,none⟩=some (.int .u16 (s4:Int)):=aa 10 _ o_ rfl
    have HL:Hid (∀ t':BoxC (Below W.heap.size W),Calls Tryz.prog 158 #[aggE nm A2 dl c2 a b u i s0 s1 s2 s3 s4,.slice B ar cb] t'.W fun e w'=>e=.returned (.bool r)∧Below t'.W.heap.size t'.W w'):=z_ (fun t'=>by
     rw [af]
     exact qsn nm A2 dl c2 a b u ap ao i s0 s1 s2 s3 s4 t.args _ t'.W (HH.out.below n_ t'.h) hsz (decide (Srt t.args)) decide_eq_true_iff r au.out.symm)
    have i1:(0:Int)≤(k:Int):=o_;have i2:(k:Int)<(n:Int):=o_;subst hA;clear am hM ab t0 t1 t2 t3 z0 z1 z2 z3 h hn hr hB ac af hv HM HH HR ag ah ai hI hcs aa hx ax ad aA aB ao ap au aw;go_enter Tryz.func95,Tryz.ntmps95
    go_wp2_with fail
    rw [← hW];clear hW;refine (ak.out _ aj).mono ?_;rintro e w1 ⟨rfl,rfl⟩;go_wp2_with fail
    refine qa1 (C:=Below W.heap.size W) k_ k_ b_.drew ?_;repeat (first|go_big_quiet_step ((go_at_call 156;exact (HP.out _).mono (fun _ _ h=>⟨h.1,BoxC.step _ h.2⟩)))|go_big_quiet_step ((go_at_call 157;exact (HC.out _).mono (fun _ _ h=>⟨h.1,BoxC.step _ h.2⟩)))|go_big_quiet_step ((go_at_call 158;exact (HL.out _).mono (fun _ _ h=>⟨h.1,BoxC.step _ h.2⟩))))
    refine wpQuiet_nil ?_;rintro w5 ⟨t5,rfl⟩;have al:=z_ (ae.out.trans (t5.h.mono ae.out.size));clear r0 r1 r2 r3 r4 nb HP HC HL x0 x1 y0 aj g0 g1 g2 g3 g4 g5 g6 g7 g8 g9 aC;go_wp2;go_ret;exact ⟨rfl,al.out⟩
end gramn

namespace termcf
open mem rowl trm trmv terml termb termt termro termvr
noncomputable def dedN (L:List TermM):Nat→List TermM
 | 0=>[]
 | i+1=>if i=0∨cmp (L.getD i default) (L.getD (i-1) default)≠0 then dedN L i++[L.getD i default] else dedN L i
theorem qrf (L:List TermM):∀ k,k≤L.length→(∀ j,1≤j→j<k→cmp (L.getD j default) (L.getD (j-1) default)≠0)→dedN L k=L.take k
 | 0,_,_=>by simp [dedN]
 | k+1,hk,h=>by
  have ih:=qrf L k o_ (fun j h1 h2=>h j h1 o_);have hc:k=0∨cmp (L.getD k default) (L.getD (k-1) default)≠0:=by
   rcases Nat.eq_zero_or_pos k with h0|h0
   ·exact .inl h0
   ·exact .inr (h k h0 o_)
  rw [dedN,if_pos hc,ih,List.take_succ_eq_append_getElem o_,qar o_]
theorem qsz (L:List TermM)(k:Nat):(qdv L).take (k*4)=qdv (L.take k):=by
 induction L generalizing k with
 | nil=>simp [qdv]
 | cons a l ih=>
  cases k with
  | zero=>simp [qdv]
  | succ k=>rw [List.take_succ_cons,qdv,qdv,show (k+1)*4=k*4+4 by omega];simp [List.take_succ_cons,ih]
structure Comp (L:List TermM) (i kk:Nat) (ys:List Value):Prop where
 len:ys.length=L.length*4
 low:ys.take (kk*4)=qdv (dedN L i)
 num:kk=(dedN L i).length
 lt:kk<i
 high:∀ p,(i-1)*4≤p→ys[p]? =(qdv L)[p]?
theorem Comp.at {L:List TermM}{i kk:Nat}{ys:List Value}(h:Comp L i kk ys){j:Nat}(hj:j<L.length)(hi:i-1≤j):qcl ys j (L.getD j default) (.slice none 0 0):=by
 obtain ⟨a,b,c,d⟩:=qr0 hj;exact ⟨(h.high _ o_).trans a,(h.high _ o_).trans b,(h.high _ o_).trans c,(h.high _ o_).trans d⟩
theorem Comp.keep {L:List TermM}{i kk:Nat}{ys:List Value}(h:Comp L i kk ys)(hi:i<L.length)(he:cmp (L.getD i default) (L.getD (i-1) default)≠0):
  Comp L (i+1) (kk+1) ((((ys.set (kk*4) (.int .i64 (L.getD i default).op)).set (kk*4+1) (.string (bstr (L.getD i default).name))).set (kk*4+2) (.int .i64 (L.getD i default).sort)).set (kk*4+3) (.slice none 0 0)):=by
 have hlt:=h.lt;have hlen:=h.len;have hd:dedN L (i+1)=dedN L i++[L.getD i default]:=by rw [dedN,if_pos (.inr he)]
 refine ⟨by simp [hlen],?_,by rw [hd,List.length_append,← h.num];rfl,by omega,fun p hp=>?_⟩
 ·rw [hd,qh8,← h.low]
  apply List.ext_getElem?
  intro p;have aa:(ys.take (kk*4)).length=kk*4:=by rw [List.length_take];omega
  by_cases hp:p<kk*4
  ·rw [List.getElem?_take_of_lt o_,List.getElem?_append_left o_,List.getElem?_take_of_lt hp]
   rw [List.getElem?_set_ne o_,List.getElem?_set_ne o_,List.getElem?_set_ne o_,List.getElem?_set_ne o_]
  ·rw [List.getElem?_append_right o_,aa]
   by_cases ab:p<kk*4+4
   ·rw [List.getElem?_take_of_lt o_]
    obtain ⟨q,rfl⟩:∃ q,p=kk*4+q:=⟨p-kk*4,by omega⟩;rw [Nat.add_sub_cancel_left];match q,(show q<4 by omega) with
    | 0,_=>rw [List.getElem?_set_ne o_,List.getElem?_set_ne o_,List.getElem?_set_ne o_,Nat.add_zero,List.getElem?_set_self o_];rfl
    | 1,_=>rw [List.getElem?_set_ne o_,List.getElem?_set_ne o_,List.getElem?_set_self (by simp;omega)];rfl
    | 2,_=>rw [List.getElem?_set_ne o_,List.getElem?_set_self (by simp;omega)];rfl
    | 3,_=>rw [List.getElem?_set_self (by simp;omega)];rfl
   ·rw [List.getElem?_take_eq_none o_]
    symm
    exact List.getElem?_eq_none (by show _≤_;simp only [qdv,List.length_cons,List.length_nil];omega)
 ·rw [List.getElem?_set_ne o_,List.getElem?_set_ne o_,List.getElem?_set_ne o_,List.getElem?_set_ne o_]
  exact h.high p o_
theorem Comp.start {L:List TermM}{k:Nat}(h:∀ j,1≤j→j<k→cmp (L.getD j default) (L.getD (j-1) default)≠0)(hk:0<k)(hlt:k<L.length)(he:cmp (L.getD k default) (L.getD (k-1) default)=0):Comp L (k+1) k (qdv L):=by
 have hd:dedN L (k+1)=L.take k:=by rw [dedN,if_neg (by rintro (h|h);omega;exact h he)];exact qrf L k o_ h
 exact ⟨qn5 L,by rw [hd,qsz],by rw [hd,List.length_take];omega,by omega,fun p _=>rfl⟩
abbrev S8 (g p q:Nat)(t u:TermM)(w':World):Prop:=(w'.cell? ⟨g,p,none⟩=some (.int .i64 t.op)∧w'.cell? ⟨g,p+1,none⟩=some (.string (bstr t.name))∧w'.cell? ⟨g,p+2,none⟩=some (.int .i64 t.sort)∧w'.cell? ⟨g,p+3,none⟩=some (.slice none 0 0))∧
 w'.cell? ⟨g,q,none⟩=some (.int .i64 u.op)∧w'.cell? ⟨g,q+1,none⟩=some (.string (bstr u.name))∧w'.cell? ⟨g,q+2,none⟩=some (.int .i64 u.sort)∧w'.cell? ⟨g,q+3,none⟩=some (.slice none 0 0)
theorem S8.below {g p q:Nat}{t u:TermM}{w w':World}(h:S8 g p q t u w)(hg:g<w.heap.size)(hb:Below w.heap.size w w'):S8 g p q t u w':=by
 have k:∀ y,w'.cell? ⟨g,y,none⟩=w.cell? ⟨g,y,none⟩:=fun y=>hb.cell (p:=⟨g,y,none⟩) hg
 unfold S8;rw [k,k,k,k,k,k,k,k];exact h
end termcf
end Go.Proofs.YtiilamngcoegiaaGreat
