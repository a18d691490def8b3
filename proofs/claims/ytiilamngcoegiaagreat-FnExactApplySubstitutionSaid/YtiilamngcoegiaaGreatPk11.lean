/- parts -/
import Derived.Test.YtiilamngcoegiaaGreatPk05
import Derived.Test.YtiilamngcoegiaaGreatPk12
import Derived.Deep.RegionHeld3
import Derived.Deep.RegionLaw
namespace Go.Proofs.YtiilamngcoegiaaGreat
open Go.ChangeShapes Go.WideShapes Go.ChangeAt Go.RowKit
namespace formlf
open mem rowl trm terml termb termt termv termx
def qcc (x:Int)(m:Nat):Int:=if (m:Int)≤x then x-m else -1
theorem qv2 {x:Int}{a b:Nat}(h:0≤qcc x a):qcc (qcc x a) b=qcc x (a+b):=by
 unfold qcc at h ⊢;split at h
 ·rename_i h1
  rw [if_pos h1];split<;>split<;>omega
 ·omega
theorem qv3 {x:Int}{a b:Nat}(h:¬ 0≤qcc x a)(aa:a≤b):qcc x a=qcc x b:=by
 unfold qcc at h ⊢;split at h
 ·omega
 ·rename_i h1
  rw [if_neg h1,if_neg o_]
theorem qr2 (x:Int)(m:Nat):-1≤qcc x m:=by unfold qcc;split<;>omega
theorem qya {x:Int}(hx:0≤x)(m:Nat):qcc x m≤x:=by unfold qcc;split<;>omega
theorem qv4 {x:Int}(m:Nat):0≤qcc x m↔(m:Int)≤x:=by unfold qcc;split<;>omega
theorem qlh (L:List TermM)(k:Nat):sizes (L.take k)≤sizes L:=by
 induction L generalizing k with
 | nil=>simp
 | cons a l ih=>
  cases k with
  | zero=>exact y_
  | succ k=>
   have:=ih k;show size a+sizes (l.take k)≤size a+sizes l;omega
def qAv (n:Nat):Prop:=∀ (op:Int) (l:List UInt8) (s:Int) (L:List TermM) (v:Value) (w:World) (lo:Nat) (x:Int),HasTs n lo w v L→0≤x→x≤60→
 Calls Tryz.prog 136 #[.agg #[.int .i64 op,.string (bstr l),.int .i64 s,v],.int .i64 x] w fun e w'=>e=.returned (.int .i64 (qcc x (1+sizes L)))∧Below w.heap.size w w'
theorem c45_ {p:Prop}(h:p:=by
 have am:=af.trans (aa.mono (Nat.le_of_lt ab));go_wp2;go_ret;exact ⟨qaa (by rw [← HE.out]),am⟩
):p:=h
theorem qjw {n:Nat}(hS:∀ k,n=k+1→qAv k):qAv n:=by
 intro op l s L v w lo x h az aq;obtain ⟨N,hN⟩:=e_ (L.length);obtain ⟨A,c,rfl,h⟩:=HasR.shape h hN.symm;have aA:=h.len.2.1;have HN:=z_ hN;have HH:=z_ h;have HS:=z_ hS;have hw:IntKind.i64.wrap (x-1)=x-1:=IntWalk.i64_in _ o_;clear h hN hS;go_enter Tryz.func136,Tryz.ntmps136
 go_wp2;generalize hW:w.alloc (.cells #[.int .i64 op,.string (bstr l),.int .i64 s,.slice A N c] 38)=W
 have af:Below w.heap.size w W:=by rw [← hW];exact b_.alloc n_ _
 have ab:w.heap.size<W.heap.size:=by rw [← hW];simp
 have ag:W.cell? ⟨w.heap.size,3,none⟩=some (.slice A N c):=by rw [← hW];simp
 clear hW hw;go_loopw [1,5] (fun v i wr=>∃ (k:Nat) (z:Int),k≤N∧i=.int .i64 k∧v=.int .i64 z∧Hid (z=qcc x (1+sizes (L.take k)))∧-1≤z∧z≤60∧Below W.heap.size W wr) (fun _ i _=>N-(intOf i).toNat)
 case atStart=>exact ⟨0,x-1,y_,rfl,rfl,z_ (by show x-1=qcc x (1+0);unfold qcc;split<;>omega),by omega,by omega,Below.refl _ _⟩
 case round=>
  obtain ⟨k,z,hk,rfl,rfl,HZ,aB,au,aa⟩:=hrel;have aC:wr.cell? ⟨w.heap.size,3,none⟩=some (.slice A N c):=(aa.cell (p:=⟨w.heap.size,3,none⟩) ab).trans ag;by_cases hlt:k<N
  ·by_cases hz:0≤z
   ·have d1:decide ((k:Int)<(N:Int))=true:=d_
    have d2:decide ((0:Int)≤z)=true:=decide_eq_true hz;have ah:k<L.length:=by have:=HN.out;omega
    have ac:=af.trans (aa.mono (Nat.le_of_lt ab));obtain ⟨k',g,o,A2,c2,av,rfl,_,hg,an,ao,ap,ai,hh,_⟩:=qaj HH.out hlt;rw [← ac.cell (p:=⟨g,o+k*4,none⟩) hg] at an;rw [← ac.cell (p:=⟨g,o+k*4+1,none⟩) hg] at ao;rw [← ac.cell (p:=⟨g,o+k*4+2,none⟩) hg] at ap;rw [← ac.cell (p:=⟨g,o+k*4+3,none⟩) hg] at ai;have aj:=hh.below n_ ac;have ak:=qji ah;obtain ⟨t,ht⟩:=e_ (L.getD k default);rw [← ht] at an ao ap ai aj ak;have ad:=qao t;have HT:=z_ (HS.out k' av t.op t.name t.sort t.args _ wr lo z aj hz au);rw [← ad] at HT;obtain ⟨q,hq⟩:=e_ (t.args.length);rw [← hq] at ai HT;obtain ⟨z',ae⟩:=e_ (qcc z (size t));rw [← ae] at HT;have aw:-1≤z':=by rw [ae];exact qr2 _ _
    have ax:z'≤60:=by rw [ae];have:=qya hz (size t);omega
    have ay:Hid (z'=qcc x (1+sizes (L.take (k+1)))):=z_ (by
     rw [ae,ak];have h1:=HZ.out
     rw [h1,qv2 (by rw [← h1];exact hz),Nat.add_assoc])
    have i1:(0:Int)≤(k:Int):=o_;have i2:(k:Int)<(N:Int):=o_;clear hh aj hq ht ae ad ak;go_wp2_with fail
    refine HT.out.mono ?_;rintro e w2 ⟨rfl,hb2⟩;have al:=aa.trans (hb2.mono aa.size);clear hb2;go_wp2;go_roundw
    case rel=>exact ⟨k+1,z',by omega,by go_num,rfl,ay,aw,ax,al⟩
    case measure=>simp [intOf];omega
   ·have d1:decide ((k:Int)<(N:Int))=true:=d_
    have d2:decide ((0:Int)≤z)=false:=decide_eq_false hz
    have HE:Hid (z=qcc x (1+sizes L)):=z_ (by
     have h1:=HZ.out;have:=qlh L k
     rw [h1,qv3 (b:=1+sizes L) (by rw [← h1];exact hz) o_])
    exact c45_
  ·have d1:decide ((k:Int)<(N:Int))=false:=f_
   have HE:Hid (z=qcc x (1+sizes L)):=z_ (by
    have h1:=HZ.out;rw [List.take_of_length_le (by have:=HN.out;omega)] at h1
    exact h1)
   exact c45_
theorem qr3:∀ n,qAv n
 | 0=>qjw (fun k h=>by omega)
 | n+1=>qjw (fun k h=>Nat.succ.inj h ▸ qr3 n)
theorem qnb {n lo:Nat}(t:TermM)(v:Value)(w:World)(h:HasTs n lo w v t.args)(hs:sizes t.args≤1048576):
  Calls Tryz.prog 83 #[aggT t v] w fun e w'=>∃ r,e=.returned (.bool r)∧(r=true↔size t≤60∧depth t≤20)∧Below w.heap.size w w':=by
 obtain ⟨A,c,rfl,h⟩:=HasR.shape h rfl;have ad:Below w.heap.size w (w.alloc (.cells #[.int .i64 t.op,.string (bstr t.name),.int .i64 t.sort,.slice A t.args.length c] 38)):=b_.alloc n_ _;have ac:=z_ ad;have HL:=z_ (qr3 n t.op t.name t.sort t.args _ _ lo 60 (h.below n_ ad) o_ o_)
 have HD:Hid (∀ W,Below w.heap.size w W→Calls Tryz.prog 137 #[.agg #[.int .i64 t.op,.string (bstr t.name),.int .i64 t.sort,.slice A t.args.length c]] W fun e w'=>e=.returned (.int .i64 ((depth t:Nat):Int))∧Below W.heap.size W w'):=z_ (fun W hW=>by
  rw [qan]
  exact qio n t.op t.name t.sort t.args _ W lo (h.below n_ hW) hs)
 have hp:0≤qcc 60 (1+sizes t.args)↔size t≤60:=by rw [qv4,qao];omega
 have ai:=qr2 60 (1+sizes t.args);obtain ⟨z,hz⟩:=e_ (qcc 60 (1+sizes t.args));rw [← hz] at HL hp ai;obtain ⟨q,hq⟩:=e_ (t.args.length);obtain ⟨to,af⟩:=e_ (t.op);obtain ⟨tn,ag⟩:=e_ (t.name);obtain ⟨ts,ah⟩:=e_ (t.sort);obtain ⟨d,hd⟩:=e_ (depth t);unfold aggT;rw [← hq,← af,← ag,← ah] at HL ac HD ⊢;rw [← hd] at HD ⊢;obtain ⟨sz,hsz⟩:=e_ (size t);rw [← hsz] at hp ⊢;have HP:=z_ hp;clear h hs ad hz hq af ag ah hd hsz;by_cases h0:0≤z
 ·have d1:decide ((0:Int)≤z)=true:=decide_eq_true h0
  by_cases h1:d≤20
  ·have d2:decide ((d:Int)≤20)=true:=d_
   have HF:Hid (true=true↔sz≤60∧d≤20):=z_ ⟨fun _=>⟨hp.1 h0,h1⟩,fun _=>rfl⟩;clear hp h1;go_enter Tryz.func83,Tryz.ntmps83
   go_wp2_with fail
   refine HL.out.mono ?_;rintro e w1 ⟨rfl,aa⟩;have ab:=z_ (ac.out.trans (aa.mono ac.out.size));have x0:=h_ _ _ 0 _ _ _ ((aa.block w.heap.size (by simp)).trans (qa5 _ _ _ rfl));have x1:=h_ _ _ 1 _ _ _ ((aa.block w.heap.size (by simp)).trans (qa5 _ _ _ rfl));have x2:=h_ _ _ 2 _ _ _ ((aa.block w.heap.size (by simp)).trans (qa5 _ _ _ rfl));have x3:=h_ _ _ 3 _ _ _ ((aa.block w.heap.size (by simp)).trans (qa5 _ _ _ rfl));clear aa;go_wp2_with fail
   refine (HD.out _ ab.out).mono ?_;rintro e w2 ⟨rfl,hb2⟩;have ae:=z_ (ab.out.trans (hb2.mono ab.out.size));clear hb2 x0 x1 x2 x3;go_wp2;go_ret;exact ⟨true,rfl,⟨fun _=>HF.out.1 (by first|rfl|trivial),fun _=>rfl⟩,ae.out⟩
  ·have d2:decide ((d:Int)≤20)=false:=f_
   have HF:Hid (false=true↔sz≤60∧d≤20):=z_ ⟨(fun e=>by cases e),fun e=>absurd e.2 h1⟩;clear hp h1;go_enter Tryz.func83,Tryz.ntmps83
   go_wp2_with fail
   refine HL.out.mono ?_;rintro e w1 ⟨rfl,aa⟩;have ab:=z_ (ac.out.trans (aa.mono ac.out.size));have x0:=h_ _ _ 0 _ _ _ ((aa.block w.heap.size (by simp)).trans (qa5 _ _ _ rfl));have x1:=h_ _ _ 1 _ _ _ ((aa.block w.heap.size (by simp)).trans (qa5 _ _ _ rfl));have x2:=h_ _ _ 2 _ _ _ ((aa.block w.heap.size (by simp)).trans (qa5 _ _ _ rfl));have x3:=h_ _ _ 3 _ _ _ ((aa.block w.heap.size (by simp)).trans (qa5 _ _ _ rfl));clear aa;go_wp2_with fail
   refine (HD.out _ ab.out).mono ?_;rintro e w2 ⟨rfl,hb2⟩;have ae:=z_ (ab.out.trans (hb2.mono ab.out.size));clear hb2 x0 x1 x2 x3;go_wp2;go_ret;exact ⟨false,rfl,HF.out,ae.out⟩
 ·have d1:decide ((0:Int)≤z)=false:=decide_eq_false h0
  have HF:Hid (false=true↔sz≤60∧d≤20):=z_ ⟨(fun e=>by cases e),fun e=>absurd (hp.2 e.1) h0⟩;clear hp HD;go_enter Tryz.func83,Tryz.ntmps83
  go_wp2_with fail
  refine HL.out.mono ?_;rintro e w1 ⟨rfl,aa⟩;have ab:=z_ (ac.out.trans (aa.mono ac.out.size));clear aa;go_wp2;go_ret;exact ⟨false,rfl,HF.out,ab.out⟩
end formlf

namespace tsj
open mem subs setm sets sortp sorti rowl sigm sigs gramo tsm tsi
theorem DeclN.at {n m:Nat}{D:List (List Int×Int)}(h:DeclN n m D){k:Nat}(hk:k<D.length):(D.getD k ([],0)).1.length=m∧(0≤(D.getD k ([],0)).2∧(D.getD k ([],0)).2<n)∧∀ j,j<m→0≤(D.getD k ([],0)).1.getD j 0∧(D.getD k ([],0)).1.getD j 0<n:=by
 have hm:D.getD k ([],0)∈D:=by rw [List.getD_eq_getElem?_getD,List.getElem?_eq_getElem hk];exact List.getElem_mem _
 obtain ⟨h1,h2,h3⟩:=h _ hm;simp only [inN,decide_eq_true_eq] at h2 h3;exact ⟨h1,h2,h3⟩
theorem c65_ {p:Prop}(h:p:=by
 go_roundw
 case rel=>exact ⟨k+1,by omega,by go_num,by rw [HE.out],z_ (HQ.out _)⟩
 case measure=>simp [intOf];omega
):p:=h
set_option maxRecDepth 20000 in
set_option maxHeartbeats 2000000 in
theorem qga {n m:Nat}(hn:n≤8)(nm:List UInt8)(Ad:Option Addr)(dn cd:Nat)(a b:Bool)(u:Int)(i s0 s1 s2 s3 s4:Nat)(D:List (List Int×Int))(A:List Nat)(va:Value)(w:World)(hD:HasD 0 w (.slice Ad dn cd) D)(ag:DeclN n m D)(hm:m≤A.length)(hA:∀ i,A.getD i 0<65536)(h1:Has w va (u16s A)):
  Calls Tryz.prog 241 #[aggE nm Ad dn cd a b u i s0 s1 s2 s3 s4,va] w fun e w'=>e=.returned (.int .u16 ((giveR D A:Nat):Int))∧Below w.heap.size w w':=by
 obtain ⟨Aa,ca,rfl,h1⟩:=h1.shape (n:=A.length) (qho A);have ap:=h1.len.2;have ah:=hD.len;have HD:=z_ hD;have HA:=z_ h1;have aq:=z_ ag;have ax:=pow8 hn;have au:=z_ (fun k=>qet (ag.take k) A);have ay:=z_ hA;have ak:=z_ ah.1;have az:=ah.2.1;have ad:=z_ (fun (d:List Int) (vd:Value) r (hl:d.length≤A.length) (hd:∀ k,k<d.length→0≤d.getD k 0∧d.getD k 0<16) (hr:fitD A d=r) W (hW:Below w.heap.size w W) (h2:Has W vd (ivs d))=>qly A d hA hd hl _ vd r hr W (h1.below n_ hW) h2);obtain ⟨p,hp⟩:=e_ (A.length);rw [← hp] at ad ap hm ⊢;clear hD h1 ag hA ah hp;go_enter Tryz.func241,Tryz.ntmps241
 go_wp2;go_loopw [5,7,12] (fun s _ i wr=>∃ k:Nat,k≤dn∧i=.int .i64 k∧s=.int .u16 ((giveR (D.take k) A:Nat):Int)∧Hid (Below w.heap.size w wr)) (fun _ _ i _=>dn-(intOf i).toNat)
 case atStart=>exact ⟨0,y_,rfl,rfl,z_ (b_.alloc n_ _)⟩
 case round=>
  obtain ⟨k,hk,rfl,rfl,HB⟩:=hrel;have hsz:=HB.out.size;by_cases hlt:k<dn
  ·obtain ⟨g,o,A2,c2,rfl,_,hg,al,am,hh,_,_⟩:=qba HD.out hlt
   have ai:k<D.length:=by have:=ak.out;omega
   obtain ⟨q1,q2,q3⟩:=DeclN.at aq.out ai;have ac:=(HB.out.cell (p:=⟨g,o+k*2,none⟩) hg).trans al;have ae:=(HB.out.cell (p:=⟨g,o+k*2+1,none⟩) hg).trans am;have HH:=z_ hh.has;have aa:=z_ (fun h=>qrm (A:=A) ai h);have ab:=z_ (fun h=>qno (A:=A) ai h);have an:=au.out k;rw [show (D.getD k default)=D.getD k ([],0) from rfl] at ac ae HH;obtain ⟨d,hd⟩:=e_ ((D.getD k ([],0)).1);obtain ⟨x,hx⟩:=e_ ((D.getD k ([],0)).2);rw [← hd] at ac q1 q3 aa ab HH;rw [← hx] at ae q2 aa;obtain ⟨j,rfl⟩:∃ j:Nat,x=(j:Int):=⟨x.toNat,by omega⟩;rw [Int.toNat_natCast] at aa;have hj:j<16:=o_;obtain ⟨G,hG⟩:=e_ (giveR (D.take k) A);rw [← hG] at aa ab an ⊢;have af:G<65536:=o_;have av:=z_ (fun W=>qma G j af hj W);obtain ⟨md,ao⟩:=e_ (d.length);rw [← ao] at ac HH;have HC:=z_ (fun r hr W (hW:Below w.heap.size w W)=>ad.out d _ r o_ (fun k hk=>by have:=q3 k o_;omega) hr W hW (HH.out.below n_ hW));have hq:∀ ob:Obj,Below w.heap.size w (wr.alloc ob):=fun ob=>HB.out.alloc hsz ob
   have HQ:=z_ hq;clear al am hh hd hx hG q1 q2 q3 af an ao hq;cases hf:fitD A d with
   | true=>
    have aj:=z_ (HC.out true hf);have HE:=z_ (aa.out hf);clear hf;go_wp2_with (first|(go_at_call 246;refine (aj.out _ (HQ.out _)).mono ?_;rintro e w2 ⟨rfl,rfl⟩)|(go_at_call 186;refine (av.out _).mono ?_;rintro e w3 ⟨rfl,rfl⟩))
    exact c65_
   | false=>
    have aj:=z_ (HC.out false hf);have HE:=z_ (ab.out hf);clear hf;go_wp2_with (first|(go_at_call 246;refine (aj.out _ (HQ.out _)).mono ?_;rintro e w2 ⟨rfl,rfl⟩))
    exact c65_
  ·obtain rfl:k=dn:=o_
   have aw:Hid (D.take k=D):=z_ (by rw [ak.out,List.take_length]);rw [aw.out];go_wp2;go_ret;exact ⟨rfl,HB.out⟩
end tsj

namespace tsk
open mem split subs setm sortp sorti rowl sigs gramo tsm tsi tsj
def ArrF (w:World)(b:Nat)(f:Nat→Nat):Prop:=b<w.heap.size∧∀ x,x<128→w.cell? ⟨b,x,none⟩=some (.int .u16 ((f x:Nat):Int))∧w.frozen? ⟨b,x,none⟩=false
theorem ArrF.below {w w':World}{b:Nat}{f:Nat→Nat}(h:ArrF w b f){B:Nat}(hB:b<B)(hb:Below B w w'):ArrF w' b f:=
 ⟨w_ h.1 hb.size,fun x hx=>⟨(hb.cell (p:=⟨b,x,none⟩) hB).trans (h.2 x hx).1,(hb.frozen (p:=⟨b,x,none⟩) hB).trans (h.2 x hx).2⟩⟩
abbrev C11 (x:Nat)(nm:List UInt8)(A:Option Addr)(n c:Nat)(a b:Bool)(u:Int)(i s0 s1 s2 s3 s4:Nat)(w:World):Prop:=
 w.cell? ⟨x,0,none⟩=some (.string (bstr nm))∧w.cell? ⟨x,1,none⟩=some (.slice A n c)∧w.cell? ⟨x,2,none⟩=some (.bool a)∧w.cell? ⟨x,3,none⟩=some (.bool b)∧w.cell? ⟨x,4,none⟩=some (.int .i64 u)∧w.cell? ⟨x,5,none⟩=some (.int .i64 (i:Int))∧
 w.cell? ⟨x,6,none⟩=some (.int .i64 (s0:Int))∧w.cell? ⟨x,7,none⟩=some (.int .u16 (s1:Int))∧w.cell? ⟨x,8,none⟩=some (.int .u16 (s2:Int))∧w.cell? ⟨x,9,none⟩=some (.int .u16 (s3:Int))∧w.cell? ⟨x,10,none⟩=some (.int .u16 (s4:Int))
theorem C11.below {x:Nat}{nm:List UInt8}{A:Option Addr}{n c:Nat}{a b:Bool}{u:Int}{i s0 s1 s2 s3 s4:Nat}{w w':World}(h:C11 x nm A n c a b u i s0 s1 s2 s3 s4 w)(hb:Below w.heap.size w w'):C11 x nm A n c a b u i s0 s1 s2 s3 s4 w':=by
 have hx:x<w.heap.size:=l_ h.1;have k:∀ y,w'.cell? ⟨x,y,none⟩=w.cell? ⟨x,y,none⟩:=fun y=>hb.cell (p:=⟨x,y,none⟩) hx
 unfold C11;rw [k,k,k,k,k,k,k,k,k,k,k];exact h
abbrev SGrp (x bl l r:Nat)(nm:List UInt8)(A:Option Addr)(n c:Nat)(a b:Bool)(u:Int)(i s0 s1 s2 s3 s4:Nat)(fl fr:Nat)(W w:World):Prop:=
 (C11 x nm A n c a b u i s0 s1 s2 s3 s4 w∧w.cell? ⟨bl,l,none⟩=some (.int .u16 (fl:Int))∧w.cell? ⟨bl,r,none⟩=some (.int .u16 (fr:Int)))∧Below W.heap.size W w
theorem SGrp.of {x bl l r:Nat}{nm:List UInt8}{A:Option Addr}{n c:Nat}{a b:Bool}{u:Int}{i s0 s1 s2 s3 s4 fl fr:Nat}{W w:World}(h:C11 x nm A n c a b u i s0 s1 s2 s3 s4 W)(h1:W.cell? ⟨bl,l,none⟩=some (.int .u16 (fl:Int)))(h2:W.cell? ⟨bl,r,none⟩=some (.int .u16 (fr:Int)))(hb:Below W.heap.size W w):SGrp x bl l r nm A n c a b u i s0 s1 s2 s3 s4 fl fr W w:=
 ⟨⟨C11.below h hb,(hb.cell (p:=⟨bl,l,none⟩) (l_ h1)).trans h1,(hb.cell (p:=⟨bl,r,none⟩) (l_ h2)).trans h2⟩,hb⟩
def givP (com:Bool)(D:List (List Int×Int))(f:Nat→Nat)(g l:Nat):Nat:=if com || befo l (rest g l) then giveR D [f l,f (rest g l)] else 0
theorem qyu (com:Bool)(D:List (List Int×Int))(f:Nat→Nat)(g:Nat):orL (givP com D f g) (lefts g)=orL (fun l=>giveR D [f l,f (rest g l)]) (qcx com g):=by
 apply Nat.eq_of_testBit_eq
 intro j;rw [qbw,qbw,qcx,List.any_filter,Bool.eq_iff_iff,List.any_eq_true,List.any_eq_true];constructor
 ·rintro ⟨l,hl,e⟩
  refine ⟨l,hl,?_⟩;unfold givP at e;split at e
  ·rename_i hc;rw [hc,e];rfl
  ·rw [Nat.zero_testBit] at e;cases e
 ·rintro ⟨l,hl,e⟩
  refine ⟨l,hl,?_⟩;rw [Bool.and_eq_true] at e;rw [givP,if_pos e.1];exact e.2
theorem qrq {α:Type}(f:α→Nat)(x:α)(L:List α):orL f (x::L)=f x ||| orL f L:=by
 apply Nat.eq_of_testBit_eq
 intro j;rw [Nat.testBit_or,qbw,qbw,List.any_cons]
theorem qrr (w:World)(x y:Nat):Has (w.alloc (.cells #[.int .u16 (x:Int),.int .u16 (y:Int)] 176)) (.slice (some ⟨w.heap.size,0,none⟩) 2 2) (u16s [x,y]):=by
 refine ⟨_,2,rfl,by simp [u16s],by unfold maxLen;omega,fun j v hv=>⟨w.heap.size,0,rfl,by simp,?_⟩⟩;match j,hv with
 | 0,hv=>simp [u16s] at hv;subst hv;simp
 | 1,hv=>simp [u16s] at hv;subst hv;simp
theorem c66_ {p:Prop}(h:p:=by
 go_wp2;have az:Hid (Below W.heap.size W w1):=z_ (HB.out.trans (Below.mono (by go_split_ands;assumption) hsz));go_roundw
 case rel=>exact ⟨ab ||| gv,l2,by rw [← ax],rfl,ae,by omega,ap,az⟩
 case measure=>simp [intOf];omega
):p:=h
set_option maxRecDepth 20000 in
set_option maxHeartbeats 4000000 in
theorem qjd {n:Nat}(hn:n≤8)(nm:List UInt8)(Ad:Option Addr)(dn cd:Nat)(a com:Bool)(u:Int)(i s0 s1 s2 s3 s4:Nat)(D:List (List Int×Int))(g:Nat)(h0:0<g)(hg:g<128)(f:Nat→Nat)(hf:∀ x,f x<65536)(bl:Nat)(w:World)(hA:ArrF w bl f)(hD:HasD 0 w (.slice Ad dn cd) D)(aq:DeclN n 2 D):
  Calls Tryz.prog 244 #[.pointer (some ⟨bl,0,none⟩),aggE nm Ad dn cd a com u i s0 s1 s2 s3 s4,.int .u16 (g:Int)] w fun e w'=>e=.returned (.int .u16 ((orL (fun l=>giveR D [f l,f (rest g l)]) (qcx com g):Nat):Int))∧Below w.heap.size w w':=by
 rw [← qyu];have aK:=pow8 hn
 have aL:=z_ (fun l=>show givP com D f g l<256 by
  unfold givP;split
  ·exact w_ (qet aq _) aK
  ·decide)
 have aM:=z_ (fun l W (hW:Below w.heap.size w W) va (h1:Has W va (u16s [f l,f (rest g l)]))=>qga hn nm Ad dn cd a com u i s0 s1 s2 s3 s4 D [f l,f (rest g l)] va W (hD.below qa7 n_ hW) aq n_ (fun i=>by
  match i with
  | 0=>exact hf _
  | 1=>exact hf _
  | i+2=>simp) h1)
 have aB:=z_ (fun W (hW:Below w.heap.size w W)=>hA.below hA.1 hW);have aC:=z_ (qk8 g);have aV:=hA.1;obtain ⟨W,hW⟩:=e_ (w.alloc (.cells #[.string (bstr nm),.slice Ad dn cd,.bool a,.bool com,.int .i64 u,.int .i64 (i:Int),.int .i64 (s0:Int),.int .u16 (s1:Int),.int .u16 (s2:Int),.int .u16 (s3:Int),.int .u16 (s4:Int)] 181));have aD:=fr1_ hW;have aE:C11 w.heap.size nm Ad dn cd a com u i s0 s1 s2 s3 s4 W:=by
  rw [hW];refine ⟨?_,?_,?_,?_,?_,?_,?_,?_,?_,?_,?_⟩<;>simp
 have al:=z_ aD;have aN:=z_ aE;have aO:bits .and .u16 ((g:Int)-1) (g:Int)=(((g-1) &&& g:Nat):Int):=by
  have:=qkm (g-1) g o_ o_;rw [show (((g-1:Nat)):Int)=(g:Int)-1 by omega] at this;exact this
 have aW:IntKind.u16.wrap ((g:Int)-1)=(g:Int)-1:=qbj _ o_ o_;have ag:g &&& ((g-1) &&& g)=(g-1) &&& g:=by rw [Nat.and_comm (g-1) g,← Nat.and_assoc,Nat.and_self]
 have am:(g-1) &&& g≤g-1:=Nat.and_le_left;have ad:=z_ (And.intro ag am);obtain ⟨T,hT⟩:=e_ (orL (givP com D f g) (lefts g));have HT:=z_ hT;rw [← hT];obtain ⟨l0,ah⟩:=e_ ((g-1) &&& g);rw [← ah] at aC aO ad;clear hA hD aq hf aD aE ag am hT ah;go_enter Tryz.func244,Tryz.ntmps244
 go_wp2;rw [← hW];clear hW;go_loopw [7,8,9] (fun s v8 _ wr=>∃ ab l:Nat,s=.int .u16 (ab:Int)∧v8=.int .u16 (l:Int)∧ab<256∧l<g∧Hid (g &&& l=l∧ab ||| orL (givP com D f g) (leftsFrom g l)=T)∧Hid (Below W.heap.size W wr)) (fun _ v _ _=>(intOf v).toNat)
 case atStart=>exact ⟨0,l0,rfl,rfl,by decide,by have:=ad.out.2;omega,z_ ⟨ad.out.1,by rw [Nat.zero_or,← aC.out,← HT.out]⟩,z_ b_⟩
 case round=>
  obtain ⟨ab,l,rfl,rfl,aF,aP,HI,HB⟩:=hrel;have hsz:=HB.out.size;by_cases ah:l=0
  ·subst ah
   have HQ:Hid (ab=T):=z_ (by have:=HI.out.2;rw [qf0] at this;simpa [orL] using this);go_wp2;go_ret;exact ⟨qaa (by rw [HQ.out]),al.out.trans (HB.out.mono al.out.size)⟩
  ·have aQ:=qlu HI.out.1 o_
   have aR:=qlv HI.out.1 aP;have aS:bits .andNot .u16 (g:Int) (l:Int)=((rest g l:Nat):Int):=by rw [qs6 g l o_ o_,qyq HI.out.1];rfl
   have aT:bits .and .u16 ((l:Int)-1) (g:Int)=(((l-1) &&& g:Nat):Int):=by
    have:=qkm (l-1) g o_ o_;rw [show (((l-1:Nat)):Int)=(l:Int)-1 by omega] at this;exact this
   have aX:IntKind.u16.wrap ((l:Int)-1)=(l:Int)-1:=qbj _ o_ o_;have am:(l-1) &&& g≤l-1:=Nat.and_le_left
   have HN:Hid (g &&& ((l-1) &&& g)=(l-1) &&& g∧(ab ||| givP com D f g l) ||| orL (givP com D f g) (leftsFrom g ((l-1) &&& g))=T):=z_ ⟨by rw [Nat.and_comm (l-1) g,← Nat.and_assoc,Nat.and_self],by
    have:=HI.out.2;rw [qf1 g l ah,qrq] at this
    rw [Nat.or_assoc];exact this⟩
   have af:Hid (givP com D f g l=if com || befo l (rest g l) then giveR D [f l,f (rest g l)] else 0):=z_ rfl;have hp:=aL.out l;obtain ⟨l2,aG⟩:=e_ ((l-1) &&& g);rw [← aG] at aT am HN;have an:=al.out.trans (HB.out.mono al.out.size);have ao:=z_ an;obtain ⟨q1,q2⟩:=(aB.out wr an).2 l o_;obtain ⟨q3,q4⟩:=(aB.out wr an).2 (rest g l) o_;have ai:=z_ (aM.out l);have au:=z_ (fun r hr W=>qpf l (rest g l) o_ o_ r hr W);obtain ⟨rr,aH⟩:=e_ (rest g l);rw [← aH] at aQ aR aS q3 q4 ai au af;obtain ⟨fl,av⟩:=e_ (f l);obtain ⟨fr,aw⟩:=e_ (f rr);rw [← av] at q1;rw [← aw] at q3;rw [← av,← aw] at ai af;obtain ⟨pv,aI⟩:=e_ (givP com D f g l);rw [← aI] at HN hp af;obtain ⟨gv,aJ⟩:=e_ (giveR D [fl,fr]);rw [← aJ] at ai af;have HX:=z_ (C11.below aN.out HB.out);have ae:ab ||| pv<256:=Nat.or_lt_two_pow (n:=8) aF hp
   have ax:=qq6 ab pv o_ o_;clear aG aH av aw aI aJ an q2 q4;have aj:∀ ob,Below wr.heap.size wr (wr.alloc ob).drew:=fun ob=>(b_.alloc n_ ob).drew
   have i1:(0:Int)≤(l:Int):=o_;have i2:(l:Int)<128:=o_;have i3:(0:Int)≤(rr:Int):=o_;have i4:(rr:Int)<128:=o_;have aa:=z_ aj;clear aj;by_cases hc:(com || befo l rr)=true
   ·have HG:Hid (pv=gv):=z_ (by rw [af.out,if_pos hc])
    rw [HG.out] at ax ae;have ap:Hid (g &&& l2=l2∧(ab ||| gv) ||| orL (givP com D f g) (leftsFrom g l2)=T):=z_ (by rw [← HG.out];exact HN.out);obtain ⟨y0,y1,y2,y3,y4,y5,y6,y7,y8,y9,aU⟩:=HX.out;cases ac:com with
    | true=>
     subst ac;clear hc;go_wp2_with fail
     go_region_held3 (SGrp w.heap.size bl l rr nm Ad dn cd a true u i s0 s1 s2 s3 s4 fl fr wr)
      (exact SGrp.of HX.out q1 q3 (by first|exact b_.drew|exact aa.out _|assumption))
      ((go_at_call 241;refine (ai.out _ (ao.out.trans ((aa.out _).mono ao.out.size)) _ (qrr _ fl fr)).mono ?_;rintro e w1 ⟨rfl,ak⟩;have ay:=(aa.out (.cells #[.int .u16 (fl:Int),.int .u16 (fr:Int)] 176)).trans (ak.mono (aa.out _).size);clear ak))
     exact c66_
    | false=>
     subst ac;have aA:=z_ (au.out true (by simpa using hc));clear hc;go_wp2_with (go_at_call 248;refine (aA.out _).mono ?_;rintro e w0 ⟨rfl,rfl⟩)
     go_region_held3 (SGrp w.heap.size bl l rr nm Ad dn cd a false u i s0 s1 s2 s3 s4 fl fr wr)
      (exact SGrp.of HX.out q1 q3 (by first|exact b_.drew|exact aa.out _|assumption))
      ((go_at_call 241;refine (ai.out _ (ao.out.trans ((aa.out _).mono ao.out.size)) _ (qrr _ fl fr)).mono ?_;rintro e w1 ⟨rfl,ak⟩;have ay:=(aa.out (.cells #[.int .u16 (fl:Int),.int .u16 (fr:Int)] 176)).trans (ak.mono (aa.out _).size);clear ak))
     exact c66_
   ·have HG:Hid (pv=0):=z_ (by rw [af.out,if_neg hc])
    have ap:Hid (g &&& l2=l2∧ab ||| orL (givP com D f g) (leftsFrom g l2)=T):=z_ (by have:=HN.out;rw [HG.out,Nat.or_zero] at this;exact this);obtain ⟨y0,y1,y2,y3,y4,y5,y6,y7,y8,y9,aU⟩:=HX.out;cases ac:com with
    | true=>rw [ac] at hc;simp at hc
    | false=>
     subst ac;have aA:=z_ (au.out false (by simpa using hc));clear hc;go_wp2_with (go_at_call 248;refine (aA.out _).mono ?_;rintro e w0 ⟨rfl,rfl⟩)
     go_roundw
     case rel=>exact ⟨ab,l2,rfl,rfl,aF,by omega,ap,HB⟩
     case measure=>simp [intOf];omega
end tsk

namespace termlc
set_option maxRecDepth 50000
set_option maxHeartbeats 8000000
open mem rowl trm terml termb termt termro rowg
abbrev S5 (W:World)(x:Nat)(vx:Value)(g o:Nat)(a b c e:Value)(w':World):Prop:=(w'.cell? ⟨x,3,none⟩=some vx∧w'.cell? ⟨g,o,none⟩=some a∧w'.cell? ⟨g,o+1,none⟩=some b∧w'.cell? ⟨g,o+2,none⟩=some c∧w'.cell? ⟨g,o+3,none⟩=some e)∧Below (x+1) W w'
theorem S5.next {W:World}{x:Nat}{vx:Value}{g o:Nat}{a b c e:Value}{w0 w1:World}(h:S5 W x vx g o a b c e w0)(hg:g≤x)(hb:Below (x+1) w0 w1):S5 W x vx g o a b c e w1:=by
 have k:∀ y z,y≤x→w1.cell? ⟨y,z,none⟩=w0.cell? ⟨y,z,none⟩:=fun y z hy=>hb.cell (p:=⟨y,z,none⟩) (by show y<x+1;omega)
 unfold S5;rw [k x 3 n_,k g _ hg,k g _ hg,k g _ hg,k g _ hg];exact ⟨h.1,h.2.trans hb⟩
theorem S5.al {W:World}{x:Nat}{vx:Value}{g o:Nat}{a b c e:Value}{w0:World}(h:S5 W x vx g o a b c e w0)(hg:g≤x)(hx:x+1≤w0.heap.size){ob:Obj}:S5 W x vx g o a b c e (w0.alloc ob):=h.next hg (b_.alloc hx ob)
theorem S5.set {W:World}{x:Nat}{vx:Value}{g o:Nat}{a b c e:Value}{w0:World}(h:S5 W x vx g o a b c e w0)(hg:g≤x){y i:Nat}(hy:x+1≤y){u:Value}:S5 W x vx g o a b c e (w0.setCell ⟨y,i,none⟩ u):=h.next hg (b_.setCell hy u)
def qz3 (d:Nat)(t:TermM)(w:World)(e:Ending)(w':World):Prop:=∃ va,e=.returned (.agg #[.int .i64 t.op,.string (bstr t.name),.int .i64 t.sort,va])∧HasTs d w.heap.size w' va t.args∧Below w.heap.size w w'
def qBa (d:Nat):Prop:=∀ (t:TermM) (va:Value) (w:World) (lo:Nat),HasTs d lo w va t.args→Bnd t→sizes t.args≤1048576→Calls Tryz.prog 39 #[.agg #[.int .i64 t.op,.string (bstr t.name),.int .i64 t.sort,va]] w (qz3 d t w)
theorem qta (W:World){w:World}(h:Below w.heap.size w W)(x:Nat)(hx:w.heap.size≤x)(u0 u1 u2 u3:Value):Below w.heap.size w ((((W.setCell ⟨x,0,none⟩ u0).setCell ⟨x,1,none⟩ u1).setCell ⟨x,2,none⟩ u2).setCell ⟨x,3,none⟩ u3):=
 (((h.setCell hx u0).setCell hx u1).setCell hx u2).setCell hx u3
theorem qrw {w:World}{t:TermM}{A:Option Addr}{m c d:Nat}{Ar:Option Addr}{cr:Nat}{wr:World}(hm:m=t.args.length)(h:CS w t.op t.name t.sort A m c t.args d m Ar cr wr)(u0 u1 u2 u3:Value):
  qz3 (d+1) t w (.returned (.agg #[.int .i64 t.op,.string (bstr t.name),.int .i64 t.sort,.slice Ar m cr])) ((((wr.setCell ⟨w.heap.size+1,0,none⟩ u0).setCell ⟨w.heap.size+1,1,none⟩ u1).setCell ⟨w.heap.size+1,2,none⟩ u2).setCell ⟨w.heap.size+1,3,none⟩ u3):=by
 have k1:∀ (W:World) (i:Nat) (u:Value),Kept (w.heap.size+3) W (W.setCell ⟨w.heap.size+1,i,none⟩ u):=fun W i u=>Kept.set (by show w.heap.size+1<_;omega) u
 have kp:=(((k1 wr 0 u0).trans (k1 _ 1 u1)).trans (k1 _ 2 u2)).trans (k1 _ 3 u3);have h1:=h.kids.has;rw [hm,List.take_length] at h1;refine ⟨_,rfl,?_,qta wr h.below _ o_ _ _ _ _⟩;rw [hm];exact HasR.mono (qa8 _) (HasR.kept (qa8 _) h1 kp) o_
theorem c75_ {p:Prop}(h:p:=by
 (try dsimp only);first|(with_reducible assumption)|((with_reducible refine S5.set ?_ aa o_);with_reducible assumption)|((with_reducible refine S5.al ?_ aa o_);with_reducible assumption)|(refine ⟨⟨?_,?_,?_,?_,?_⟩,b_.drew⟩<;>assumption)
):p:=h
theorem qnx {d:Nat}(hS:∀ k,d=k+1→qBa k):qBa d:=by
 intro t va w lo h hB hsz;obtain ⟨A,c,rfl,h⟩:=HasR.shape h rfl;obtain ⟨j0,aA,aB,aC,aD⟩:=info_parts qb1;have a6:=qaq t.args;obtain ⟨m,hm⟩:=e_ (t.args.length);rw [← hm] at h ⊢;have hm30:m≤1048576:=o_;have HM:=z_ hm
 have aE:Hid (∀ j,j<m→∃ (k g o:Nat) (A2:Option Addr) (c2:Nat),d=k+1∧A=some ⟨g,o,none⟩∧g<w.heap.size∧w.cell? ⟨g,o+j*4,none⟩=some (.int .i64 (t.args.getD j default).op)∧w.cell? ⟨g,o+j*4+1,none⟩=some (.string (bstr (t.args.getD j default).name))∧
   w.cell? ⟨g,o+j*4+2,none⟩=some (.int .i64 (t.args.getD j default).sort)∧w.cell? ⟨g,o+j*4+3,none⟩=some (.slice A2 (t.args.getD j default).args.length c2)∧HasTs k lo w (.slice A2 (t.args.getD j default).args.length c2) (t.args.getD j default).args∧Bnd (t.args.getD j default)∧sizes (t.args.getD j default).args≤1048576):=z_ (by
  intro j hj;obtain ⟨k,g,o,A2,c2,h0,h1,_,h2,h3,h4,h5,h6,h7,h8⟩:=qaj h hj;refine ⟨k,g,o,A2,c2,h0,h1,h2,h3,h4,h5,h6,h7,h8,?_⟩;have h9:=qah (l:=t.args) (j:=j) o_;have bg:=qao (t.args.getD j default)
  omega)
 have af:Hid (∀ (k:Nat) (Ar:Option Addr) (cr:Nat) (wr:World) (u0 u1 u2 u3:Value),(d=k+1∨(d=0∧k=0))→CS w t.op t.name t.sort A m c t.args k m Ar cr wr→qz3 d t w (.returned (.agg #[.int .i64 t.op,.string (bstr t.name),.int .i64 t.sort,.slice Ar m cr])) ((((wr.setCell ⟨w.heap.size+1,0,none⟩ u0).setCell ⟨w.heap.size+1,1,none⟩ u1).setCell ⟨w.heap.size+1,2,none⟩ u2).setCell ⟨w.heap.size+1,3,none⟩ u3)):=z_ (by
  intro k Ar cr wr u0 u1 u2 u3 hk hcs;rcases hk with rfl|⟨rfl,rfl⟩
  ·exact qrw hm hcs u0 u1 u2 u3
  ·obtain ⟨a7,h1,h2,h3⟩:=qrw hm hcs u0 u1 u2 u3
   refine ⟨a7,h1,?_,h3⟩;have h0:t.args=[]:=by
    apply List.eq_nil_of_length_eq_zero
    rw [← hm];by_cases hz:m=0
    ·exact hz
    ·obtain ⟨_,_,_,_,_,e,_⟩:=aE.out 0 o_
     omega
   injection h1 with h1
   simp only [Value.agg.injEq] at h1;obtain ⟨a',c',e',h4⟩:=HasR.shape h2 rfl;have bh:=(HasR.len h4).2.2;rw [h0] at e' h4 ⊢;subst e';obtain ⟨A5,a8,ev,bi,ba,_⟩:=h4;simp only [Value.slice.injEq] at ev;obtain ⟨rfl,_,rfl⟩:=ev
   exact HasR.nil _ _ _ ba _)
 obtain ⟨dk,aj⟩:∃ k,d=k+1∨(d=0∧k=0):=by
  cases d with
  | zero=>exact ⟨0,.inr ⟨rfl,rfl⟩⟩
  | succ k=>exact ⟨k,.inl rfl⟩
 have aR:=z_ aj;have aF:=z_ hS;obtain ⟨L,hL⟩:=e_ (t.args);obtain ⟨to,aS⟩:=e_ (t.op);obtain ⟨tn,aT⟩:=e_ (t.name);obtain ⟨ts,aU⟩:=e_ (t.sort);rw [← hL] at HM aE af;rw [← aS,← aT,← aU] at af ⊢;clear h hS hm hB hsz a6 hL aj aS aT aU;go_enter Tryz.func39,Tryz.ntmps39
 go_wp2_with fail
 have bb:Hid (CS w to tn ts A m c L dk 0 none 0 (((w.alloc (.cells #[.int .i64 to,.string (bstr tn),.int .i64 ts,.slice A m c] 38)).alloc (.cells #[.int .i64 0,.string { data:=#[] },.int .i64 0,.slice none 0 0] 38)).alloc (.cells #[.int .i64 to,.string (bstr tn),.int .i64 ts,.slice none 0 0] 38))):=z_ (by
  refine ⟨?_,?_,?_,?_,CKids.nil⟩
  ·exact v_
  ·exact Bx.below (w:=w.alloc (.cells #[.int .i64 to,.string (bstr tn),.int .i64 ts,.slice A m c] 38)) (qa5 _ _ _ rfl) ((b_.alloc (by simp) _).alloc (by simp) _)
  ·exact Bx.below (w:=(w.alloc (.cells #[.int .i64 to,.string (bstr tn),.int .i64 ts,.slice A m c] 38)).alloc (.cells #[.int .i64 0,.string { data:=#[] },.int .i64 0,.slice none 0 0] 38)) (qa5 _ _ _ (by simp)) (b_.alloc (by simp) _)
  ·exact qa5 _ _ _ (by simp))
 go_loopw [4] (fun v4 wr=>∃ (j:Nat) (Ar:Option Addr) (cr:Nat),v4=.int .i64 j∧j≤m∧Hid (CS w to tn ts A m c L dk j Ar cr wr)) (fun i _=>m-(intOf i).toNat)
 case atStart=>exact ⟨0,none,0,rfl,y_,bb⟩
 case round=>
  obtain ⟨j,Ar,cr,rfl,hj,HC⟩:=hrel;obtain ⟨⟨_,_,_,i3⟩,_⟩:=HC.out.ib.cells;have bj:=HC.out.ib.lt;by_cases hlt:j<m
  ·obtain ⟨k,g,o,A2,c2,aj,rfl,ak,e0,e1,e2,e3,aG,ax,aH⟩:=aE.out j hlt
   obtain rfl:dk=k:=by have:=aR.out;omega
   obtain ⟨u,hu⟩:=e_ (L.getD j default);rw [← hu] at e0 e1 e2 e3 aG ax aH;have ag:=HC.out.below;have HU:=z_ hu;have s0:=(ag.cell (p:=⟨g,o+j*4,none⟩) ak).trans e0;have s1:=(ag.cell (p:=⟨g,o+j*4+1,none⟩) ak).trans e1;have s2:=(ag.cell (p:=⟨g,o+j*4+2,none⟩) ak).trans e2;have s3:=(ag.cell (p:=⟨g,o+j*4+3,none⟩) ak).trans e3;have o3:=HC.out.ob.cells.1.2.2.2;have aV:=HC.out.ob.lt;obtain ⟨xs,ho⟩:∃ xs,wr.ownsRow (w.heap.size+3) 38 4 (.slice Ar j cr) j xs:=by obtain ⟨_,_,xs,h,_⟩:=HC.out.kids;exact ⟨xs,h⟩
   have HO:=z_ ho;have ae:Hid (∀ W,Below wr.heap.size wr W→Calls Tryz.prog 39 #[.agg #[.int .i64 u.op,.string (bstr u.name),.int .i64 u.sort,.slice A2 u.args.length c2]] W (qz3 dk u W)):=z_ (fun W hW=>aF.out dk aj _ _ W lo (aG.below n_ (ag.trans (hW.mono ag.size))) ax aH);have aI:=z_ ax;have ay:Hid (Below wr.heap.size wr wr.drew):=z_ b_.drew;have aa:g≤w.heap.size:=Nat.le_of_lt ak;have bk:(0:Int)≤(j:Int):=o_;have bl:(j:Int)<(m:Int):=o_;have ah:j<L.length:=by have:=HM.out;omega
   have bm:j+1≤1048576:=o_;clear e0 e1 e2 e3 aG ax aH ho ag hu aj;go_wp2_with fail
   refine wp_region_noPanic ?_;refine wp_region_held_drew (S:=(S5 wr w.heap.size (.slice (some ⟨g,o,none⟩) m c) g (o+j*4) (.int .i64 u.op) (.string (bstr u.name)) (.int .i64 u.sort) (.slice A2 u.args.length c2))) k_ ?_ (fun am=>?_)
   ·refine ⟨⟨?_,?_,?_,?_,?_⟩,b_.drew⟩<;>assumption
   refine t_k 0 ?_;refine t_k 2 ?_;refine t_k 3 ?_;refine t_k 4 ?_;refine t_k 5 ?_;refine t_k 6 ?_;refine r_d [1,7] ?_;refine c_s (fun K hK=>?_) ?_
   ·go_simp
    refine k_o hK ?_ (fun aJ=>?_)
    ·exact c75_
    clear hK K am;refine r_d [7] ?_;refine c_s (fun K hK=>?_) ?_
    ·(go_simp;refine (ae.out _ ay.out).mono ?_;rintro e w3 ⟨va,rfl,hh,ai⟩;obtain ⟨A9,c9,rfl,_⟩:=HasR.shape hh rfl;have az:Hid (HasTs dk wr.heap.size w3 (.slice A9 u.args.length c9) u.args):=z_ hh;have ab:Hid (Below wr.heap.size wr w3):=z_ (ay.out.trans (ai.mono n_));have bc:=ab.out.size;have bd:=(ab.out.cell (p:=⟨w.heap.size+1+1,3,none⟩) aV).trans o3;have aK:w.heap.size+1+1<w3.heap.size:=o_;have be:=S5.next (by with_reducible assumption) aa (ai.mono (by show w.heap.size+1≤wr.heap.size;omega));clear hh ai;(try dsimp only))
     refine k_o hK ?_ (fun aL=>?_)
     ·exact c75_
     clear hK K aJ;refine r_d [8] ?_;refine c_s (fun K hK=>?_) ?_
     ·go_simp
      refine k_o hK ?_ (fun aM=>?_)
      ·exact c75_
      clear hK K aL;refine r_d [9] ?_;refine c_s (fun K hK=>?_) ?_
      ·(refine qbb (by rfl) _ _ _ (by rfl) (w.heap.size+3) 38 j0 _ 4 56 Tryz.underlying36 aA aB aC aD rfl o_ (.slice Ar j cr) j xs (by rfl) (qa2 (qa2 HO.out ab.out) (b_.alloc n_ _)) ⟨w3.heap.size,0,none⟩ 1 1 [.int .i64 u.op,.string (bstr u.name),.int .i64 u.sort,.slice A9 u.args.length c9] (by rfl) o_ (by rfl) (fun q x hq=>qd4 w3 _ _ _ _ _ q x hq) (qcj rfl rfl rfl rfl) (by unfold maxLen;omega) o_ (by simp;omega) ?_;intro g4 ac w5 hown ad hg4 an;have HN:=z_ (CS.next HC.out HU.out ah ab.out az.out aI.out HO.out hown ad hg4);have aW:=S5.next (by with_reducible assumption) aa ((Below.refl (w.heap.size+1) _).grown ad (by simp;omega) (fun q hq=>by have:=(qco HO.out q hq).1;omega));have aX:=HN.out.2.cells.1.2.2.2;have aY:=HN.out.2.cells.2.2.2.2;have ao:=HN.out.2.lt;clear hown ad hg4)
       refine k_o hK ?_ (fun aN=>?_)
       ·exact c75_
       clear hK K aM;refine t_k 10 ?_;refine r_d [11] ?_;refine c_s (fun K hK=>?_) ?_
       ·go_simp
        refine k_o hK ?_ (fun bf=>?_)
        ·exact c75_
        clear hK K aN;refine wpAnyH_done k_ ?_ _;refine NoPanic.normal ?_;have ap:=z_ HN.out.1;go_wp2;go_roundw
        case rel=>exact ⟨j+1,_,ac,by go_num,by omega,ap⟩
        case measure=>simp [intOf];omega
       exact a_l
      exact a_l
     exact a_l
    exact a_l
   refine c_s (fun K hK=>?_) ?_
   ·(go_simp;refine (ae.out _ ay.out).mono ?_;rintro e w3 ⟨va,rfl,hh,ai⟩;obtain ⟨A9,c9,rfl,_⟩:=HasR.shape hh rfl;have az:Hid (HasTs dk wr.heap.size w3 (.slice A9 u.args.length c9) u.args):=z_ hh;have ab:Hid (Below wr.heap.size wr w3):=z_ (ay.out.trans (ai.mono n_));have bc:=ab.out.size;have bd:=(ab.out.cell (p:=⟨w.heap.size+1+1,3,none⟩) aV).trans o3;have aK:w.heap.size+1+1<w3.heap.size:=o_;have be:=S5.next (by with_reducible assumption) aa (ai.mono (by show w.heap.size+1≤wr.heap.size;omega));clear hh ai;(try dsimp only))
    refine k_o hK ?_ (fun aq=>?_)
    ·exact c75_
    clear hK K am;refine r_d [1,8] ?_;refine c_s (fun K hK=>?_) ?_
    ·go_simp
     refine k_o hK ?_ (fun aO=>?_)
     ·exact c75_
     clear hK K aq;refine r_d [8] ?_;refine c_s (fun K hK=>?_) ?_
     ·go_simp
      refine k_o hK ?_ (fun aP=>?_)
      ·exact c75_
      clear hK K aO;refine r_d [9] ?_;refine c_s (fun K hK=>?_) ?_
      ·(refine qbb (by rfl) _ _ _ (by rfl) (w.heap.size+3) 38 j0 _ 4 56 Tryz.underlying36 aA aB aC aD rfl o_ (.slice Ar j cr) j xs (by rfl) (qa2 (qa2 HO.out ab.out) (b_.alloc n_ _)) ⟨w3.heap.size,0,none⟩ 1 1 [.int .i64 u.op,.string (bstr u.name),.int .i64 u.sort,.slice A9 u.args.length c9] (by rfl) o_ (by rfl) (fun q x hq=>qd4 w3 _ _ _ _ _ q x hq) (qcj rfl rfl rfl rfl) (by unfold maxLen;omega) o_ (by simp;omega) ?_;intro g4 ac w5 hown ad hg4 an;have HN:=z_ (CS.next HC.out HU.out ah ab.out az.out aI.out HO.out hown ad hg4);have aW:=S5.next (by with_reducible assumption) aa ((Below.refl (w.heap.size+1) _).grown ad (by simp;omega) (fun q hq=>by have:=(qco HO.out q hq).1;omega));have aX:=HN.out.2.cells.1.2.2.2;have aY:=HN.out.2.cells.2.2.2.2;have ao:=HN.out.2.lt;clear hown ad hg4)
       refine k_o hK ?_ (fun aQ=>?_)
       ·exact c75_
       clear hK K aP;refine t_k 10 ?_;refine r_d [11] ?_;refine c_s (fun K hK=>?_) ?_
       ·go_simp
        refine k_o hK ?_ (fun aZ=>?_)
        ·exact c75_
        clear hK K aQ;refine wpAnyH_done k_ ?_ _;refine NoPanic.normal ?_;have ap:=z_ HN.out.1;go_wp2;go_roundw
        case rel=>exact ⟨j+1,_,ac,by go_num,by omega,ap⟩
        case measure=>simp [intOf];omega
       exact a_l
      exact a_l
     exact a_l
    refine c_s (fun K hK=>?_) ?_
    ·go_simp
     refine k_o hK ?_ (fun au=>?_)
     ·exact c75_
     clear hK K aq;refine r_d [1] ?_;refine c_s (fun K hK=>?_) ?_
     ·go_simp
      refine k_o hK ?_ (fun av=>?_)
      ·exact c75_
      clear hK K au;refine r_d [9] ?_;refine c_s (fun K hK=>?_) ?_
      ·(refine qbb (by rfl) _ _ _ (by rfl) (w.heap.size+3) 38 j0 _ 4 56 Tryz.underlying36 aA aB aC aD rfl o_ (.slice Ar j cr) j xs (by rfl) (qa2 (qa2 HO.out ab.out) (b_.alloc n_ _)) ⟨w3.heap.size,0,none⟩ 1 1 [.int .i64 u.op,.string (bstr u.name),.int .i64 u.sort,.slice A9 u.args.length c9] (by rfl) o_ (by rfl) (fun q x hq=>qd4 w3 _ _ _ _ _ q x hq) (qcj rfl rfl rfl rfl) (by unfold maxLen;omega) o_ (by simp;omega) ?_;intro g4 ac w5 hown ad hg4 an;have HN:=z_ (CS.next HC.out HU.out ah ab.out az.out aI.out HO.out hown ad hg4);have aW:=S5.next (by with_reducible assumption) aa ((Below.refl (w.heap.size+1) _).grown ad (by simp;omega) (fun q hq=>by have:=(qco HO.out q hq).1;omega));have aX:=HN.out.2.cells.1.2.2.2;have aY:=HN.out.2.cells.2.2.2.2;have ao:=HN.out.2.lt;clear hown ad hg4)
       refine k_o hK ?_ (fun aw=>?_)
       ·exact c75_
       clear hK K av;refine t_k 10 ?_;refine r_d [11] ?_;refine c_s (fun K hK=>?_) ?_
       ·go_simp
        refine k_o hK ?_ (fun a2=>?_)
        ·exact c75_
        clear hK K aw;refine wpAnyH_done k_ ?_ _;refine NoPanic.normal ?_;have ap:=z_ HN.out.1;go_wp2;go_roundw
        case rel=>exact ⟨j+1,_,ac,by go_num,by omega,ap⟩
        case measure=>simp [intOf];omega
       exact a_l
      exact a_l
     exact a_l
    exact a_l
   exact a_l
  ·obtain rfl:j=m:=o_
   obtain ⟨⟨o0,o1,o2,o3⟩,_⟩:=HC.out.ob.cells;obtain ⟨_,f0,f1,f2,f3⟩:=HC.out.rb.cells;obtain ⟨⟨r0,r1,r2,r3⟩,_⟩:=HC.out.rb.cells;go_wp2;refine bodyPost_ret (v:=.agg #[.int .i64 to,.string (bstr tn),.int .i64 ts,.slice Ar j cr]) (by simp [results,Tryz.results39,go_sem,r0,r1,r2,r3]) rfl ?_;exact af.out dk Ar cr wr _ _ _ _ aR.out HC.out
theorem qgb:∀ d,qBa d
 | 0=>qnx (fun k e=>by omega)
 | d+1=>qnx (fun k e=>by
                                     obtain rfl:d=k:=o_
                                     exact qgb d)
def qwi (n:Nat)(L:List TermM)(w:World)(e:Ending)(w':World):Prop:=∃ v',e=.returned v'∧HasTs n w.heap.size w' v' L∧Below w.heap.size w w'
theorem qkc {d lo:Nat}(L:List TermM)(v:Value)(w:World)(h:HasTs (d+1) lo w v L)(hsz:sizes L≤1048576):Calls Tryz.prog 144 #[v] w (qwi (d+1) L w):=by
 obtain ⟨A,c,rfl,h⟩:=HasR.shape h rfl;obtain ⟨j0,an,ao,ap,aq⟩:=info_parts qb1;have au:=qaq L;obtain ⟨m,hm⟩:=e_ (L.length);rw [← hm] at h ⊢;have hm30:m≤1048576:=o_;have HM:=z_ hm
 have av:Hid (∀ j,j<m→∃ (g o:Nat) (A2:Option Addr) (c2:Nat),A=some ⟨g,o,none⟩∧g<w.heap.size∧w.cell? ⟨g,o+j*4,none⟩=some (.int .i64 (L.getD j default).op)∧w.cell? ⟨g,o+j*4+1,none⟩=some (.string (bstr (L.getD j default).name))∧
   w.cell? ⟨g,o+j*4+2,none⟩=some (.int .i64 (L.getD j default).sort)∧w.cell? ⟨g,o+j*4+3,none⟩=some (.slice A2 (L.getD j default).args.length c2)∧HasTs d lo w (.slice A2 (L.getD j default).args.length c2) (L.getD j default).args∧Bnd (L.getD j default)∧sizes (L.getD j default).args≤1048576):=z_ (by
  intro j hj;obtain ⟨k,g,o,A2,c2,h0,h1,_,h2,h3,h4,h5,h6,h7,h8⟩:=qaj h hj;obtain rfl:d=k:=o_;refine ⟨g,o,A2,c2,h1,h2,h3,h4,h5,h6,h7,h8,?_⟩;have h9:=qah (l:=L) (j:=j) o_;have aE:=qao (L.getD j default)
  omega)
 have ae:Hid (∀ (g8 cap:Nat) (wr:World),Below w.heap.size w wr→CKids Bnd d w.heap.size [g8] wr (.slice (some ⟨g8,0,none⟩) m cap) m (L.take m)→qwi (d+1) L w (.returned (.slice (some ⟨g8,0,none⟩) m cap)) wr):=z_ (by
  intro g8 cap wr hb hk;have h1:=hk.has;rw [hm,List.take_length] at h1;refine ⟨_,rfl,?_,hb⟩;rw [hm]
  exact h1)
 clear h hsz au hm;go_enter Tryz.func144,Tryz.ntmps144
 have aw:Hid (CKids Bnd d w.heap.size [w.heap.size] (w.alloc (.cells #[] 38)) (.slice (some ⟨w.heap.size,0,none⟩) 0 0) 0 (L.take 0)):=z_ (by
  refine ⟨by simp,fun g hg=>by simpa [Value.ownBlock,eq_comm] using hg,[],World.ownsRow_lit (e:=38) (size:=4) w #[] 0 n_ (by unfold maxLen;omega) rfl,fun j hj=>by omega⟩)
 have ax:Hid (Below w.heap.size w (w.alloc (.cells #[] 38))):=z_ (b_.alloc n_ _);go_wp2_with fail
 go_loopw [3,4] (fun v3 v4 wr=>∃ (j g8 cap:Nat),v3=.slice (some ⟨g8,0,none⟩) j cap∧v4=.int .i64 j∧j≤m∧Hid (Below w.heap.size w wr)∧Hid (CKids Bnd d w.heap.size [g8] wr (.slice (some ⟨g8,0,none⟩) j cap) j (L.take j))) (fun _ i _=>m-(intOf i).toNat)
 case atStart=>exact ⟨0,w.heap.size,0,rfl,rfl,y_,ax,aw⟩
 case round=>
  obtain ⟨j,g8,cap,rfl,rfl,hj,HB,HK⟩:=hrel;by_cases hlt:j<m
  ·obtain ⟨g,o,A2,c2,rfl,ac,e0,e1,e2,e3,af,ad,ag⟩:=av.out j hlt
   obtain ⟨u,hu⟩:=e_ (L.getD j default);rw [← hu] at e0 e1 e2 e3 af ad ag;have aa:=HB.out;have HU:=z_ hu;have s0:=(aa.cell (p:=⟨g,o+j*4,none⟩) ac).trans e0;have s1:=(aa.cell (p:=⟨g,o+j*4+1,none⟩) ac).trans e1;have s2:=(aa.cell (p:=⟨g,o+j*4+2,none⟩) ac).trans e2;have s3:=(aa.cell (p:=⟨g,o+j*4+3,none⟩) ac).trans e3;have ay:=aa.size;obtain ⟨xs,ho⟩:∃ xs,wr.ownsRow w.heap.size 38 4 (.slice (some ⟨g8,0,none⟩) j cap) j xs:=by obtain ⟨_,_,xs,h,_⟩:=HK.out;exact ⟨xs,h⟩
   have HO:=z_ ho;have ab:=z_ (qgb d _ _ wr lo (af.below n_ aa) ad ag);have az:=z_ ad;have aF:(0:Int)≤(j:Int):=o_;have aG:(j:Int)<(m:Int):=o_;have ah:j<L.length:=by have:=HM.out;omega
   clear e0 e1 e2 e3 af ad ag ho aa hu;go_wp2_with fail
   refine ab.out.mono ?_;rintro e w3 ⟨va,rfl,hh,ai⟩;obtain ⟨A9,c9,rfl,_⟩:=HasR.shape hh rfl;have aA:=z_ hh;have al:=z_ ai;have aH:=ai.size;clear hh ai;go_wp2_with (at_builtin;refine qaw rfl _ _ _ rfl w.heap.size 38 j0 _ 4 56 Tryz.underlying36 an ao ap aq rfl o_ g8 j cap xs rfl (qa2 (qa2 HO.out al.out) (b_.alloc n_ _)) ⟨w3.heap.size,0,none⟩ 1 1 [.int .i64 u.op,.string (bstr u.name),.int .i64 u.sort,.slice A9 u.args.length c9] rfl rfl (fun q x hq=>qd4 w3 _ _ _ _ _ q x hq) (qcj rfl rfl rfl rfl) (by unfold maxLen;omega) o_ (by simp;omega) ?_;intro g4 aj w5 hown am hg4 aB ak)
   have HN:=z_ (qAq HU.out ah HK.out ay al.out aA.out az.out HO.out hown am (hg4.imp (fun e=>by rw [e];rfl) id));have aC:=z_ (HB.out.trans HN.out.2);have aD:=z_ HN.out.1;clear hown am hg4 ak HN;go_wp2;go_roundw
   case rel=>exact ⟨j+1,g4,aj,rfl,by go_num,by omega,aC,aD⟩
   case measure=>simp [intOf];omega
  ·obtain rfl:j=m:=o_
   have HR:=z_ (ae.out g8 cap wr HB.out HK.out);go_wp2;go_ret;exact HR.out
end termlc

namespace bndt
set_option maxRecDepth 20000
set_option maxHeartbeats 2000000
open mem rowl trm terml termb termt termu bndl
theorem qj8 {w:World}{x:Nat}{v0 v1 v2 v3 v4 v5 v6 v7:Value}{t:TypeId}(h:w.heap[x]? =some (.cells #[v0,v1,v2,v3,v4,v5,v6,v7] t (0,0))):(w.cell? ⟨x,0,none⟩=some v0∧w.cell? ⟨x,1,none⟩=some v1∧w.cell? ⟨x,2,none⟩=some v2∧w.cell? ⟨x,3,none⟩=some v3)∧w.cell? ⟨x,4,none⟩=some v4∧w.cell? ⟨x,5,none⟩=some v5∧w.cell? ⟨x,6,none⟩=some v6∧w.cell? ⟨x,7,none⟩=some v7:=
 ⟨⟨h_ w x 0 _ _ _ h,h_ w x 1 _ _ _ h,h_ w x 2 _ _ _ h,h_ w x 3 _ _ _ h⟩,h_ w x 4 _ _ _ h,h_ w x 5 _ _ _ h,h_ w x 6 _ _ _ h,h_ w x 7 _ _ _ h⟩
theorem qhp {w:World}{x:Nat}{cs:Array Value}{t:TypeId}{f:Nat×Nat}(h:w.heap[x]? =some (.cells cs t f))(i:Nat)(u:Value):(w.setCell ⟨x,i,none⟩ u).heap[x]? =some (.cells (cs.setIfInBounds i u) t f):=by
 simp [World.setCell,Array.getElem?_modify,h]
theorem qBm {n:Nat}(b:BindM)(va vb:Value)(w:World){lo:Nat}(ha:HasTs n lo w va b.v.args)(hb:HasTs n lo w vb b.t.args)(hv:Bnd b.v)(ht:Bnd b.t)(m:Int)(hm:0≤m)(ao:m≤1048576):
  Calls Tryz.prog 34 #[aggB b va vb,.int .i64 m] w fun e w'=>∃ r:Int,e=.returned (.int .i64 r)∧(0≤r→r+sizes b.v.args+sizes b.t.args≤m)∧-1≤r∧r≤1048576∧Below w.heap.size w w':=by
 have HA:=z_ (fun W (hW:Below w.heap.size w W) m h1 h2=>qge b.v.op b.v.name b.v.sort b.v.args va W hv.1 (ha.below n_ hW) m h1 h2);have HB:=z_ (fun W (hW:Below w.heap.size w W) m h1 h2=>qge b.t.op b.t.name b.t.sort b.t.args vb W ht.1 (hb.below n_ hW) m h1 h2);obtain ⟨A,ca,rfl,_⟩:=HasR.shape ha rfl;obtain ⟨B,cb,rfl,_⟩:=HasR.shape hb rfl;unfold aggB;obtain ⟨o1,ag⟩:=e_ (b.v.op);obtain ⟨n1,ah⟩:=e_ (b.v.name);obtain ⟨s1,ab⟩:=e_ (b.v.sort);obtain ⟨k1,ai⟩:=e_ (b.v.args.length);obtain ⟨o2,aj⟩:=e_ (b.t.op);obtain ⟨n2,ak⟩:=e_ (b.t.name);obtain ⟨s2,ac⟩:=e_ (b.t.sort);obtain ⟨k2,al⟩:=e_ (b.t.args.length);rw [← ag,← ah,← ab,← ai] at HA ⊢;rw [← aj,← ak,← ac,← al] at HB ⊢;obtain ⟨W,hW⟩:=e_ (w.alloc (.cells #[.int .i64 o1,.string (bstr n1),.int .i64 s1,.slice A k1 ca,.int .i64 o2,.string (bstr n2),.int .i64 s2,.slice B k2 cb] 77));have am:=fr1_ hW;have hx:=qj8 (show W.heap[w.heap.size]? =some _ by rw [hW];exact qa5 _ _ _ rfl);have HX:=z_ hx;have ae:=z_ am;obtain ⟨⟨x0,x1,x2,x3⟩,x4,x5,x6,x7⟩:=hx;clear ha hb hv ht ag ah ab ai aj ak ac al am;go_enter Tryz.func34,Tryz.ntmps34
 go_wp2_with fail
 rw [← hW];clear hW;refine (HA.out W ae.out m hm ao).mono ?_;rintro e w1 ⟨r,rfl,hr,au,ap,af⟩;have ad:=ae.out.trans (af.mono ae.out.size);have k:∀ {g o:Nat} {v:Value},W.cell? ⟨g,o,none⟩=some v→w1.cell? ⟨g,o,none⟩=some v:=fun {g o v} h=>(af.cell (p:=⟨g,o,none⟩) (World.block_lt_of_cell? W _ h)).trans h
 obtain ⟨_,a4,a5,a6,a7⟩:=HX.out;have d4:=k a4;have d5:=k a5;have d6:=k a6;have d7:=k a7;have HR:=z_ hr;clear k af a4 a5 a6 a7 x0 x1 x2 x3 x4 x5 x6 x7 hr;by_cases aq:r<0
 ·go_wp2
  go_ret;exact ⟨-1,rfl,fun h=>by omega,by omega,by omega,ad⟩
 ·go_wp2_with fail
  refine (HB.out w1 ad r o_ ap).mono ?_;rintro e w2 ⟨r2,rfl,hs,ab,ac,hb2⟩;have aa:=ad.trans (hb2.mono ad.size);have HS:=z_ hs;clear hb2 hs;by_cases an:r2<0
  ·go_wp2
   go_ret;exact ⟨-1,rfl,fun h=>by omega,by omega,by omega,aa⟩
  ·go_wp2
   go_ret;exact ⟨r2,rfl,fun h=>by have h1:=HS.out h;have h2:=HR.out o_;omega,ab,ac,aa⟩
theorem qze {n:Nat}(L:List BindM)(v:Value)(w:World){lo:Nat}(h:HasBs n lo w v L)(m:Int)(hm:0≤m)(ao:m≤1048576):
  Calls Tryz.prog 8 #[v,.int .i64 m] w fun e w'=>∃ r:Int,e=.returned (.int .i64 r)∧(0≤r→r+bsz L≤m)∧-1≤r∧r≤1048576∧Below w.heap.size w w':=by
 obtain ⟨N,hN⟩:=e_ (L.length);obtain ⟨A,c,rfl,h⟩:=HasR.shape h hN.symm;have hl:=h.len.2.1;have HH:=z_ h;have HN:=z_ hN;clear h hN;by_cases ak:m-(N:Int)<0
 ·go_enter Tryz.func8,Tryz.ntmps8
  go_wp2;go_ret;exact ⟨-1,rfl,fun h=>by omega,by omega,by omega,Below.refl _ _⟩
 ·have ap:(N:Int)≤m:=o_
  go_enter Tryz.func8,Tryz.ntmps8
  go_wp2;go_loopw [1,5] (fun v i wr=>∃ (k:Nat) (r:Int),k≤N∧i=.int .i64 k∧v=.int .i64 r∧0≤r∧r≤1048576∧Hid (r+(N-k)+bsz (L.take k)≤m)∧Below w.heap.size w wr) (fun _ i _=>N-(intOf i).toNat)
  case atStart=>exact ⟨0,_,y_,rfl,rfl,by omega,by omega,z_ (by have:bsz (L.take 0)=0:=rfl;omega),Below.refl _ _⟩
  case round=>
   obtain ⟨k,r,hk,rfl,rfl,al,ad,ae,aa⟩:=hrel;by_cases hlt:k<N
   ·obtain ⟨g,o,A1,c1,A2,c2,rfl,hg,hc,h1,h2,hv,ht⟩:=qe3 HH.out hlt
    obtain ⟨⟨x0,x1,x2,x3⟩,x4,x5,x6,x7⟩:=hc.below aa;have ab:=h1.below n_ aa;have ac:=h2.below n_ aa;have af:Hid (bsz (L.take (k+1))=bsz (L.take k)+(1+sizes (L.getD k default).v.args+sizes (L.getD k default).t.args)):=z_ (qqe (by have:=HN.out;omega));obtain ⟨b,ag⟩:=e_ (L.getD k default);rw [← ag] at x0 x1 x2 x3 x4 x5 x6 x7 ab ac hv ht af;have HZ:=z_ (qBm b _ _ wr ab ac hv ht);obtain ⟨k1,ah⟩:=e_ (b.v.args.length);obtain ⟨k2,ai⟩:=e_ (b.t.args.length);unfold aggB at HZ;rw [← ah] at x3 HZ;rw [← ai] at x7 HZ;clear hc h1 h2 ab ac hv ht ag ah ai;go_wp2_with fail
    refine (HZ.out r al ad).mono ?_;rintro e w2 ⟨r2,rfl,hs,aq,am,hb2⟩;have an:=z_ hs;clear hs x0 x1 x2 x3 x4 x5 x6 x7;by_cases aj:r2<0
    ·go_wp2
     go_ret;exact ⟨-1,rfl,fun h=>by omega,by omega,by omega,aa.trans (hb2.mono aa.size)⟩
    ·go_wp2
     go_roundw
     case rel=>exact ⟨k+1,r2,by omega,by go_num,rfl,by omega,am,z_ (by have h1:=an.out o_;have h2:=ae.out;have h3:=af.out;omega),aa.trans (hb2.mono aa.size)⟩
     case measure=>simp [intOf];omega
   ·obtain rfl:k=N:=o_
    have HE:Hid (r+bsz L≤m):=z_ (by have h2:=ae.out;rw [HN.out,List.take_length] at h2;omega);go_wp2;go_ret;exact ⟨r,rfl,fun _=>HE.out,by omega,ad,aa⟩
theorem qzf {ys:List Value}{p:Nat}{a b c d a' b' c' d':Value}{i:Nat}(h:i<p∨p+8≤i):((((((((ys.set p a).set (p+1) b).set (p+2) c).set (p+3) d).set (p+4) a').set (p+5) b').set (p+6) c').set (p+7) d')[i]? =ys[i]? := by
 rw [List.getElem?_set_ne o_,List.getElem?_set_ne o_,List.getElem?_set_ne o_,List.getElem?_set_ne o_,qfj o_]
theorem qzg {ys:List Value}{p:Nat}{a b c d a' b' c' d':Value}(h:p+8≤ys.length):∀ i,i<8→((((((((ys.set p a).set (p+1) b).set (p+2) c).set (p+3) d).set (p+4) a').set (p+5) b').set (p+6) c').set (p+7) d')[p+i]? =some ([a,b,c,d,a',b',c',d'].getD i undef):=by
 intro i hi;by_cases h4:i<4
 ·obtain ⟨q0,q1,q2,q3⟩:=qkq (ys:=ys) (p:=p) (a:=a) (b:=b) (c:=c) (d:=d) o_
  rw [List.getElem?_set_ne o_,List.getElem?_set_ne o_,List.getElem?_set_ne o_,List.getElem?_set_ne o_];match i,h4 with
  | 0,_=>exact q0
  | 1,_=>exact q1
  | 2,_=>exact q2
  | 3,_=>exact q3
 ·obtain ⟨q0,q1,q2,q3⟩:=qkq (ys:=(((ys.set p a).set (p+1) b).set (p+2) c).set (p+3) d) (p:=p+4) (a:=a') (b:=b') (c:=c') (d:=d') (by simp;omega)
  match i,h4,hi with
  | 4,_,_=>exact q0
  | 5,_,_=>exact q1
  | 6,_,_=>exact q2
  | 7,_,_=>exact q3
  | 0,h,_=>omega
  | 1,h,_=>omega
  | 2,h,_=>omega
  | 3,h,_=>omega
theorem qx0:(Tryz.prog.info? 85).map (fun i=>(i.zero,i.size,i.bytes))=some (some (.agg #[.int .i64 0,.string { data:=#[] },.int .i64 0,.slice none 0 0,.int .i64 0,.string { data:=#[] },.int .i64 0,.slice none 0 0]),8,112):=by kernel_rfl
theorem qBn {n m:Nat}(b:BindM)(va vb ua ub:Value)(w:World){lo lo':Nat}(ha:HasTs n lo w va b.v.args)(hb:HasTs n lo w vb b.t.args)(ac:HasTs m lo' w ua b.v.args)(hb2:HasTs m lo' w ub b.t.args):
  Calls Tryz.prog 51 #[aggB b va vb,aggB b ua ub] w fun e w'=>e=.returned (.bool true)∧Below w.heap.size w w':=by
 have HA:=z_ (fun W (hW:Below w.heap.size w W)=>qem b.v.op b.v.name b.v.sort b.v.args va ua W (ha.below n_ hW) (ac.below n_ hW));have HB:=z_ (fun W (hW:Below w.heap.size w W)=>qem b.t.op b.t.name b.t.sort b.t.args vb ub W (hb.below n_ hW) (hb2.below n_ hW));obtain ⟨A,ca,rfl,_⟩:=HasR.shape ha rfl;obtain ⟨B,cb,rfl,_⟩:=HasR.shape hb rfl;obtain ⟨C,cc,rfl,_⟩:=HasR.shape ac rfl;obtain ⟨D,cd,rfl,_⟩:=HasR.shape hb2 rfl;unfold aggB;obtain ⟨o1,ah⟩:=e_ (b.v.op);obtain ⟨n1,ai⟩:=e_ (b.v.name);obtain ⟨s1,aa⟩:=e_ (b.v.sort);obtain ⟨k1,aj⟩:=e_ (b.v.args.length);obtain ⟨o2,ak⟩:=e_ (b.t.op);obtain ⟨n2,al⟩:=e_ (b.t.name);obtain ⟨s2,ab⟩:=e_ (b.t.sort);obtain ⟨k2,am⟩:=e_ (b.t.args.length);rw [← ah,← ai,← aa,← aj] at HA ⊢;rw [← ak,← al,← ab,← am] at HB ⊢;obtain ⟨W,hW⟩:=e_ ((w.alloc (.cells #[.int .i64 o1,.string (bstr n1),.int .i64 s1,.slice A k1 ca,.int .i64 o2,.string (bstr n2),.int .i64 s2,.slice B k2 cb] 85)).alloc (.cells #[.int .i64 o1,.string (bstr n1),.int .i64 s1,.slice C k1 cc,.int .i64 o2,.string (bstr n2),.int .i64 s2,.slice D k2 cd] 85));have an:Below w.heap.size w W:=by rw [hW];exact (b_.alloc n_ _).alloc (by simp) _
 have ao:=qj8 (show W.heap[w.heap.size]? =some (.cells #[.int .i64 o1,.string (bstr n1),.int .i64 s1,.slice A k1 ca,.int .i64 o2,.string (bstr n2),.int .i64 s2,.slice B k2 cb] 85 (0,0)) by rw [hW];exact (Below.heap_alloc _ _ _ (by simp)).trans (qa5 _ _ _ rfl));have ap:=qj8 (show W.heap[w.heap.size+1]? =some (.cells #[.int .i64 o1,.string (bstr n1),.int .i64 s1,.slice C k1 cc,.int .i64 o2,.string (bstr n2),.int .i64 s2,.slice D k2 cd] 85 (0,0)) by rw [hW];exact qa5 _ _ _ (by simp));have HP:=z_ ao;have HQ:=z_ ap;have ad:=z_ an;obtain ⟨⟨x0,x1,x2,x3⟩,x4,x5,x6,x7⟩:=ao;obtain ⟨⟨y0,y1,y2,y3⟩,y4,y5,y6,y7⟩:=ap;clear ha hb ac hb2 ah ai aa aj ak al ab am an;go_enter Tryz.func51,Tryz.ntmps51
 go_wp2_with fail
 rw [← hW];clear hW;refine (HA.out W ad.out).mono ?_;rintro e w1 ⟨rfl,ae⟩;have af:=ad.out.trans (ae.mono ad.out.size);have k:∀ {g o:Nat} {v:Value},W.cell? ⟨g,o,none⟩=some v→w1.cell? ⟨g,o,none⟩=some v:=fun {g o v} h=>(ae.cell (p:=⟨g,o,none⟩) (World.block_lt_of_cell? W _ h)).trans h
 obtain ⟨_,a4,a5,a6,a7⟩:=HP.out;obtain ⟨_,b4,b5,b6,b7⟩:=HQ.out;have d4:=k a4;have d5:=k a5;have d6:=k a6;have d7:=k a7;have e4:=k b4;have e5:=k b5;have e6:=k b6;have e7:=k b7;clear k ae a4 a5 a6 a7 b4 b5 b6 b7 x0 x1 x2 x3 x4 x5 x6 x7 y0 y1 y2 y3 y4 y5 y6 y7;go_wp2_with fail
 refine (HB.out w1 af).mono ?_;rintro e w2 ⟨rfl,hb2⟩;have ag:=af.trans (hb2.mono af.size);clear hb2;go_wp2;go_ret;exact ⟨rfl,ag⟩
theorem Cells8.at {w w':World}{g p:Nat}{b:BindM}{A1:Option Addr}{c1:Nat}{A2:Option Addr}{c2:Nat}(h:Cells8 w g p b A1 c1 A2 c2)(hb:Below w.heap.size w w'):Cells8 w' g p b A1 c1 A2 c2:=h.below hb
theorem qzh {n m:Nat}(L:List BindM)(va vb:Value)(w:World){lo lo':Nat}(ha:HasBs n lo w va L)(hb:HasBs m lo' w vb L):
  Calls Tryz.prog 17 #[va,vb] w fun e w'=>e=.returned (.bool true)∧Below w.heap.size w w':=by
 obtain ⟨N,hN⟩:=e_ (L.length);obtain ⟨A,ca,rfl,ha⟩:=HasR.shape ha hN.symm;obtain ⟨B,cb,rfl,hb⟩:=HasR.shape hb hN.symm;have aC:=ha.len.2.1;have HA:=z_ ha;have HB:=z_ hb;clear ha hb hN;go_enter Tryz.func17,Tryz.ntmps17
 go_wp2;go_loopw [5] (fun i wr=>∃ k:Nat,k≤N∧i=.int .i64 k∧Below w.heap.size w wr) (fun i _=>N-(intOf i).toNat)
 case atStart=>exact ⟨0,y_,rfl,Below.refl _ _⟩
 case round=>
  obtain ⟨k,hk,rfl,aa⟩:=hrel;by_cases hlt:k<N
  ·obtain ⟨ga,oa,A1,a1,A2,a2,rfl,aD,aj,h1,h2,hv,ht⟩:=qe3 HA.out hlt
   obtain ⟨gb,ob,B1,b1,B2,b2,rfl,aE,ak,h3,h4,_,_⟩:=qe3 HB.out hlt;have ab:=aj.below aa;have ac:=ak.below aa;have af:=h1.below n_ aa;have ag:=h2.below n_ aa;have ah:=h3.below n_ aa;have ai:=h4.below n_ aa;obtain ⟨b,al⟩:=e_ (L.getD k default);rw [← al] at ab ac af ag ah ai;have HE:=z_ (fun (t:BoxC (Below wr.heap.size wr))=>qBn b _ _ _ _ t.W (af.below n_ t.h) (ag.below n_ t.h) (ah.below n_ t.h) (ai.below n_ t.h));have HC:Hid (∀ t:BoxC (Below wr.heap.size wr),Cells8 t.W ga (oa+k*8) b A1 a1 A2 a2∧Cells8 t.W gb (ob+k*8) b B1 b1 B2 b2):=z_ (fun t=>⟨ab.below t.h,ac.below t.h⟩);unfold Cells8 at HC;unfold aggB at HE;obtain ⟨o1,am⟩:=e_ (b.v.op);obtain ⟨n1,an⟩:=e_ (b.v.name);obtain ⟨s1,ad⟩:=e_ (b.v.sort);obtain ⟨k1,ao⟩:=e_ (b.v.args.length);obtain ⟨o2,ap⟩:=e_ (b.t.op);obtain ⟨n2,aq⟩:=e_ (b.t.name);obtain ⟨s2,ae⟩:=e_ (b.t.sort);obtain ⟨k2,au⟩:=e_ (b.t.args.length);rw [← am,← an,← ad,← ao,← ap,← aq,← ae,← au] at HE HC;have b0:=fun t=>(HC.out t).1.1.1
   have b1:=fun t=>(HC.out t).1.1.2.1
   have b2:=fun t=>(HC.out t).1.1.2.2.1
   have b3:=fun t=>(HC.out t).1.1.2.2.2
   have b4:=fun t=>(HC.out t).1.2.1
   have b5:=fun t=>(HC.out t).1.2.2.1
   have b6:=fun t=>(HC.out t).1.2.2.2.1
   have b7:=fun t=>(HC.out t).1.2.2.2.2
   have b8:=fun t=>(HC.out t).2.1.1
   have b9:=fun t=>(HC.out t).2.1.2.1
   have av:=fun t=>(HC.out t).2.1.2.2.1
   have aw:=fun t=>(HC.out t).2.1.2.2.2
   have ax:=fun t=>(HC.out t).2.2.1
   have ay:=fun t=>(HC.out t).2.2.2.1
   have az:=fun t=>(HC.out t).2.2.2.2.1
   have aA:=fun t=>(HC.out t).2.2.2.2.2
   have nb:Nonempty (BoxC (Below wr.heap.size wr)):=⟨⟨_,Below.refl _ _⟩⟩;clear aj ak ab ac h1 h2 h3 h4 af ag ah ai al am an ad ao ap aq ae au hv ht HC;go_wp2_with fail
   refine qa1 (C:=Below wr.heap.size wr) k_ k_ b_.drew ?_;repeat go_big_quiet_step ((go_at_call 51;exact (HE.out _).mono (fun _ _ h=>⟨h.1,BoxC.step _ h.2⟩)))
   refine wpQuiet_nil ?_;rintro w5 ⟨t5,rfl⟩;have aB:=z_ t5.h;clear b0 b1 b2 b3 b4 b5 b6 b7 b8 b9 av aw ax ay az aA nb HE;go_wp2;go_roundw
   case rel=>exact ⟨k+1,by omega,by go_num,aa.trans (aB.out.mono aa.size)⟩
   case measure=>simp [intOf];omega
  ·obtain rfl:k=N:=o_
   go_wp2;go_ret;exact ⟨rfl,aa⟩
end bndt
end Go.Proofs.YtiilamngcoegiaaGreat
