/- parts -/
import Derived.Test.YtiilamngcoegiaaGreatQTermvr
import Derived.Test.YtiilamngcoegiaaGreatQPk11
import Derived.Test.YtiilamngcoegiaaGreatQPk08
namespace Go.Proofs.YtiilamngcoegiaaGreat
open Go.ChangeShapes Go.WideShapes Go.ChangeAt Go.RowKit
variable {N lo x:Nat}{w:World}{v0 v1 v2:Value}{t:TypeId}{P:List (List UInt8)}{O:List sigm.OpM}
namespace gramk
set_option maxRecDepth 20000
set_option maxHeartbeats 4000000
open mem dec setm sortn sortp sorti rowl trm terml termb termt termvr gram
def gKind (G:GrM)(t:TermM):Nat:=if t.op=-1 then atU G.U t.sort else if 0≤t.op∧t.op<G.E.length then (G.E.getD t.op.toNat default).2.2.2.2.2.2 else 0
theorem qdl{v:Value}{U:List Nat}(h:MapU w v U):∃ mm,v=.map mm:=by
 rcases h with ⟨rfl,_⟩|⟨b,_,_,rfl,_⟩
 ·exact ⟨none,rfl⟩
 ·exact ⟨some b,rfl⟩
theorem qsv (G:GrM)(mv:Value)(A:Option Addr)(n c:Nat)(t:TermM)(g o:Nat)(w:World)(hM:HasM w mv (.slice A n c) G)(hn:n=G.E.length)(t0:w.cell? ⟨g,o,none⟩=some (.int .i64 t.op))(t2:w.cell? ⟨g,o+2,none⟩=some (.int .i64 t.sort))(hB:Bnd t):
  Calls Tryz.prog 191 #[.agg #[mv,.slice A n c],.pointer (some ⟨g,o,none⟩)] w fun e w'=>e=.returned (.int .u16 ((gKind G t:Nat):Int))∧Below w.heap.size w w':=by
 obtain ⟨mm,rfl⟩:=qdl hM.m;have hg:=l_ t0;simp only [] at hg;have ad:Below w.heap.size w (w.alloc (.cells #[.map mm,.slice A n c] 92)):=b_.alloc n_ _;have aa:=z_ ad;have x0:(w.alloc (.cells #[.map mm,.slice A n c] 92)).cell? ⟨w.heap.size,0,none⟩=some (.map mm):=by simp
 have x1:(w.alloc (.cells #[.map mm,.slice A n c] 92)).cell? ⟨w.heap.size,1,none⟩=some (.slice A n c):=by simp
 have y0:=(ad.cell (p:=⟨g,o,none⟩) hg).trans t0;have y2:=(ad.cell (p:=⟨g,o+2,none⟩) hg).trans t2;have ag:(w.alloc (.cells #[.map mm,.slice A n c] 92)).heap.size=w.heap.size+1:=by simp
 have HM:=z_ (hM.below ad);obtain ⟨_,⟨q1,q2⟩,⟨q3,q4⟩⟩:=hB;obtain ⟨to,ah⟩:=e_ (t.op);obtain ⟨ts,ai⟩:=e_ (t.sort);rw [← ah] at t0 y0 q1 q2;rw [← ai] at t2 y2 q3 q4;have HK:Hid (gKind G t=if to=-1 then atU G.U ts else if 0≤to∧to<G.E.length then (G.E.getD to.toNat default).2.2.2.2.2.2 else 0):=z_ (by rw [ah,ai];rfl);obtain ⟨kk,an⟩:=e_ (gKind G t);rw [← an] at HK ⊢;have HN:=z_ hn;clear hM ad ah ai an hn t2;by_cases hv:to=-1
 ·have ab:Hid (kk=atU G.U ts):=z_ (by rw [HK.out,if_pos hv])
  have af:=z_ (fun W (hW:W.cell? ⟨g,o,none⟩=some (.int .i64 to))=>qbw g o to W hW true (decide_eq_true hv));have aj:=z_ (fun W (hW:Below (w.alloc (.cells #[.map mm,.slice A n c] 92)).heap.size (w.alloc (.cells #[.map mm,.slice A n c] 92)) W)=>(HM.out.m.below hW).look q3 q4);rw [← ab.out] at aj;clear HK hv;go_enter Tryz.func191,Tryz.ntmps191
  go_wp2_with fail
  generalize w.alloc (.cells #[.map mm,.slice A n c] 92)=W at aa x0 x1 y0 y2 ag HM aj ⊢
  refine (af.out W y0).mono ?_;rintro e w1 ⟨rfl,rfl⟩;have ao:w.heap.size<W.heap.size:=o_;have ap:g<W.heap.size:=o_;have lk:∀ q,(Instr.lookup 89 (.map mm) (.int .i64 ts) false).run Tryz.prog (W.drewN q)=.ok (.int .u16 (kk:Int)) (W.drewN q):=fun q=>aj.out _ (qa3 b_ q)
  have ae:Hid (∀ q,Below w.heap.size w (W.drewN q)):=z_ (fun q=>qa3 aa.out q);go_wp2_with fail
  go_quiet (fail)
  go_wp2;go_ret;exact ⟨rfl,ae.out _⟩
 ·have af:=z_ (fun W (hW:W.cell? ⟨g,o,none⟩=some (.int .i64 to))=>qbw g o to W hW false (decide_eq_false hv))
  by_cases ac:0≤to∧to<n
  ·obtain ⟨k,hk⟩:∃ k:Nat,to=(k:Int):=⟨to.toNat,by omega⟩
   have aq:k<n:=o_;have ab:Hid (kk=(G.E.getD k default).2.2.2.2.2.2):=z_ (by rw [HK.out,if_neg hv,if_pos (by rw [← HN.out];exact ac),hk];rfl);have ak:=z_ (fun W=>qbm to n true (decide_eq_true ac) W);obtain ⟨ge,oe,A2,c2,hA,au,hcs,_⟩:=qnd HM.out.e aq;have al:=hcs 10 o_;obtain ⟨x,hx⟩:=e_ (G.E.getD k default);rw [← hx] at al ab;have am:(w.alloc (.cells #[.map mm,.slice A n c] 92)).cell? ⟨ge,oe+k*11+10,none⟩=some (.int .u16 (kk:Int)):=by rw [al,ab.out];rfl
   have i1:(0:Int)≤(k:Int):=o_;have i2:(k:Int)<(n:Int):=o_;subst hA;subst hk;clear HK hv hcs al hx ac;go_enter Tryz.func191,Tryz.ntmps191
   go_wp2_with fail
   generalize w.alloc (.cells #[.map mm,.slice (some ⟨ge,oe,none⟩) n c] 92)=W at aa x0 x1 y0 y2 ag HM au am ⊢
   refine (af.out W y0).mono ?_;rintro e w1 ⟨rfl,rfl⟩;have ao:w.heap.size<W.heap.size:=o_;have ap:g<W.heap.size:=o_;have ae:Hid (∀ q,Below w.heap.size w (W.drewN q)):=z_ (fun q=>qa3 aa.out q);go_wp2_with fail
   go_quiet ((go_at_call 174;exact (ak.out _).mono (fun _ _ h=>⟨h.1,_,h.2.symm⟩)))
   go_wp2_with fail
   go_quiet (fail)
   go_wp2;go_ret;exact ⟨rfl,qa3 (ae.out _) _⟩
  ·have ab:Hid (kk=0):=z_ (by rw [HK.out,if_neg hv,if_neg (by rw [← HN.out];exact ac)])
   have ak:=z_ (fun W=>qbm to n false (decide_eq_false ac) W);clear HK hv ac;go_enter Tryz.func191,Tryz.ntmps191
   go_wp2_with fail
   generalize w.alloc (.cells #[.map mm,.slice A n c] 92)=W at aa x0 x1 y0 y2 ag HM ⊢
   refine (af.out W y0).mono ?_;rintro e w1 ⟨rfl,rfl⟩;have ao:w.heap.size<W.heap.size:=o_;have ap:g<W.heap.size:=o_;have ae:Hid (∀ q,Below w.heap.size w (W.drewN q)):=z_ (fun q=>qa3 aa.out q);go_wp2_with fail
   go_quiet ((go_at_call 174;exact (ak.out _).mono (fun _ _ h=>⟨h.1,_,h.2.symm⟩)))
   go_wp2;go_ret;exact ⟨qan (by rw [ab.out];rfl),ae.out _⟩
theorem qev (l:List UInt8):(bstr l).toList=[]↔l=[]:=by
 have h:=qfc (a:=l) (b:=[]);have e:(bstr []).toList=[]:=by first|rfl|(simp [bstr];done)|(decide +kernel)
 rw [e] at h;constructor
 ·intro hl
  rw [hl] at h;exact of_decide_eq_true h.symm
 ·rintro rfl;exact e
def qdm (t:TermM):Bool:=decide (t.name=[]∧t.sort=0)
theorem qp9 (t:TermM)(g o:Nat)(w:World)(t1:w.cell? ⟨g,o+1,none⟩=some (.string (bstr t.name)))(t2:w.cell? ⟨g,o+2,none⟩=some (.int .i64 t.sort))(r:Bool)(hr:qdm t=r):
  Calls Tryz.prog 156 #[.pointer (some ⟨g,o,none⟩)] w fun e w'=>e=.returned (.bool r)∧w=w':=by
 by_cases h1:t.name=[]
 ·rw [h1] at t1
  have HR:Hid ((t.sort==0)=r):=z_ (by rw [← hr,qdm,Bool.eq_iff_iff];simp [h1]);have e1:(bstr []).toList=[]:=(qev []).2 rfl;have e2:(bstr []).toList.isEmpty=true:=by rw [e1];rfl
  clear hr h1;go_enter Tryz.func156,Tryz.ntmps156
  go_wp2;go_ret;exact ⟨qa0 (by rw [← HR.out];try rfl),rfl⟩
 ·have HR:Hid (r=false):=z_ (by rw [← hr,qdm];exact decide_eq_false (fun e=>h1 e.1))
  have e1:¬ (bstr t.name).toList=[]:=fun e=>h1 ((qev _).1 e)
  have e2:(bstr t.name).toList.isEmpty=false:=by
   cases hq:(bstr t.name).toList with
   | nil=>exact absurd hq e1
   | cons _ _=>rfl
  clear hr h1;go_enter Tryz.func156,Tryz.ntmps156
  go_wp2;go_ret;exact ⟨qa0 HR.out.symm,rfl⟩
def varB (G:GrM)(t:TermM):Bool:=qb3 t.name&&decide (0≤t.sort∧t.sort<G.U.length)&&decide (t.args.length=0)
theorem qk7 (G:GrM)(mv:Value)(A:Option Addr)(n c:Nat)(t:TermM)(g o:Nat)(B:Option Addr)(cb:Nat)(w:World)(hM:HasM w mv (.slice A n c) G)(t1:w.cell? ⟨g,o+1,none⟩=some (.string (bstr t.name)))(t2:w.cell? ⟨g,o+2,none⟩=some (.int .i64 t.sort))(t3:w.cell? ⟨g,o+3,none⟩=some (.slice B t.args.length cb))(hB:Bnd t)(r:Bool)(hr:varB G t=r):
  Calls Tryz.prog 151 #[.agg #[mv,.slice A n c],.pointer (some ⟨g,o,none⟩)] w fun e w'=>e=.returned (.bool r)∧Below w.heap.size w w':=by
 obtain ⟨mm,rfl⟩:=qdl hM.m;have hg:=l_ t1;simp only [] at hg;have aa:Below w.heap.size w (w.alloc (.cells #[.map mm,.slice A n c] 92)):=b_.alloc n_ _;have ab:=z_ aa;have x0:(w.alloc (.cells #[.map mm,.slice A n c] 92)).cell? ⟨w.heap.size,0,none⟩=some (.map mm):=by simp
 have y1:=(aa.cell (p:=⟨g,o+1,none⟩) hg).trans t1;have y2:=(aa.cell (p:=⟨g,o+2,none⟩) hg).trans t2;have y3:=(aa.cell (p:=⟨g,o+3,none⟩) hg).trans t3;have ae:(w.alloc (.cells #[.map mm,.slice A n c] 92)).heap.size=w.heap.size+1:=by simp
 obtain ⟨q0,⟨q3,q4⟩,⟨q1,q2⟩⟩:=hB;have aj:=z_ (fun r hr W=>qil t.name q0 r hr W);have ak:=z_ (fun r hr W (hW:Below (w.alloc (.cells #[.map mm,.slice A n c] 92)).heap.size (w.alloc (.cells #[.map mm,.slice A n c] 92)) W)=>qiu G.U (.map mm) t.sort q1 q2 r hr W ((hM.below aa).m.below hW));obtain ⟨m,hm⟩:=e_ (t.args.length);rw [← hm] at y3;obtain ⟨p1,af⟩:=e_ (qb3 t.name);obtain ⟨p2,ag⟩:=e_ (decide (0≤t.sort∧t.sort<G.U.length));have HR:Hid ((p1&&p2&&decide (m=0))=r):=z_ (by rw [af,ag,hm,← hr];rfl);have ah:=z_ (fun W=>aj.out p1 af.symm W);have ac:=z_ (fun W hW=>ak.out p2 ag.symm W hW);clear hM aa t1 t2 t3 hr hm af ag aj ak;cases p1 with
 | false=>
  go_enter Tryz.func151,Tryz.ntmps151
  go_wp2_with fail
  generalize w.alloc (.cells #[.map mm,.slice A n c] 92)=W at ab x0 y1 y2 y3 ae ac ⊢
  have al:w.heap.size<W.heap.size:=o_;have am:g<W.heap.size:=o_;have ad:Hid (∀ q,Below w.heap.size w (W.drewN q)):=z_ (fun q=>qa3 ab.out q);go_quiet ((go_at_call 187;exact (ah.out _).mono (fun _ _ h=>⟨h.1,_,h.2.symm⟩)))
  go_wp2;go_ret;exact ⟨qa0 (by rw [← HR.out];rfl),ad.out _⟩
 | true=>
  cases p2 with
  | false=>
   go_enter Tryz.func151,Tryz.ntmps151
   go_wp2_with fail
   generalize w.alloc (.cells #[.map mm,.slice A n c] 92)=W at ab x0 y1 y2 y3 ae ac ⊢
   have al:w.heap.size<W.heap.size:=o_;have am:g<W.heap.size:=o_;have ad:Hid (∀ q,Below w.heap.size w (W.drewN q)):=z_ (fun q=>qa3 ab.out q);have ai:=z_ (fun q=>ac.out (W.drewN q) (qa3 b_ q));go_quiet (first|(go_at_call 187;exact (ah.out _).mono (fun _ _ h=>⟨h.1,_,h.2.symm⟩))|(go_at_call 188;exact (ai.out _).mono (fun _ _ h=>⟨h.1,_,h.2.symm⟩)))
   go_wp2;go_ret;exact ⟨qa0 (by rw [← HR.out];rfl),ad.out _⟩
  | true=>
   have hmc:(m=0∧Hid (r=true))∨(((m:Int)==0)=false∧decide ((m:Int)=0)=false∧¬ m=0∧Hid (r=false)):=by
    by_cases hz:m=0
    ·exact .inl ⟨hz,z_ (by rw [← HR.out,hz];rfl)⟩
    ·exact .inr ⟨by simp;omega,f_,hz,z_ (by rw [← HR.out];simp [hz])⟩
   rcases hmc with ⟨rfl,HF⟩|⟨d1,d2,d3,HF⟩
   all_goals
    go_enter Tryz.func151,Tryz.ntmps151
    go_wp2_with fail
    generalize w.alloc (.cells #[.map mm,.slice A n c] 92)=W at ab x0 y1 y2 y3 ae ac ⊢
    have al:w.heap.size<W.heap.size:=o_;have am:g<W.heap.size:=o_;have ad:Hid (∀ q,Below w.heap.size w (W.drewN q)):=z_ (fun q=>qa3 ab.out q);have ai:=z_ (fun q=>ac.out (W.drewN q) (qa3 b_ q));go_quiet (first|(go_at_call 187;exact (ah.out _).mono (fun _ _ h=>⟨h.1,_,h.2.symm⟩))|(go_at_call 188;exact (ai.out _).mono (fun _ _ h=>⟨h.1,_,h.2.symm⟩)))
    go_wp2;go_ret;exact ⟨qa0 (by rw [HF.out];try rfl),ad.out _⟩
end gramk

namespace gramc
open mem dec sortp sorti rowl trm terml termb termt gram gramo gramk
def GrOk (G:GrM):Prop:=∀ j,j<G.E.length→(G.E.getD j default).2.1=j∧(G.E.getD j default).2.2.1≤3∧0≤(G.E.getD j default).1.unt∧I64 (G.E.getD j default).1.unt
def qhk (x:OpE)(m:Nat):Bool:=if x.1.ass then decide (2≤m) else decide (m=x.2.2.1)
def CanP (G:GrM)(op:Int)(L:List TermM):Prop:=(0≤op∧op<G.E.length)∧qhk (G.E.getD op.toNat default) L.length=true∧∀ i,i<L.length→gKind G (L.getD i default)=kAtS (G.E.getD op.toNat default).1.ass (G.E.getD op.toNat default).2.2 i
set_option maxRecDepth 20000 in
set_option maxHeartbeats 8000000 in
theorem qhl (G:GrM)(hG:GrOk G)(mv:Value)(A:Option Addr)(n c:Nat)(op:Int)(aJ:I64 op)(L:List TermM)(v:Value)(w:World)(hM:HasM w mv (.slice A n c) G)(hn:n=G.E.length)(h:HasTs N lo w v L)(r:Bool)(hr:r=true↔CanP G op L):
  Calls Tryz.prog 157 #[.agg #[mv,.slice A n c],.int .i64 op,v] w fun e w'=>e=.returned (.bool r)∧Below w.heap.size w w':=by
 obtain ⟨mm,rfl⟩:=qdl hM.m;obtain ⟨m,hm⟩:=e_ (L.length);obtain ⟨B,cb,rfl,h⟩:=HasR.shape h hm.symm;have hl:=h.len.2.1;have ai:Below w.heap.size w (w.alloc (.cells #[.map mm,.slice A n c] 92)):=b_.alloc n_ _;have aj:=z_ ai;have x0:(w.alloc (.cells #[.map mm,.slice A n c] 92)).cell? ⟨w.heap.size,0,none⟩=some (.map mm):=by simp
 have x1:(w.alloc (.cells #[.map mm,.slice A n c] 92)).cell? ⟨w.heap.size,1,none⟩=some (.slice A n c):=by simp
 have aK:(w.alloc (.cells #[.map mm,.slice A n c] 92)).heap.size=w.heap.size+1:=by simp
 have HM:=z_ (hM.below ai);have HH:=z_ (h.below n_ ai);have HN:=z_ hn;have aT:=z_ hm;have HR:=z_ hr;clear hM ai h hr;by_cases ad:0≤op∧op<n
 ·obtain ⟨k,hk⟩:∃ k:Nat,op=(k:Int):=⟨op.toNat,by omega⟩
  have aL:k<n:=o_;have ae:=z_ (fun W=>qbm op n true (decide_eq_true ad) W);obtain ⟨ge,oe,A2,c2,hA,az,hcs,_⟩:=qnd HM.out.e aL;obtain ⟨aM,aA,aN,aO⟩:=hG k o_
  have af:Hid (r=true↔qhk (G.E.getD k default) m=true∧∀ i,i<m→gKind G (L.getD i default)=kAtS (G.E.getD k default).1.ass (G.E.getD k default).2.2 i):=z_ (by
   rw [HR.out,CanP,hk,← hn,← hm];have h1:(0:Int)≤(k:Int)∧(k:Int)<(n:Int):=o_
   simp only [h1,true_and,Int.toNat_natCast,and_self])
  obtain ⟨⟨⟨nm,ds,a,b,u⟩,i,s0,s1,s2,s3,s4⟩,hx⟩:∃ x,x=G.E.getD k default:=⟨_,rfl⟩;rw [← hx] at hcs af aA;simp only [] at aA;obtain ⟨dl,aB⟩:=e_ (ds.length);have e0:(w.alloc (.cells #[.map mm,.slice A n c] 92)).cell? ⟨ge,oe+k*11,none⟩=some (.string (bstr nm)):=hcs 0 o_;have e1:(w.alloc (.cells #[.map mm,.slice A n c] 92)).cell? ⟨ge,oe+k*11+1,none⟩=some (.slice A2 dl c2):=by rw [aB];exact hcs 1 o_
  have e2:(w.alloc (.cells #[.map mm,.slice A n c] 92)).cell? ⟨ge,oe+k*11+2,none⟩=some (.bool a):=hcs 2 o_;have e3:(w.alloc (.cells #[.map mm,.slice A n c] 92)).cell? ⟨ge,oe+k*11+3,none⟩=some (.bool b):=hcs 3 o_;have e4:(w.alloc (.cells #[.map mm,.slice A n c] 92)).cell? ⟨ge,oe+k*11+4,none⟩=some (.int .i64 u):=hcs 4 o_;have e5:(w.alloc (.cells #[.map mm,.slice A n c] 92)).cell? ⟨ge,oe+k*11+5,none⟩=some (.int .i64 (i:Int)):=hcs 5 o_;have e6:(w.alloc (.cells #[.map mm,.slice A n c] 92)).cell? ⟨ge,oe+k*11+6,none⟩=some (.int .i64 (s0:Int)):=hcs 6 o_;have e7:(w.alloc (.cells #[.map mm,.slice A n c] 92)).cell? ⟨ge,oe+k*11+7,none⟩=some (.int .u16 (s1:Int)):=hcs 7 o_;have e8:(w.alloc (.cells #[.map mm,.slice A n c] 92)).cell? ⟨ge,oe+k*11+8,none⟩=some (.int .u16 (s2:Int)):=hcs 8 o_;have e9:(w.alloc (.cells #[.map mm,.slice A n c] 92)).cell? ⟨ge,oe+k*11+9,none⟩=some (.int .u16 (s3:Int)):=hcs 9 o_;have ap:(w.alloc (.cells #[.map mm,.slice A n c] 92)).cell? ⟨ge,oe+k*11+10,none⟩=some (.int .u16 (s4:Int)):=hcs 10 o_;have i1:(0:Int)≤(k:Int):=o_;have i2:(k:Int)<(n:Int):=o_;obtain ⟨tk,ak⟩:=e_ (qhk ((⟨nm,ds,a,b,u⟩,i,s0,s1,s2,s3,s4):OpE) m);have aq:=z_ (fun W=>qv1 nm A2 dl c2 a b u i s0 s1 s2 s3 s4 m hl tk ak.symm W);have aP:Hid (tk=if a then decide (2≤m) else decide (m=s0)):=z_ ak;rw [← ak] at af;subst hA;subst hk;clear hcs hx ad aB ak aM aN aO hn hm;cases tk with
  | false=>
   have HF:Hid (r=false):=z_ (by cases hq:r with|false=>rfl|true=>exact absurd (af.out.1 hq).1 (by simp));go_enter Tryz.func157,Tryz.ntmps157
   go_wp2_with fail
   refine (ae.out _).mono ?_;rintro e w1 ⟨rfl,rfl⟩;go_wp2_with fail
   refine (aq.out _).mono ?_;rintro e w2 ⟨rfl,al⟩;have au:Hid (Below w.heap.size w w2):=z_ (aj.out.trans (al.mono (by rw [aK];omega)));clear al;go_wp2;go_ret;exact ⟨qa0 HF.out.symm,au.out⟩
  | true=>
   have aQ:a=false→m≤3:=fun ha=>by
    have:=aP.out;rw [ha,if_neg (by simp)] at this;have:=of_decide_eq_true this.symm;omega
   go_enter Tryz.func157,Tryz.ntmps157
   go_wp2_with fail
   refine (ae.out _).mono ?_;rintro e w1 ⟨rfl,rfl⟩;go_wp2_with fail
   refine (aq.out _).mono ?_;rintro e w2 ⟨rfl,al⟩;generalize w.alloc (.cells #[.map mm,.slice (some ⟨ge,oe,none⟩) n c] 92)=W at *
   have aa:=az;have ag:w.heap.size<W.heap.size:=o_;clear ae aq az i1 i2 aJ;go_wp2;go_loopw [7,27] (fun _ aR wr=>∃ p:Nat,aR=.int .i64 p∧p≤m∧Hid (∀ i,i<p→gKind G (L.getD i default)=kAtS a (s0,s1,s2,s3,s4) i)∧Hid (Below W.heap.size W wr)) (fun _ i _=>m-(intOf i).toNat)
   case atStart=>exact ⟨0,rfl,y_,z_ (fun i h=>absurd h (Nat.not_lt_zero _)),z_ al⟩
   case round=>
    obtain ⟨p,rfl,hp,ah,HB⟩:=hrel;by_cases am:p<m
    ·have d1:decide ((p:Int)<(m:Int))=true:=d_
     have d3:decide (p<m)=true:=decide_eq_true am;obtain ⟨_,g,o,A3,c3,_,rfl,_,av,t0,_,t2,_,_,aC⟩:=qal HH.out am;obtain ⟨x,hx⟩:=e_ (L.getD p default);rw [← hx] at t0 t2 aC;have ac:=HB.out;have aD:g<wr.heap.size:=w_ av ac.size;have ab:ge<wr.heap.size:=w_ aa ac.size;have aE:w.heap.size<wr.heap.size:=w_ ag ac.size;have kc:∀ b y,b<W.heap.size→wr.cell? ⟨b,y,none⟩=W.cell? ⟨b,y,none⟩:=fun b y h=>ac.cell (p:=⟨b,y,none⟩) h
     have r0:∀ t:BoxC (Below wr.heap.size wr),t.W.cell? ⟨w.heap.size,0,none⟩=some (.map mm):=fun t=>t.cell ((kc _ _ ag).trans x0) aE
     have r1:∀ t:BoxC (Below wr.heap.size wr),t.W.cell? ⟨w.heap.size,1,none⟩=some (.slice (some ⟨ge,oe,none⟩) n c):=fun t=>t.cell ((kc _ _ ag).trans x1) aE
     have g0:∀ t:BoxC (Below wr.heap.size wr),t.W.cell? ⟨ge,oe+k*11,none⟩=some (.string (bstr nm)):=fun t=>t.cell ((kc _ _ aa).trans e0) ab
     have g1:∀ t:BoxC (Below wr.heap.size wr),t.W.cell? ⟨ge,oe+k*11+1,none⟩=some (.slice A2 dl c2):=fun t=>t.cell ((kc _ _ aa).trans e1) ab
     have g2:∀ t:BoxC (Below wr.heap.size wr),t.W.cell? ⟨ge,oe+k*11+2,none⟩=some (.bool a):=fun t=>t.cell ((kc _ _ aa).trans e2) ab
     have g3:∀ t:BoxC (Below wr.heap.size wr),t.W.cell? ⟨ge,oe+k*11+3,none⟩=some (.bool b):=fun t=>t.cell ((kc _ _ aa).trans e3) ab
     have g4:∀ t:BoxC (Below wr.heap.size wr),t.W.cell? ⟨ge,oe+k*11+4,none⟩=some (.int .i64 u):=fun t=>t.cell ((kc _ _ aa).trans e4) ab
     have g5:∀ t:BoxC (Below wr.heap.size wr),t.W.cell? ⟨ge,oe+k*11+5,none⟩=some (.int .i64 (i:Int)):=fun t=>t.cell ((kc _ _ aa).trans e5) ab
     have g6:∀ t:BoxC (Below wr.heap.size wr),t.W.cell? ⟨ge,oe+k*11+6,none⟩=some (.int .i64 (s0:Int)):=fun t=>t.cell ((kc _ _ aa).trans e6) ab
     have g7:∀ t:BoxC (Below wr.heap.size wr),t.W.cell? ⟨ge,oe+k*11+7,none⟩=some (.int .u16 (s1:Int)):=fun t=>t.cell ((kc _ _ aa).trans e7) ab
     have g8:∀ t:BoxC (Below wr.heap.size wr),t.W.cell? ⟨ge,oe+k*11+8,none⟩=some (.int .u16 (s2:Int)):=fun t=>t.cell ((kc _ _ aa).trans e8) ab
     have g9:∀ t:BoxC (Below wr.heap.size wr),t.W.cell? ⟨ge,oe+k*11+9,none⟩=some (.int .u16 (s3:Int)):=fun t=>t.cell ((kc _ _ aa).trans e9) ab
     have aF:∀ t:BoxC (Below wr.heap.size wr),t.W.cell? ⟨ge,oe+k*11+10,none⟩=some (.int .u16 (s4:Int)):=fun t=>t.cell ((kc _ _ aa).trans ap) ab
     obtain ⟨kk,aw⟩:=e_ (gKind G x);obtain ⟨ka,ax⟩:=e_ (kAtS a (s0,s1,s2,s3,s4) p)
     have an:Hid (∀ t:BoxC (Below wr.heap.size wr),Calls Tryz.prog 191 #[.agg #[.map mm,.slice (some ⟨ge,oe,none⟩) n c],.pointer (some ⟨g,o+p*4,none⟩)] t.W fun e w'=>e=.returned (.int .u16 (kk:Int))∧Below t.W.heap.size t.W w'):=z_ (fun t=>by
      have hb:=ac.trans (t.h.mono ac.size);rw [aw]
      exact qsv G (.map mm) _ n c x g (o+p*4) t.W (HM.out.below hb) HN.out (t.cell ((kc _ _ av).trans t0) aD) (t.cell ((kc _ _ av).trans t2) aD) aC)
     have ao:Hid (∀ t:BoxC (Below wr.heap.size wr),Calls Tryz.prog 192 #[aggE nm A2 dl c2 a b u i s0 s1 s2 s3 s4,.int .i64 p] t.W fun e w'=>e=.returned (.int .u16 (ka:Int))∧Below t.W.heap.size t.W w'):=z_ (fun t=>by
      rw [ax]
      exact qsq nm A2 dl c2 a b u i s0 s1 s2 s3 s4 p (fun ha=>by have:=aQ ha;omega) t.W)
     have aG:Hid (kk=gKind G (L.getD p default)):=z_ (by rw [aw,hx]);have aH:=z_ ax;have nb:Nonempty (BoxC (Below wr.heap.size wr)):=⟨⟨_,Below.refl _ _⟩⟩;have i1:(0:Int)≤(k:Int):=o_;have i2:(k:Int)<(n:Int):=o_;have i3:(0:Int)≤(p:Int):=o_;have i4:(p:Int)<(m:Int):=o_;have aI:=ac.size;clear t0 t2 ac kc aw ax hx x0 x1 e0 e1 e2 e3 e4 e5 e6 e7 e8 e9 ap;by_cases hq:kk=ka
     ·have q1:((kk:Int)==(ka:Int))=true:=by rw [hq];simp
      have q2:(kk==ka)=true:=by rw [hq];simp
      have q3:decide (kk=ka)=true:=decide_eq_true hq;go_wp2_with fail
      refine qa1 (C:=Below wr.heap.size wr) k_ k_ b_.drew ?_;repeat (first|go_big_quiet_step ((go_at_call 191;exact (an.out _).mono (fun _ _ h=>⟨h.1,BoxC.step _ h.2⟩)))|go_big_quiet_step ((go_at_call 192;exact (ao.out _).mono (fun _ _ h=>⟨h.1,BoxC.step _ h.2⟩))))
      refine wpQuiet_nil ?_;rintro w5 ⟨t5,rfl⟩;have ay:=z_ (HB.out.trans (t5.h.mono aI))
      have HA:Hid (∀ i,i<p+1→gKind G (L.getD i default)=kAtS a (s0,s1,s2,s3,s4) i):=z_ (fun j hj=>by
       by_cases e:j=p
       ·subst e;rw [← aG.out,← aH.out,hq]
       ·exact ah.out j o_)
      clear r0 r1 g0 g1 g2 g3 g4 g5 g6 g7 g8 g9 aF nb an ao;go_wp2;go_roundw
      case measure=>simp [intOf];omega
      case rel=>exact ⟨p+1,by go_num,by omega,HA,ay⟩
     ·have q1:((kk:Int)==(ka:Int))=false:=by simp;omega
      have q2:(kk==ka)=false:=by simp [hq]
      have q3:decide (kk=ka)=false:=decide_eq_false hq
      have HF:Hid (r=false):=z_ (by
       cases aS:r with
       | false=>rfl
       | true=>exact absurd ((af.out.1 aS).2 p am) (by rw [← aG.out,← aH.out];exact hq))
      go_wp2_with fail
      refine qa1 (C:=Below wr.heap.size wr) k_ k_ b_.drew ?_;repeat (first|go_big_quiet_step ((go_at_call 191;exact (an.out _).mono (fun _ _ h=>⟨h.1,BoxC.step _ h.2⟩)))|go_big_quiet_step ((go_at_call 192;exact (ao.out _).mono (fun _ _ h=>⟨h.1,BoxC.step _ h.2⟩))))
      refine wpQuiet_nil ?_;rintro w5 ⟨t5,rfl⟩;have ay:=z_ (aj.out.trans ((HB.out.trans (t5.h.mono aI)).mono (Nat.le_of_lt ag)));clear r0 r1 g0 g1 g2 g3 g4 g5 g6 g7 g8 g9 aF nb an ao;go_wp2;go_ret;exact ⟨qa0 HF.out.symm,ay.out⟩
    ·have d1:decide ((p:Int)<(m:Int))=false:=f_
     have d3:decide (p<m)=false:=decide_eq_false am;have HT:Hid (r=true):=z_ (af.out.2 ⟨by first|rfl|trivial,fun i hi=>ah.out i o_⟩);have au:=z_ (aj.out.trans (HB.out.mono (Nat.le_of_lt ag)));clear e0 e1 e2 e3 e4 e5 e6 e7 e8 e9 ap x0 x1;go_wp2;go_ret;exact ⟨qa0 HT.out.symm,au.out⟩
 ·have ae:=z_ (fun W=>qbm op n false (decide_eq_false ad) W)
  have HF:Hid (r=false):=z_ (by
   cases hq:r with
   | false=>rfl
   | true=>exact absurd (HR.out.1 hq).1 (by rw [← HN.out];exact ad))
  clear ad hn hm;go_enter Tryz.func157,Tryz.ntmps157
  go_wp2_with fail
  refine (ae.out _).mono ?_;rintro e w1 ⟨rfl,rfl⟩;go_wp2;go_ret;exact ⟨qa0 HF.out.symm,aj.out⟩
end gramc

namespace gramn
open mem dec sortp sorti rowl trm trmv terml termb termt termvr gram gramo graml gramk gramc
theorem qbd (w:World)(o1 o2:Obj):((w.alloc o1).alloc o2).heap[w.heap.size]? =some o1:=by
 show ((w.heap.push o1).push o2)[w.heap.size]? =some o1;rw [Array.getElem?_push,if_neg (by simp;try omega),Array.getElem?_push,if_pos rfl]
noncomputable instance (L:List TermM):Decidable (Srt L):=by unfold Srt;infer_instance
noncomputable def qsw (x:OpE)(L:List TermM)(s:Bool):Bool:=!(L.any (isUB x.1.unt))&&!(L.any (isAB x.1.ass x.2.1))&&(!x.1.com || s)
def qc4 (G:GrM)(t:TermM):Prop:=if t.op=-1 then varB G t=true else qdm t=true∧CanP G t.op t.args∧qsw (G.E.getD t.op.toNat default) t.args (decide (Srt t.args))=true
set_option maxRecDepth 50000 in
set_option maxHeartbeats 8000000 in
theorem qsx (G:GrM)(hG:GrOk G)(mv:Value)(A:Option Addr)(n c:Nat)(t:TermM)(g o d:Nat)(B:Option Addr)(cb:Nat)(w:World)(hM:HasM w mv (.slice A n c) G)(hn:n=G.E.length)(t0:w.cell? ⟨g,o,none⟩=some (.int .i64 t.op))(t1:w.cell? ⟨g,o+1,none⟩=some (.string (bstr t.name)))(t2:w.cell? ⟨g,o+2,none⟩=some (.int .i64 t.sort))(t3:w.cell? ⟨g,o+3,none⟩=some (.slice B t.args.length cb))(h:HasTs N lo w (.slice B t.args.length cb) t.args)(hB:Bnd t)(hsz:qa2 t.args≤2097152)(r:Bool)(hr:r=true↔qc4 G t):
  Calls Tryz.prog 95 #[.agg #[mv,.slice A n c],.agg #[.pointer (some ⟨g,o,none⟩),.int .i64 d]] w fun e w'=>e=.returned (.bool r)∧Below w.heap.size w w':=by
 obtain ⟨mm,rfl⟩:=qdl hM.m;have hg:=l_ t0;simp only [] at hg;obtain ⟨W,hW⟩:=e_ ((w.alloc (.cells #[.map mm,.slice A n c] 92)).alloc (.cells #[.pointer (some ⟨g,o,none⟩),.int .i64 d] 164));have ab:Below w.heap.size w W:=by
  rw [hW];exact v_
 have x0:W.cell? ⟨w.heap.size,0,none⟩=some (.map mm):=by rw [hW];exact h_ _ _ 0 _ _ _ (qbd _ _ _)
 have x1:W.cell? ⟨w.heap.size,1,none⟩=some (.slice A n c):=by rw [hW];exact h_ _ _ 1 _ _ _ (qbd _ _ _)
 have y0:W.cell? ⟨w.heap.size+1,0,none⟩=some (.pointer (some ⟨g,o,none⟩)):=by rw [hW];exact h_ _ _ 0 _ _ _ (qa5 _ _ _ (by simp))
 have am:W.heap.size=w.heap.size+2:=by rw [hW];simp
 have an:g<W.heap.size:=o_;have z0:=(ab.cell (p:=⟨g,o,none⟩) hg).trans t0;have z1:=(ab.cell (p:=⟨g,o+1,none⟩) hg).trans t1;have z2:=(ab.cell (p:=⟨g,o+2,none⟩) hg).trans t2;have z3:=(ab.cell (p:=⟨g,o+3,none⟩) hg).trans t3;have ae:=z_ ab;have HM:=z_ (hM.below ab);have HH:=z_ (h.below n_ ab);have HN:=z_ hn;have HR:=z_ hr;have ay:=z_ hB;obtain ⟨to,ac⟩:=e_ (t.op);obtain ⟨ar,af⟩:=e_ (t.args.length);by_cases hv:to=-1
 ·have ak:=z_ (fun V (hV:V.cell? ⟨g,o,none⟩=some (.int .i64 to))=>qbw g o to V hV true (decide_eq_true hv))
  have HC:=z_
   (qk7 G _ A n c t g o B cb W HM.out z1 z2 z3 ay.out r (by
    have h1:=HR.out;rw [qc4,if_pos (by rw [← ac];exact hv)] at h1;cases r with
    | true=>exact h1.1 rfl
    | false=>cases hq:varB G t with
     | false=>rfl
     | true=>exact absurd (h1.2 hq) (by simp)))
  rw [← ac] at z0;clear am hM ab t0 t1 t2 t3 z1 z2 z3 h hn hr hB ac af hv HM HH;go_enter Tryz.func95,Tryz.ntmps95
  go_wp2_with fail
  rw [← hW];clear hW;refine (ak.out _ z0).mono ?_;rintro e w1 ⟨rfl,rfl⟩;go_wp2_with fail
  refine HC.out.mono ?_;rintro e w1 ⟨rfl,av⟩;have HF:=z_ (ae.out.trans (av.mono ae.out.size));clear av;go_wp2;go_ret;exact ⟨rfl,HF.out⟩
 ·have ak:=z_ (fun V (hV:V.cell? ⟨g,o,none⟩=some (.int .i64 to))=>qbw g o to V hV false (decide_eq_false hv))
  have ag:Hid (r=true↔qdm t=true∧CanP G to t.args∧qsw (G.E.getD to.toNat default) t.args (decide (Srt t.args))=true):=z_ (by
   have h1:=HR.out;rw [qc4,if_neg (by rw [← ac];exact hv),← ac] at h1
   exact h1)
  have hI:I64 to:=by rw [ac];exact hB.2.1
  obtain ⟨pb,ah⟩:=e_ (qdm t);obtain ⟨aq,ai⟩:∃ q:Bool,q=true↔CanP G to t.args:=by
   by_cases hq:CanP G to t.args
   ·exact ⟨true,fun _=>hq,fun _=>rfl⟩
   ·exact ⟨false,fun e=>absurd e (by simp),fun e=>absurd e hq⟩
  have HP:Hid (∀ t':BoxC (Below W.heap.size W),Calls Tryz.prog 156 #[.pointer (some ⟨g,o,none⟩)] t'.W fun e w'=>e=.returned (.bool pb)∧Below t'.W.heap.size t'.W w'):=z_ (fun t'=>
   (qp9 t g o t'.W (t'.cell z1 an) (t'.cell z2 an) pb ah.symm).mono (fun _ _ q=>⟨q.1,q.2 ▸ Below.refl _ _⟩))
  have HC:Hid (∀ t':BoxC (Below W.heap.size W),Calls Tryz.prog 157 #[.agg #[.map mm,.slice A n c],.int .i64 to,.slice B ar cb] t'.W fun e w'=>e=.returned (.bool aq)∧Below t'.W.heap.size t'.W w'):=z_ (fun t'=>by
   rw [af]
   exact qhl G hG _ A n c to hI t.args _ t'.W (HM.out.below t'.h) HN.out (HH.out.below n_ t'.h) aq ai)
  have r0:∀ t':BoxC (Below W.heap.size W),t'.W.cell? ⟨w.heap.size,0,none⟩=some (.map mm):=fun t'=>t'.cell x0 (by show _<_;omega)
  have r1:∀ t':BoxC (Below W.heap.size W),t'.W.cell? ⟨w.heap.size,1,none⟩=some (.slice A n c):=fun t'=>t'.cell x1 (by show _<_;omega)
  have r2:∀ t':BoxC (Below W.heap.size W),t'.W.cell? ⟨w.heap.size+1,0,none⟩=some (.pointer (some ⟨g,o,none⟩)):=fun t'=>t'.cell y0 (by show _<_;omega)
  have r3:∀ t':BoxC (Below W.heap.size W),t'.W.cell? ⟨g,o,none⟩=some (.int .i64 to):=fun t'=>t'.cell (by rw [ac];exact z0) an
  have r4:∀ t':BoxC (Below W.heap.size W),t'.W.cell? ⟨g,o+3,none⟩=some (.slice B ar cb):=fun t'=>t'.cell (by rw [af];exact z3) an
  have nb:Nonempty (BoxC (Below W.heap.size W)):=⟨⟨_,Below.refl _ _⟩⟩;have aj:W.cell? ⟨g,o,none⟩=some (.int .i64 to):=by rw [ac];exact z0
  cases pb with
  | false=>
   have HF:Hid (r=false):=z_ (by cases hq:r with
    | false=>rfl
    | true=>exact absurd (ag.out.1 hq).1 (by rw [← ah];simp))
   clear am hM ab t0 t1 t2 t3 z0 z1 z2 z3 h hn hr hB ac af hv HM HH HR ag ah ai hI HC;go_enter Tryz.func95,Tryz.ntmps95
   go_wp2_with fail
   rw [← hW];clear hW;refine (ak.out _ aj).mono ?_;rintro e w1 ⟨rfl,rfl⟩;go_wp2_with fail
   refine qa1 (C:=Below W.heap.size W) k_ k_ b_.drew ?_;repeat (go_big_quiet_step ((go_at_call 156;exact (HP.out _).mono (fun _ _ h=>⟨h.1,BoxC.step _ h.2⟩))))
   refine wpQuiet_nil ?_;rintro w5 ⟨t5,rfl⟩;have al:=z_ (ae.out.trans (t5.h.mono ae.out.size));clear r0 r1 r2 r3 r4 nb HP x0 x1 y0 aj;go_wp2;go_ret;exact ⟨qa0 HF.out.symm,al.out⟩
  | true=>
   cases aq with
   | false=>
    have HF:Hid (r=false):=z_ (by cases hq:r with
     | false=>rfl
     | true=>exact absurd (ai.2 (ag.out.1 hq).2.1) (by simp))
    clear am hM ab t0 t1 t2 t3 z0 z1 z2 z3 h hn hr hB ac af hv HM HH HR ag ah ai hI;go_enter Tryz.func95,Tryz.ntmps95
    go_wp2_with fail
    rw [← hW];clear hW;refine (ak.out _ aj).mono ?_;rintro e w1 ⟨rfl,rfl⟩;go_wp2_with fail
    refine qa1 (C:=Below W.heap.size W) k_ k_ b_.drew ?_;repeat (first|go_big_quiet_step ((go_at_call 156;exact (HP.out _).mono (fun _ _ h=>⟨h.1,BoxC.step _ h.2⟩)))|go_big_quiet_step ((go_at_call 157;exact (HC.out _).mono (fun _ _ h=>⟨h.1,BoxC.step _ h.2⟩))))
    refine wpQuiet_nil ?_;rintro w5 ⟨t5,rfl⟩;have al:=z_ (ae.out.trans (t5.h.mono ae.out.size));clear r0 r1 r2 r3 r4 nb HP HC x0 x1 y0 aj;go_wp2;go_ret;exact ⟨qa0 HF.out.symm,al.out⟩
   | true=>
    have ad:=ai.1 rfl;obtain ⟨k,rfl⟩:∃ k:Nat,to=(k:Int):=⟨to.toNat,by have:=ad.1;omega⟩;have aw:k<n:=by have:=ad.1.2;omega
    obtain ⟨ge,oe,A2,c2,hA,az,hcs,_⟩:=qnd HM.out.e aw;obtain ⟨aA,aB,ao,ap⟩:=hG k o_
    have au:Hid (r=qsw (G.E.getD k default) t.args (decide (Srt t.args))):=z_ (by
     have h1:=ag.out;rw [← ah] at h1;simp only [ad,true_and,Int.toNat_natCast] at h1;rw [Bool.eq_iff_iff]
     exact h1)
    obtain ⟨⟨⟨nm,ds,a,b,u⟩,i,s0,s1,s2,s3,s4⟩,hx⟩:∃ x,x=G.E.getD k default:=⟨_,rfl⟩;rw [← hx] at hcs au ao ap;simp only [] at ao ap;obtain ⟨dl,ax⟩:=e_ (ds.length)
    have aa:∀ (j:Nat) (v:Value),j<11→(encE (⟨nm,ds,a,b,u⟩,i,s0,s1,s2,s3,s4) (.slice A2 dl c2)).getD j undef=v→∀ t':BoxC (Below W.heap.size W),t'.W.cell? ⟨ge,oe+k*11+j,none⟩=some v:=fun j v hj e t'=>by
     refine t'.cell ?_ az;rw [hcs j hj,← e,ax]
    have g0:∀ t:BoxC (Below W.heap.size W),t.W.cell? ⟨ge,oe+k*11,none⟩=some (.string (bstr nm)):=aa 0 _ o_ rfl;have g1:∀ t:BoxC (Below W.heap.size W),t.W.cell? ⟨ge,oe+k*11+1,none⟩=some (.slice A2 dl c2):=aa 1 _ o_ rfl;have g2:∀ t:BoxC (Below W.heap.size W),t.W.cell? ⟨ge,oe+k*11+2,none⟩=some (.bool a):=aa 2 _ o_ rfl;have g3:∀ t:BoxC (Below W.heap.size W),t.W.cell? ⟨ge,oe+k*11+3,none⟩=some (.bool b):=aa 3 _ o_ rfl;have g4:∀ t:BoxC (Below W.heap.size W),t.W.cell? ⟨ge,oe+k*11+4,none⟩=some (.int .i64 u):=aa 4 _ o_ rfl;have g5:∀ t:BoxC (Below W.heap.size W),t.W.cell? ⟨ge,oe+k*11+5,none⟩=some (.int .i64 (i:Int)):=aa 5 _ o_ rfl;have g6:∀ t:BoxC (Below W.heap.size W),t.W.cell? ⟨ge,oe+k*11+6,none⟩=some (.int .i64 (s0:Int)):=aa 6 _ o_ rfl;have g7:∀ t:BoxC (Below W.heap.size W),t.W.cell? ⟨ge,oe+k*11+7,none⟩=some (.int .u16 (s1:Int)):=aa 7 _ o_ rfl;have g8:∀ t:BoxC (Below W.heap.size W),t.W.cell? ⟨ge,oe+k*11+8,none⟩=some (.int .u16 (s2:Int)):=aa 8 _ o_ rfl;have g9:∀ t:BoxC (Below W.heap.size W),t.W.cell? ⟨ge,oe+k*11+9,none⟩=some (.int .u16 (s3:Int)):=aa 9 _ o_ rfl;have aC:∀ t:BoxC (Below W.heap.size W),t.W.cell? ⟨ge,oe+k*11+10,none⟩=some (.int .u16 (s4:Int)):=aa 10 _ o_ rfl
    have HL:Hid (∀ t':BoxC (Below W.heap.size W),Calls Tryz.prog 158 #[aggE nm A2 dl c2 a b u i s0 s1 s2 s3 s4,.slice B ar cb] t'.W fun e w'=>e=.returned (.bool r)∧Below t'.W.heap.size t'.W w'):=z_ (fun t'=>by
     rw [af]
     exact qsu nm A2 dl c2 a b u ap ao i s0 s1 s2 s3 s4 t.args _ t'.W (HH.out.below n_ t'.h) hsz (decide (Srt t.args)) decide_eq_true_iff r au.out.symm)
    have i1:(0:Int)≤(k:Int):=o_;have i2:(k:Int)<(n:Int):=o_;subst hA;clear am hM ab t0 t1 t2 t3 z0 z1 z2 z3 h hn hr hB ac af hv HM HH HR ag ah ai hI hcs aa hx ax ad aA aB ao ap au aw;go_enter Tryz.func95,Tryz.ntmps95
    go_wp2_with fail
    rw [← hW];clear hW;refine (ak.out _ aj).mono ?_;rintro e w1 ⟨rfl,rfl⟩;go_wp2_with fail
    refine qa1 (C:=Below W.heap.size W) k_ k_ b_.drew ?_;repeat (first|go_big_quiet_step ((go_at_call 156;exact (HP.out _).mono (fun _ _ h=>⟨h.1,BoxC.step _ h.2⟩)))|go_big_quiet_step ((go_at_call 157;exact (HC.out _).mono (fun _ _ h=>⟨h.1,BoxC.step _ h.2⟩)))|go_big_quiet_step ((go_at_call 158;exact (HL.out _).mono (fun _ _ h=>⟨h.1,BoxC.step _ h.2⟩))))
    refine wpQuiet_nil ?_;rintro w5 ⟨t5,rfl⟩;have al:=z_ (ae.out.trans (t5.h.mono ae.out.size));clear r0 r1 r2 r3 r4 nb HP HC HL x0 x1 y0 aj g0 g1 g2 g3 g4 g5 g6 g7 g8 g9 aC;go_wp2;go_ret;exact ⟨rfl,al.out⟩
end gramn

namespace gramt
open mem dec setm sets sortm sortn sortp sorti rowl trm trmv terml termb termt termx termz termro termsd termvr termev frm termlm sigi gram gramo graml gramk gramc gramn
theorem qj3:∀ {l:List TermM} {a:TermM},a∈l→size a≤qa2 l
 | b::l,a,h=>by
  have e:qa2 (b::l)=size b+qa2 l:=rfl;rcases List.mem_cons.1 h with rfl|h
  ·omega
  ·have:=qj3 h
   omega
def qca (G:GrM)(t:TermM):Prop:=LimT t∧allN (qc4 G) t
def NodJ (G:GrM)(t0:TermM)(T:Pend)(_:World):Prop:=(∀ p∈T,qa2 p.1.args≤1048576)∧(allN (qc4 G) t0↔∀ p∈T,allN (qc4 G) p.1)
theorem qsz (G:GrM)(hG:GrOk G)(mv:Value)(A:Option Addr)(n c:Nat)(t0:TermM)(W0 W1:World)(hM:HasM W0 mv (.slice A n c) G)(hn:n=G.E.length)(hb:Below W0.heap.size W0 W1)(F:List Nat)(hF:∀ k∈F,W0.heap.size≤k):
  qyi 95 #[.agg #[mv,.slice A n c]] #[] W0 W1 N lo F [] (NodJ G t0) (fun r=>r=true↔allN (qc4 G) t0):=by
 rintro ⟨g,o,d'⟩ t d T w ⟨a1,a2,a3,a4,c0,c1,c2,v,c3,hh,ab⟩ ac ⟨h1,h2⟩;simp only [] at a1 a2 a3 a4 c0 c1 c2 c3 hh ab;subst a1;obtain ⟨B,cb,rfl,_⟩:=HasR.shape hh rfl;have ad:=hb.trans (ac.below hb.size hF);have kc:∀ y,w.cell? ⟨g,y,none⟩=W1.cell? ⟨g,y,none⟩:=fun y=>World.cell?_of_block (a:=⟨g,y,none⟩) (ac.block g a3 a4)
 obtain ⟨r,hr⟩:=x_ (qc4 G t);refine (qsx G hG mv A n c t g o d' B cb w (hM.below ad) hn ((kc _).trans c0) ((kc _).trans c1) ((kc _).trans c2) ((kc _).trans c3) (hh.below n_ ad) ab (by have:=h1 (t,d') (by simp);simp only [] at this;omega) r hr).mono ?_;rintro ex w' ⟨rfl,ae⟩;have aa:allN (qc4 G) t↔qc4 G t∧∀ a∈t.args,allN (qc4 G) a:=qbq _ t;refine ⟨r,rfl,Chg.of_below ae,fun af=>⟨fun p hp=>?_,?_⟩,fun ag=>?_⟩
 ·rcases List.mem_append.1 hp with hp|hp
  ·unfold kidsP at hp
   simp only [List.mem_reverse,List.mem_map] at hp;obtain ⟨a,ha,rfl⟩:=hp;have q1:=h1 (t,d') (by simp);simp only [] at q1;have q2:=qj3 ha;have q3:=qao a;show qa2 a.args≤_;omega
  ·exact h1 p (by simp [hp])
 ·rw [h2,List.forall_mem_cons,List.forall_mem_append]
  refine and_congr ?_ Iff.rfl;have e:(∀ p∈kidsP t d',allN (qc4 G) p.1)↔∀ a∈t.args,allN (qc4 G) a:=by
   unfold kidsP;simp only [List.mem_reverse,List.mem_map];constructor
   ·intro h a ha;exact h _ ⟨a,ha,rfl⟩
   ·rintro h _ ⟨a,ha,rfl⟩;exact h a ha
  rw [e];show allN (qc4 G) t↔_;rw [aa];exact ⟨fun q=>q.2,fun q=>⟨hr.1 af,q⟩⟩
 ·constructor
  ·intro e;cases e
  ·intro q
   exfalso
   have:=((h2.1 q) (t,d') (by simp));have q2:=hr.2 (aa.1 this).1;rw [ag] at q2;cases q2
set_option maxRecDepth 50000 in
set_option maxHeartbeats 4000000 in
theorem qh1 (G:GrM)(hG:GrOk G)(mv:Value)(A:Option Addr)(n c:Nat)(t:TermM)(va:Value)(w:World)(hM:HasM w mv (.slice A n c) G)(hn:n=G.E.length)(h:HasTs N lo w va t.args)(hB:Bnd t)(hsz:qa2 t.args≤1048576):
  Calls Tryz.prog 46 #[.agg #[mv,.slice A n c],aggT t va] w fun e w'=>∃ r,e=.returned (.bool r)∧(r=true↔qca G t)∧Below w.heap.size w w':=by
 obtain ⟨mm,rfl⟩:=qdl hM.m;obtain ⟨B,cb,rfl,_⟩:=HasR.shape h rfl;have eg:∀ args w,(callFunc 95 args).run Tryz.prog w=.ok (.enter 95 args) w:=Go.Proofs.enters_of Tryz.func95 k_ rfl;have HW:Hid (∀ W,Below w.heap.size w W→Calls Tryz.prog 93 #[aggT t (.slice B t.args.length cb)] W fun e w'=>∃ r,e=.returned (.bool r)∧(r=true↔LimT t)∧Below W.heap.size W w'):=z_ (fun W hW=>qk9 t _ h hB hsz hW)
 have HE:Hid (∀ W,Below w.heap.size w W→Calls Tryz.prog 94 #[aggT t (.slice B t.args.length cb),.func (.func 95) #[.agg #[.map mm,.slice A n c]] #[]] W fun e w'=>∃ r,e=.returned (.bool r)∧(r=true↔allN (qc4 G) t)∧Below w.heap.size w w'):=z_ (fun W hW=>by
  refine (qni eg (W0:=w) (lo:=lo) (N:=N) t _ h hB hsz hW (F0:=[]) (J:=NodJ G t) (Ans:=fun r=>r=true↔allN (qc4 G) t) (fun k hk=>by simp at hk) (fun q _=>q) (fun W1 c' am q1 q2 q3=>qsz G hG _ A n c t w W1 hM hn (hW.trans (q1.mono hW.size)) _ (fun k hk=>?_)) ⟨fun p hp=>?_,?_⟩ ?_).mono ?_
  ·have:=hW.size
   simp at hk;omega
  ·simp at hp;subst hp;exact hsz
  ·simp
  ·rintro w1 ⟨_,q⟩
   exact ⟨fun _=>q.2 (fun p hp=>by simp at hp),fun _=>rfl⟩
  ·rintro e w' ⟨r,rfl,hr,ak⟩
   exact ⟨r,rfl,hr,hW.trans (ak.below hW.size (fun k hk=>by simp at hk))⟩)
 unfold aggT at HW HE ⊢;obtain ⟨q,hq⟩:=e_ (t.args.length);rw [← hq] at HW HE ⊢;obtain ⟨to,ad⟩:=e_ (t.op);obtain ⟨tn,ae⟩:=e_ (t.name);obtain ⟨ts,af⟩:=e_ (t.sort);rw [← ad,← ae,← af] at HW HE ⊢;clear hM hn h hB hsz hq ad ae af eg hG;have ag:Below w.heap.size w ((w.alloc (.cells #[.map mm,.slice A n c] 92)).alloc (.cells #[.int .i64 to,.string (bstr tn),.int .i64 ts,.slice B q cb] 38)):=by
  exact v_
 have ab:=z_ ag;clear ag;go_enter Tryz.func46,Tryz.ntmps46
 go_wp2_with fail
 refine (HW.out _ ab.out).mono ?_;rintro e w1 ⟨r,rfl,hr,ac⟩;have HR:=z_ hr;have aa:=ab.out.trans (ac.mono ab.out.size);have HX:w1.heap[w.heap.size]? =some (.cells #[.map mm,.slice A n c] 92 (0,0)):=(ac.block _ Ab_).trans (qbd _ _ _);have HY:w1.heap[w.heap.size+1]? =some (.cells #[.int .i64 to,.string (bstr tn),.int .i64 ts,.slice B q cb] 38 (0,0)):=(ac.block _ Ab_).trans (qa5 _ _ _ (by simp));have x0:=h_ _ _ 0 _ _ _ HX;have x1:=h_ _ _ 1 _ _ _ HX;have y0:=h_ _ _ 0 _ _ _ HY;have y1:=h_ _ _ 1 _ _ _ HY;have y2:=h_ _ _ 2 _ _ _ HY;have y3:=h_ _ _ 3 _ _ _ HY;have ah:=z_ aa;clear hr ac aa HX HY HW ab;cases r with
 | false=>
  go_wp2;go_ret;exact ⟨false,rfl,⟨(fun e=>by cases e),(fun e=>absurd (HR.out.2 e.1) (by simp))⟩,ah.out⟩
 | true=>
  go_wp2_with fail
  refine (HE.out _ ah.out).mono ?_;rintro e w2 ⟨r,rfl,hr,ai⟩;have aj:=z_ hr;have al:=z_ ai;clear hr ai x0 x1 y0 y1 y2 y3;go_wp2;go_ret;exact ⟨r,rfl,⟨fun e=>⟨HR.out.1 Bb_,aj.out.1 e⟩,fun e=>aj.out.2 e.2⟩,al.out⟩
end gramt

namespace grami
open mem dec sortp sorti sigm sigs rowl trm terml termb sigk gram gramc
theorem box3 (h:w.heap[x]? =some (.cells #[v0,v1,v2] t (0,0))):w.cell? ⟨x,0,none⟩=some v0∧w.cell? ⟨x,1,none⟩=some v1∧w.cell? ⟨x,2,none⟩=some v2:=
 ⟨h_ w x 0 _ _ _ h,h_ w x 1 _ _ _ h,h_ w x 2 _ _ _ h⟩
theorem box4{v3:Value}(h:w.heap[x]? =some (.cells #[v0,v1,v2,v3] t (0,0))):w.cell? ⟨x,0,none⟩=some v0∧w.cell? ⟨x,1,none⟩=some v1∧w.cell? ⟨x,2,none⟩=some v2∧w.cell? ⟨x,3,none⟩=some v3:=
 ⟨h_ w x 0 _ _ _ h,h_ w x 1 _ _ _ h,h_ w x 2 _ _ _ h,h_ w x 3 _ _ _ h⟩
abbrev Box34 (x y:Nat)(v0 v1 v2 u0 u1 u2 u3:Value)(w:World):Prop:=(w.cell? ⟨x,0,none⟩=some v0∧w.cell? ⟨x,1,none⟩=some v1∧w.cell? ⟨x,2,none⟩=some v2)∧(w.cell? ⟨y,0,none⟩=some u0∧w.cell? ⟨y,1,none⟩=some u1∧w.cell? ⟨y,2,none⟩=some u2∧w.cell? ⟨y,3,none⟩=some u3)
theorem Box34.below{y:Nat}{u0 u1 u2 u3:Value}{w':World}(h:Box34 x y v0 v1 v2 u0 u1 u2 u3 w)(hb:Below w.heap.size w w'):Box34 x y v0 v1 v2 u0 u1 u2 u3 w':=by
 obtain ⟨⟨h0,h1,h2⟩,k0,k1,k2,k3⟩:=h;have k:∀ {a:Addr} {v:Value},w.cell? a=some v→w'.cell? a=some v:=fun {a v} h=>(hb.cell (p:=a) (l_ h)).trans h
 exact ⟨⟨k h0,k h1,k h2⟩,k k0,k k1,k k2,k k3⟩
theorem qlu (P:List (List UInt8))(Q:List (Int×Int))(O:List OpM):GrOk (grM P Q O):=by
 unfold grM;split
 ·rename_i ab
  obtain ⟨_,ac,_,hd,hx⟩:=qa8 ab;intro j hj;have aa:j<O.length:=by simpa [opsE] using hj
  have hm:O.getD j default∈O:=by rw [List.getD_eq_getElem?_getD,List.getElem?_eq_getElem aa];exact List.getElem_mem _
  rw [qp6 O _ aa,qg3 _ O j aa];have h1:=qap (hd _ hm);have h2:=qaj h1.2.2.2;have h3:=hx _ hm;refine ⟨rfl,h2.1,?_⟩;simp only [axOk,qe4,Bool.and_eq_true,Bool.or_eq_true,decide_eq_true_eq] at h3;show 0≤(O.getD j default).unt∧I64 (O.getD j default).unt;have h4:=h3.2;unfold I64;rcases h4 with h4|h4
  ·omega
  ·have:=h4.1.1
   omega
 ·intro j hj
  exact absurd hj (Nat.not_lt_zero _)
end grami

namespace formnd
open mem dec sets sortn sortp sorti sigm sigs sigl rowl trm terml termb termt termx gram gramk gramn grami
def qby (P:List (List UInt8))(O:List OpM)(t:TermM):Prop:=if t.op=-1 then qb3 t.name=true∧(0≤t.sort∧t.sort<P.length)∧t.args.length=0
 else (0≤t.op∧t.op<O.length)∧t.name=[]∧t.sort=0∧if (O.getD t.op.toNat default).ass=true then 2≤t.args.length∧t.args.length≤7 else t.args.length=ar (O.getD t.op.toNat default)
theorem c61_{p:Prop}(h:p:=by
 go_enter Tryz.func138,Tryz.ntmps138
 go_wp2_with fail
 rw [← hW];clear hW;refine (HI.out _ true ad.out).mono ?_;rintro e w1 ⟨rfl,rfl⟩;go_wp2_with fail
 have ab:Below w.heap.size w (W.alloc (.cells #[.string (bstr nm),.slice A4 dl c4,.bool false,.bool b,.int .i64 u] 124)):=aa.out.alloc aa.out.size _;refine (aC.out _ ab).mono ?_;rintro e w1 ⟨rfl,ac⟩;have b2:w1.cell? ⟨w.heap.size+2,2,none⟩=some (.bool false):=by rw [← af];exact h_ _ _ 2 _ _ _ ((ac.block W.heap.size (by simp)).trans (qa5 _ _ _ rfl))
 have aK:=z_ (ab.trans (ac.mono ab.size));clear af ac ab x0 x1 x2 y0 y1 y2 y3 al ai am an ao;go_wp2;go_ret;exact ⟨qa0 (by rw [HG.out];first|done|rfl|(simp [ae];done)|(simp at ae ⊢;omega)|(simp at ae ⊢;exact ae)),aK.out⟩
):p:=h
theorem c62_{p:Prop}(h:p:=by
 go_enter Tryz.func138,Tryz.ntmps138
 go_wp2_with fail
 rw [← hW];clear hW;refine (HI.out _ true ad.out).mono ?_;rintro e w1 ⟨rfl,rfl⟩;go_wp2_with fail
 have ab:Below w.heap.size w (W.alloc (.cells #[.string (bstr nm),.slice A4 dl c4,.bool true,.bool b,.int .i64 u] 124)):=aa.out.alloc aa.out.size _;have aL:=z_ ab;clear ab;refine (aQ.out _ _ HZ.out).mono ?_;rintro e w1 ⟨rfl,rfl⟩;go_wp2;go_ret;exact ⟨qa0 (by rw [HG.out]),aL.out⟩
):p:=h
theorem j16_{p:Prop}(h:p:=by
 rintro e w1 ⟨rfl,rfl⟩;go_wp2;go_ret;exact ⟨qa0 HG.out.symm,aa.out⟩
):p:=h
theorem c63_{p:Prop}(h:p:=by
 clear ag aD;go_enter Tryz.func138,Tryz.ntmps138
 go_wp2_with fail
 rw [← hW];clear hW;refine (HI.out _ true ad.out).mono ?_;exact j16_
):p:=h
theorem c64_{p:Prop}(h:p:=by
 refine (HI.out _ false ad.out).mono ?_;exact j16_
):p:=h
set_option maxRecDepth 50000 in
set_option maxHeartbeats 8000000 in
theorem qve (P:List (List UInt8))(Q:List (Int×Int))(O:List OpM)(aM:qah P Q O=true)(va vb vc:Value)(t:TermM)(ve:Value)(w:World)(h:HasG w va vb vc P Q O)(ht:HasTs N lo w ve t.args)(hB:Bnd t)(aS:t.args.length≤1048576)(r:Bool)(hr:r=true↔qby P O t):
  Calls Tryz.prog 138 #[.agg #[va,vb,vc],aggT t ve] w fun e w'=>e=.returned (.bool r)∧Below w.heap.size w w':=by
 obtain ⟨hS,aT,_,hd,_⟩:=qa8 aM;have hP:=(qb2 hS).2.1;obtain ⟨B,cb,rfl,_⟩:=HasR.shape ht rfl;obtain ⟨A1,c1,A2,c2,A3,c3,rfl,rfl,rfl,_,_,_,h'⟩:=h.shape;unfold aggT;unfold qby at hr;obtain ⟨q,hq⟩:=e_ (t.args.length);obtain ⟨to,av⟩:=e_ (t.op);obtain ⟨tn,aw⟩:=e_ (t.name);obtain ⟨ts,ax⟩:=e_ (t.sort);obtain ⟨m1,ay⟩:=e_ (P.length);obtain ⟨m2,aN⟩:=e_ (Q.length);obtain ⟨m3,ah⟩:=e_ (O.length);obtain ⟨ac,aF,aG⟩:=hB;rw [← av] at aF;rw [← aw] at ac;rw [← ax] at aG;rw [← hq] at aS;rw [← ah] at aT;rw [← ay] at hP;rw [← hq,← av,← aw,← ax,← ay,← aN,← ah];rw [← hq,← av,← aw,← ax,← ay,← ah] at hr;have HO:Hid (HasO 0 w (.slice A3 m3 c3) O):=z_ (by rw [ah];exact h'.o);have HD:=z_ hd;have aH:=z_ ah;have HR:=z_ hr;clear h h' ht hq av aw ax ay aN ah aM hS hd;obtain ⟨W,hW⟩:=e_ ((w.alloc (.cells #[.slice A1 m1 c1,.slice A2 m2 c2,.slice A3 m3 c3] 46)).alloc (.cells #[.int .i64 to,.string (bstr tn),.int .i64 ts,.slice B q cb] 38));have aO:Below w.heap.size w W:=by
  rw [hW];exact v_
 obtain ⟨⟨x0,x1,x2⟩,y0,y1,y2,y3⟩:Box34 w.heap.size (w.heap.size+1) (.slice A1 m1 c1) (.slice A2 m2 c2) (.slice A3 m3 c3) (.int .i64 to) (.string (bstr tn)) (.int .i64 ts) (.slice B q cb) W:=by
  rw [hW];exact ⟨box3 (qbd _ _ _),box4 (qa5 _ _ _ (by simp))⟩
 have af:W.heap.size=w.heap.size+2:=by rw [hW];simp
 have aa:=z_ aO;have w1:IntKind.i64.wrap ((m1:Int)-1)=(m1:Int)-1:=IntWalk.i64_in _ o_;have w3:IntKind.i64.wrap ((m3:Int)-1)=(m3:Int)-1:=IntWalk.i64_in _ o_;clear aO;by_cases hv:to=-1
 ·have HF:Hid (r=true↔qb3 tn=true∧(0≤ts∧ts<m1)∧q=0):=z_ (by rw [if_pos hv] at hr;exact hr)
  have HN:=z_ (fun W r hr=>qfs tn ac r hr W);have HI:=z_ (fun W r hr=>qcc ts 0 ((m1:Int)-1) r hr W);subst hv;obtain ⟨nb,az⟩:∃ b,qb3 tn=b:=⟨_,rfl⟩;obtain ⟨ib,aI⟩:∃ b,inI ts 0 ((m1:Int)-1)=b:=⟨_,rfl⟩;have aP:ib=true↔0≤ts∧ts<m1:=by rw [← aI,inI,decide_eq_true_iff];omega
  have ak:=z_ az;have ad:=z_ aI;have HQ:=z_ aP;clear aI aP ac aF aG;cases nb with
  | false=>
   have HG:Hid (r=false):=z_ (by cases hq:r with
    | false=>rfl
    | true=>exact absurd (HF.out.1 hq).1 (by rw [ak.out];simp))
   clear hr az af HF;go_enter Tryz.func138,Tryz.ntmps138
   go_wp2_with fail
   rw [← hW];clear hW;refine (HN.out _ false ak.out).mono ?_;exact j16_
  | true=>
   cases ib with
   | false=>
    have HG:Hid (r=false):=z_ (by cases hq:r with
     | false=>rfl
     | true=>exact absurd (HQ.out.2 (HF.out.1 hq).2.1) (by simp))
    clear hr az af HF;go_enter Tryz.func138,Tryz.ntmps138
    go_wp2_with fail
    rw [← hW];clear hW;refine (HN.out _ true ak.out).mono ?_;rintro e w1 ⟨rfl,rfl⟩;go_wp2_with fail
    exact c64_
   | true=>
    have HG:Hid (r=decide (q=0)):=z_ (by rw [Bool.eq_iff_iff,HF.out,decide_eq_true_iff];exact ⟨fun e=>e.2.2,fun e=>⟨ak.out,HQ.out.1 rfl,e⟩⟩);have ae:((q:Int)==0)=decide (q=0):=by rw [Bool.eq_iff_iff];simp
    clear hr az af HF;go_enter Tryz.func138,Tryz.ntmps138
    go_wp2_with fail
    rw [← hW];clear hW;refine (HN.out _ true ak.out).mono ?_;rintro e w1 ⟨rfl,rfl⟩;go_wp2_with fail
    refine (HI.out _ true ad.out).mono ?_;rintro e w1 ⟨rfl,rfl⟩;go_wp2;go_ret;exact ⟨qa0 (by rw [HG.out]),aa.out⟩
 ·have HF:Hid (r=true↔(0≤to∧to<m3)∧tn=[]∧ts=0∧if (O.getD to.toNat default).ass=true then 2≤q∧q≤7 else q=ar (O.getD to.toNat default)):=z_ (by rw [if_neg hv] at hr;exact hr)
  have HI:=z_ (fun W r hr=>qcc to 0 ((m3:Int)-1) r hr W);have v1:(to==-1)=false:=by simp [hv]
  have v2:decide (to=-1)=false:=decide_eq_false hv;by_cases aA:0≤to∧to<m3
  ·obtain ⟨k,rfl⟩:∃ k:Nat,to=(k:Int):=⟨to.toNat,by omega⟩
   have aU:k<m3:=o_;have ad:Hid (inI (k:Int) 0 ((m3:Int)-1)=true):=z_ (by rw [inI,decide_eq_true_iff];omega);obtain ⟨g,o,A4,c4,hA,_,hg,al,ai,am,an,ao,hh,_,_⟩:=qcm HO.out aU;have ap:O.getD k default∈O:=by
    rw [List.getD_eq_getElem?_getD,List.getElem?_eq_getElem (by have:=aH.out;omega)];exact List.getElem_mem _
   have aB:=(qap (HD.out _ ap)).1
   have ag:Hid (r=true↔tn=[]∧ts=0∧if (O.getD k default).ass=true then 2≤q∧q≤7 else q=ar (O.getD k default)):=z_ (by
    have h1:=HF.out;rw [Int.toNat_natCast] at h1;rw [h1]
    exact ⟨fun e=>e.2,fun e=>⟨aA,e⟩⟩)
   obtain ⟨⟨nm,D,a,b,u⟩,hx⟩:∃ x,x=O.getD k default:=⟨_,rfl⟩;rw [← hx] at al ai am an ao hh aB ag;simp only [] at al ai am an ao hh aB;have aj:=aa.out;rw [← aj.cell (p:=⟨g,o+k*5,none⟩) hg] at al;rw [← aj.cell (p:=⟨g,o+k*5+1,none⟩) hg] at ai;rw [← aj.cell (p:=⟨g,o+k*5+2,none⟩) hg] at am;rw [← aj.cell (p:=⟨g,o+k*5+3,none⟩) hg] at an;rw [← aj.cell (p:=⟨g,o+k*5+4,none⟩) hg] at ao;have aC:=z_ (fun V (hV:Below w.heap.size w V)=>qcb nm D aB _ a b u V (hh.below qa6 n_ hV));obtain ⟨dl,aq⟩:=e_ (D.length);obtain ⟨ln,aJ⟩:=e_ ((hd0 D).1.length);rw [← aq] at ai aC;rw [← aJ] at aC;have aD:Hid (ar ⟨nm,D,a,b,u⟩=ln):=z_ aJ.symm;have i1:(0:Int)≤(k:Int):=o_;have i2:(k:Int)<(m3:Int):=o_;subst hA;clear hr HF HR aA HI aF hx ap aB aq aJ hh aj ac HO HD aH;have HI:=z_ (fun W r hr=>qcc (k:Int) 0 ((m3:Int)-1) r hr W);have aQ:=z_ (fun W r hr=>qcc (q:Int) 2 7 r hr W);by_cases hn:tn=[]
   ·have e1:=(qev tn).2 hn
    have e2:(bstr tn).toList.isEmpty=true:=by rw [e1];rfl
    by_cases au:ts=0
    ·have aE:Hid (r=true↔if a=true then 2≤q∧q≤7 else q=ln):=z_ (by rw [ag.out,aD.out];exact ⟨fun e=>e.2.2,fun e=>⟨hn,au,e⟩⟩)
     subst au;subst hn;clear ag aD aG v1 v2;cases a with
     | false=>
      have HG:Hid (r=decide (q=ln)):=z_ (by rw [Bool.eq_iff_iff,aE.out,if_neg (by simp),decide_eq_true_iff]);have ae:((q:Int)==(ln:Int))=decide (q=ln):=by rw [Bool.eq_iff_iff];simp;omega
      have aV:(q==ln)=decide (q=ln):=by rw [Bool.eq_iff_iff];simp
      clear aE;obtain ⟨z,hz⟩:=e_ (decide (q=ln));have aR:=hz.symm;rw [← hz] at HG ae aV;clear hz;cases z with
      | false=>
       have aW:¬ q=ln:=of_decide_eq_false aR;have aX:¬ (q:Int)=(ln:Int):=o_;exact c61_
      | true=>
       obtain rfl:q=ln:=of_decide_eq_true aR;exact c61_
     | true=>
      obtain ⟨z,hz⟩:∃ z,inI (q:Int) 2 7=z:=⟨_,rfl⟩;have HZ:=z_ hz;have HG:Hid (r=z):=z_ (by rw [Bool.eq_iff_iff,aE.out,if_pos rfl,← hz,inI,decide_eq_true_iff];omega);clear aE hz;cases z with
      | false=>
       exact c62_
      | true=>
       exact c62_
    ·have HG:Hid (r=false):=z_ (by cases hq:r with
      | false=>rfl
      | true=>exact absurd (ag.out.1 hq).2.1 au)
     have s1:(ts==0)=false:=by simp [au]
     have s2:decide (ts=0)=false:=decide_eq_false au;subst hn;exact c63_
   ·have HG:Hid (r=false):=z_ (by cases hq:r with
     | false=>rfl
     | true=>exact absurd (ag.out.1 hq).1 hn)
    have e1:¬ (bstr tn).toList=[]:=fun e=>hn ((qev _).1 e)
    have e2:(bstr tn).toList.isEmpty=false:=by
     cases hq:(bstr tn).toList with
     | nil=>exact absurd hq e1
     | cons _ _=>rfl
    exact c63_
  ·have ad:Hid (inI to 0 ((m3:Int)-1)=false):=z_ (by rw [inI,decide_eq_false_iff_not];omega)
   have HG:Hid (r=false):=z_ (by cases hq:r with
    | false=>rfl
    | true=>exact absurd (HF.out.1 hq).1 aA)
   clear hr HF aA HO HD aH HR;go_enter Tryz.func138,Tryz.ntmps138
   go_wp2_with fail
   rw [← hW];clear hW;exact c64_
end formnd

namespace formk
set_option maxRecDepth 50000
set_option maxHeartbeats 8000000
open mem dec setm sortm sortp sorti sortu sortg sigm sigs rowl trm terml termb termt termx sigk gram gramn grami
theorem qj7{Q:List (Int×Int)}(h:qah P Q O=true):1≤P.length∧P.length≤8∧PIn P.length Q∧Q.length≤32∧∀ p∈Q,p.1≠p.2:=by
 have hS:=(qa8 h).1;obtain ⟨p1,p2,p3,p4,p5⟩:=qb2 hS;exact ⟨p1,p2,p3,by omega,qB3 hS⟩
def srtT (O:List OpM)(t:TermM):Int:=if t.op=-1 then t.sort else rs (O.getD t.op.toNat default)
def qdn (P:List (List UInt8))(O:List OpM)(t:TermM):Prop:=if t.op=-1 then 0≤t.sort∧t.sort<P.length else 0≤t.op∧t.op<O.length
theorem c65_{p:Prop}(h:p:=by
 go_wp2;go_ret;exact ⟨qan (by first|(rw [HZ.out,List.getD_eq_getElem?_getD];done)|(rw [HZ.out,List.getD_eq_getElem?_getD,List.getElem?_eq_getElem o_];rfl)),ao.out⟩
):p:=h
theorem qnn (P:List (List UInt8))(Q:List (Int×Int))(O:List OpM)(aj:qah P Q O=true)(va vb vc:Value)(t:TermM)(ve:Value)(w:World)(h:HasG w va vb vc P Q O)(ht:HasTs N lo w ve t.args)(hR:qdn P O t):
  Calls Tryz.prog 143 #[.agg #[va,vb,vc],aggT t ve] w fun e w'=>e=.returned (.int .i64 ((κK P.length Q (srtT O t):Nat):Int))∧Below w.heap.size w w':=by
 obtain ⟨p1,p2,p3,p4,p5⟩:=qj7 aj;obtain ⟨_,aE,_,hd,_⟩:=qa8 aj;have af:(kin P.length (prs Q)).length=P.length:=qir _ _;obtain ⟨B,cb,rfl,_⟩:=HasR.shape ht rfl;have ag:=z_ (fun W (hW:Below w.heap.size w W)=>qd1 P Q p1 p2 p4 p3 p5 va vb W (h.below n_ hW).s);obtain ⟨A1,c1,A2,c2,A3,c3,rfl,rfl,rfl,_,_,_,h'⟩:=h.shape;unfold aggT;unfold qdn at hR;unfold srtT;obtain ⟨q,hq⟩:=e_ (t.args.length);obtain ⟨to,ak⟩:=e_ (t.op);obtain ⟨tn,au⟩:=e_ (t.name);obtain ⟨ts,al⟩:=e_ (t.sort);obtain ⟨n,hn⟩:=e_ (P.length);obtain ⟨m2,am⟩:=e_ (Q.length);obtain ⟨m3,ah⟩:=e_ (O.length);rw [← hn] at af;rw [← ak,← al,← hn,← ah] at hR;rw [← hq,← ak,← au,← al,← hn,← am,← ah];rw [← hn,← am] at ag;obtain ⟨K,hK⟩:=e_ (kin n (prs Q));have hκ:∀ x,κK n Q x=K.getD x.toNat 0:=fun x=>by rw [κK,hK]
 rw [← hK] at ag af;have HO:Hid (HasO 0 w (.slice A3 m3 c3) O):=z_ (by rw [ah];exact h'.o)
 have HD:Hid (∀ k,k<m3→okD n (hd0 (O.getD k default).decls)=true∧1≤(O.getD k default).decls.length):=z_ (fun k hk=>by
  have h1:=qap (hd (O.getD k default) (by rw [List.getD_eq_getElem?_getD,List.getElem?_eq_getElem o_];exact List.getElem_mem _));rw [hn]
  exact ⟨h1.2.2.2,h1.1⟩)
 have av:=z_ hκ;clear h h' ht hq ak au al am ah aj hd hK hκ p3 p4 p5 hn p1 p2;obtain ⟨W,hW⟩:=e_ ((w.alloc (.cells #[.slice A1 n c1,.slice A2 m2 c2,.slice A3 m3 c3] 46)).alloc (.cells #[.int .i64 to,.string (bstr tn),.int .i64 ts,.slice B q cb] 38));have aw:Below w.heap.size w W:=by
  rw [hW];exact v_
 have hX:Box34 w.heap.size (w.heap.size+1) (.slice A1 n c1) (.slice A2 m2 c2) (.slice A3 m3 c3) (.int .i64 to) (.string (bstr tn)) (.int .i64 ts) (.slice B q cb) W:=by
  rw [hW];exact ⟨box3 (qbd _ _ _),box4 (qa5 _ _ _ (by simp))⟩
 have HX:=z_ hX;obtain ⟨⟨x0,x1,x2⟩,y0,y1,y2,y3⟩:=hX;have ac:=z_ aw;clear aw;by_cases hv:to=-1
 ·rw [if_pos hv] at hR ⊢
  obtain ⟨z,rfl⟩:∃ z:Nat,ts=(z:Int):=⟨ts.toNat,by omega⟩;have HZ:Hid (κK n Q (z:Int)=K.getD z 0):=z_ (by rw [av.out,Int.toNat_natCast]);subst hv;go_enter Tryz.func143,Tryz.ntmps143
  go_wp2_with fail
  rw [← hW];clear hW;refine (ag.out W ac.out).mono ?_;rintro e w2 ⟨kv,rfl,ad,ab⟩;obtain ⟨KA,kc,rfl,ae⟩:=(Has.of_own ad).shape (n:=n) (by rw [qau,qag];exact af);have an:=Box34.below HX.out ab;have ao:=z_ (ac.out.trans (ab.mono ac.out.size));clear x0 x1 x2 y0 y1 y2 y3;obtain ⟨⟨x0,x1,x2⟩,y0,y1,y2,y3⟩:=an;obtain ⟨gk,ok,rfl,aA,ap⟩:=ae.cellAt (j:=z) o_;rw [qak _ z Ao_,qav] at ap;have i1:(0:Int)≤(z:Int):=o_;have i2:(z:Int)<(n:Int):=o_;clear ad ab ae;exact c65_
 ·rw [if_neg hv] at hR ⊢
  obtain ⟨k,rfl⟩:∃ k:Nat,to=(k:Int):=⟨to.toNat,by omega⟩;have ax:k<m3:=o_;obtain ⟨g,o,A4,c4,hA,_,hg,_,ai,_,_,_,hh,_,_⟩:=qcm HO.out ax;obtain ⟨aq,aB⟩:=HD.out k ax;obtain ⟨gd,od,A5,c5,aC,_,aD,_,d1,_,_,_⟩:=qbb hh (j:=0) o_;rw [Int.toNat_natCast]
  obtain ⟨z,hz⟩:∃ z:Nat,rs (O.getD k default)=(z:Int):=⟨(rs (O.getD k default)).toNat,by
   have:=(qaj aq).2.1;simp only [inN,decide_eq_true_eq] at this;unfold rs
   omega⟩
  have aF:z<n:=by
   have:=(qaj aq).2.1;simp only [inN,decide_eq_true_eq] at this;unfold rs at hz;omega
  have ay:((O.getD k default).decls.getD 0 default).2=(z:Int):=hz;rw [hz,show od+0*2+1=od+1 by omega] at *;rw [ay] at d1;obtain ⟨dl,az⟩:=e_ ((O.getD k default).decls.length);rw [← az] at ai aB;have HZ:Hid (κK n Q (z:Int)=K.getD z 0):=z_ (by rw [av.out,Int.toNat_natCast]);have i3:(0:Int)≤(k:Int):=o_;have i4:(k:Int)<(m3:Int):=o_;have i5:(0:Int)<(dl:Int):=o_;have v1:((k:Int)==-1)=false:=by first|(simp;done)|(simp;omega)
  have HC:Hid (w.cell? ⟨g,o+k*5+1,none⟩=some (.slice A4 dl c4)∧w.cell? ⟨gd,od+1,none⟩=some (.int .i64 z)):=z_ ⟨ai,d1⟩;subst hA;subst aC;clear ai d1 hh aq hz ay az HD HO hR;go_enter Tryz.func143,Tryz.ntmps143
  go_wp2_with fail
  rw [← hW];clear hW;refine (ag.out W ac.out).mono ?_;rintro e w2 ⟨kv,rfl,ad,ab⟩;obtain ⟨KA,kc,rfl,ae⟩:=(Has.of_own ad).shape (n:=n) (by rw [qau,qag];exact af);have an:=Box34.below HX.out ab;have aa:=ac.out.trans (ab.mono ac.out.size);have ai:=(aa.cell (p:=⟨g,o+k*5+1,none⟩) hg).trans HC.out.1;have d1:=(aa.cell (p:=⟨gd,od+1,none⟩) aD).trans HC.out.2;have ao:=z_ aa;clear x0 x1 x2 y0 y1 y2 y3;obtain ⟨⟨x0,x1,x2⟩,y0,y1,y2,y3⟩:=an;obtain ⟨gk,ok,rfl,aA,ap⟩:=ae.cellAt (j:=z) o_;rw [qak _ z Ao_,qav] at ap;have i1:(0:Int)≤(z:Int):=o_;have i2:(z:Int)<(n:Int):=o_;clear ad ab ae aa;exact c65_
theorem qno (P:List (List UInt8))(Q:List (Int×Int))(O:List OpM)(va vb vc:Value)(k:Nat)(hk:k<O.length)(_h14:O.length≤14)(hu:0≤(O.getD k default).unt∧(O.getD k default).unt≤14)(w:World)(h:HasG w va vb vc P Q O):
  Calls Tryz.prog 142 #[.agg #[va,vb,vc],.int .i64 (k:Int)] w fun e w'=>e=.returned (.tuple #[.agg #[.int .i64 (if (O.getD k default).unt=0 then 0 else (O.getD k default).unt-1),.string (bstr []),.int .i64 0,.slice none 0 0],.bool (!decide ((O.getD k default).unt=0))])∧Below w.heap.size w w':=by
 obtain ⟨A1,c1,A2,c2,A3,c3,rfl,rfl,rfl,_,_,_,h'⟩:=h.shape;obtain ⟨m1,ab⟩:=e_ (P.length);obtain ⟨m2,ac⟩:=e_ (Q.length);obtain ⟨m3,aa⟩:=e_ (O.length);have HO:HasO 0 w (.slice A3 m3 c3) O:=by rw [aa];exact h'.o
 rw [← ab,← ac,← aa];rw [← aa] at hk;obtain ⟨g,o,A4,c4,hA,_,hg,_,_,_,_,ad,_,_,_⟩:=qcm HO hk;obtain ⟨u,ae⟩:=e_ ((O.getD k default).unt);rw [← ae] at ad hu ⊢;subst hA;have i1:(0:Int)≤(k:Int):=o_;have i2:(k:Int)<(m3:Int):=o_;have hw:IntKind.i64.wrap (u-1)=u-1:=IntWalk.i64_in _ o_;have af:Below w.heap.size w (w.alloc (.cells #[.slice A1 m1 c1,.slice A2 m2 c2,.slice (some ⟨g,o,none⟩) m3 c3] 46)):=b_.alloc n_ _;have hz:=(af.cell (p:=⟨g,o+k*5+4,none⟩) hg).trans ad;clear h h' HO ab ac aa ae;by_cases h0:u=0
 ·subst h0
  go_enter Tryz.func142,Tryz.ntmps142
  go_wp2;refine bodyPost_ret (v:=.tuple #[.agg #[.int .i64 0,.string (bstr []),.int .i64 0,.slice none 0 0],.bool false]) (by simp [results,Tryz.results142,go_sem,bstr]) rfl ?_;exact ⟨rfl,by exact v_⟩
 ·have d1:(u==0)=false:=by simp [h0]
  have d2:decide (u=0)=false:=decide_eq_false h0;go_enter Tryz.func142,Tryz.ntmps142
  go_wp2;refine bodyPost_ret (v:=.tuple #[.agg #[.int .i64 (u-1),.string (bstr []),.int .i64 0,.slice none 0 0],.bool true]) (by simp [results,Tryz.results142,go_sem,bstr]) rfl ?_;exact ⟨rfl,by exact v_⟩
end formk

namespace formr
set_option maxRecDepth 100000
open mem dec setm sortm sortp sorti sortu sigm sigs rowl trm terml termb termt termx termro termv termvo sigk gram gramn grami formk
def atS (a:Bool)(i:Nat):Nat:=if a then 0 else i
def qge (u:Int):TermM:=.mk (if u=0 then 0 else u-1) [] 0 []
def qpc (κ:Int→Nat)(O:List OpM)(k:Nat)(L:List TermM)(i:Nat):Prop:=
 κ (srtT O (L.getD i default))=κ ((hd0 (O.getD k default).decls).1.getD (atS (O.getD k default).ass i) 0)∧¬ ((O.getD k default).ass=true∧(L.getD i default).op=(k:Int))∧
 ¬ ((O.getD k default).unt≠0∧cmp (L.getD i default) (qge (O.getD k default).unt)=0)∧((O.getD k default).com=true→0<i→cmp (L.getD (i-1) default) (L.getD i default)≤0)
def qgf (κ:Int→Nat)(O:List OpM)(k:Nat)(L:List TermM):Prop:=∀ i,i<L.length→qpc κ O k L i
theorem i4_{p:Prop}(h:p:=by
 have ad:=z_ (ah.out.trans (t6.h.mono aI));clear b0 b1 b2 b3 b4 b5 b6 b7 b8 b9 ap aq au an ak al av aw ax nb ac aa af;go_wp2;go_roundw
 case measure=>simp [intOf];omega
 case rel=>exact ⟨p+1,by go_num,by omega,HA,ad⟩
):p:=h
theorem i5_{p:Prop}(h:p:=by
 clear b0 b1 b2 b3 b4 b5 b6 b7 b8 b9 ap aq au an ak al av aw ax nb ac aa af;go_wp2;go_ret;exact ⟨qa0 HF.out.symm,ad.out⟩
):p:=h
theorem j17_{p:Prop}(h:p:=by
 cases b with
 | false=>
  go_wp2_with fail
  rw [← hV];clear hV x0 x1 x2 y0 y3 a1 a2 a3 u0 u1 u2 u3 f0 f1 f2 f3 ai;refine qa1 (C:=Below V.heap.size V) k_ k_ b_.drew ?_;repeat (first|go_big_quiet_step ((go_at_call 143;exact (ac.out _).mono (fun _ _ h=>⟨h.1,BoxC.step _ h.2⟩)))|go_big_quiet_step ((go_at_call 58;exact (aa.out _).mono (fun _ _ h=>⟨h.1,BoxC.step _ h.2⟩))))
  refine wpQuiet_nil ?_;rintro w5 ⟨t5,rfl⟩;go_wp2_with fail
  refine qa1 (C:=Below V.heap.size V) k_ k_ (BoxC.h t5).drew ?_;repeat (first|go_big_quiet_step ((go_at_call 58;exact (aa.out _).mono (fun _ _ h=>⟨h.1,BoxC.step _ h.2⟩))))
  refine wpQuiet_nil ?_;rintro w6 ⟨t6,rfl⟩;have HA:=z_ (ag.out (by exact ⟨ae,aH,aE,fun e=>by cases e⟩));exact i4_
 | true=>
  by_cases aj:0<p
  ·obtain ⟨p',hp'⟩:∃ p',p'+1=p:=⟨p-1,by omega⟩
   have aN:p-1=p':=o_;have a8:=z_ hp';have cm:IntKind.i64.wrap ((p:Int)-1)=(p':Int):=by rw [← hp',IntWalk.i64_in _ o_];omega
   obtain ⟨B3,c9,l0,l1,l2,l3,ao⟩:=aF.out aj;have ay:=bO.out aj;rw [aN] at l0 l1 l2 l3 ao ay ag am;obtain ⟨y,hy⟩:=e_ (L.getD p' default);rw [← hy] at l0 l1 l2 l3 ao ay ag am;have m0:=kV l0;have m1:=kV l1;have m2:=kV l2;have aO:=kV l3;obtain ⟨z,hz⟩:=e_ (cmp y x);have ab:=z_ (af.out y B3 c9 ao ay);rw [← hz] at ab ag am;have j1:decide ((0:Int)<(p:Int))=true:=d_;have j2:decide (0<p)=true:=decide_eq_true aj;have j3:(0:Int)≤(p':Int):=o_;have j4:(p':Int)<(q:Int):=o_;clear l0 l1 l2 l3 ao hy hz hp' aN ay kV;by_cases aP:0<z
   ·have j5:decide (0<z)=true:=decide_eq_true aP
    go_wp2_with fail
    rw [← hV];clear hV x0 x1 x2 y0 y3 a1 a2 a3 u0 u1 u2 u3 f0 f1 f2 f3 ai;refine qa1 (C:=Below V.heap.size V) k_ k_ b_.drew ?_;repeat (first|go_big_quiet_step ((go_at_call 143;exact (ac.out _).mono (fun _ _ h=>⟨h.1,BoxC.step _ h.2⟩)))|go_big_quiet_step ((go_at_call 58;exact (aa.out _).mono (fun _ _ h=>⟨h.1,BoxC.step _ h.2⟩))))
    refine wpQuiet_nil ?_;rintro w5 ⟨t5,rfl⟩;go_wp2_with fail
    refine qa1 (C:=Below V.heap.size V) k_ k_ (BoxC.h t5).drew ?_;repeat (first|go_big_quiet_step ((go_at_call 82;exact (ab.out _).mono (fun _ _ h=>⟨h.1,BoxC.step _ h.2⟩))))
    refine wpQuiet_nil ?_;rintro w6 ⟨t6,rfl⟩;clear m0 m1 m2 aO ab
    have HF:Hid (r=false):=z_ (by cases aB:r with
     | false=>rfl
     | true=>exact absurd (am.out aB) (by intro hh;have:=hh.2.2.2 (by trivial) (by have:=a8.out;omega);omega))
    have ad:=z_ (aQ.out.trans (t6.h.mono aU));exact i5_
   ·have j5:decide (0<z)=false:=decide_eq_false aP
    go_wp2_with fail
    rw [← hV];clear hV x0 x1 x2 y0 y3 a1 a2 a3 u0 u1 u2 u3 f0 f1 f2 f3 ai;refine qa1 (C:=Below V.heap.size V) k_ k_ b_.drew ?_;repeat (first|go_big_quiet_step ((go_at_call 143;exact (ac.out _).mono (fun _ _ h=>⟨h.1,BoxC.step _ h.2⟩)))|go_big_quiet_step ((go_at_call 58;exact (aa.out _).mono (fun _ _ h=>⟨h.1,BoxC.step _ h.2⟩))))
    refine wpQuiet_nil ?_;rintro w5 ⟨t5,rfl⟩;go_wp2_with fail
    refine qa1 (C:=Below V.heap.size V) k_ k_ (BoxC.h t5).drew ?_;repeat (first|go_big_quiet_step ((go_at_call 82;exact (ab.out _).mono (fun _ _ h=>⟨h.1,BoxC.step _ h.2⟩))))
    refine wpQuiet_nil ?_;rintro w6 ⟨t6,rfl⟩;clear m0 m1 m2 aO ab;have HA:=z_ (ag.out (by exact ⟨ae,aH,aE,fun _ _=>by omega⟩));exact i4_
  ·have j1:decide ((0:Int)<(p:Int))=false:=f_
   have j2:decide (0<p)=false:=decide_eq_false aj;go_wp2_with fail
   rw [← hV];clear hV x0 x1 x2 y0 y3 a1 a2 a3 u0 u1 u2 u3 f0 f1 f2 f3 ai;refine qa1 (C:=Below V.heap.size V) k_ k_ b_.drew ?_;repeat (first|go_big_quiet_step ((go_at_call 143;exact (ac.out _).mono (fun _ _ h=>⟨h.1,BoxC.step _ h.2⟩)))|go_big_quiet_step ((go_at_call 58;exact (aa.out _).mono (fun _ _ h=>⟨h.1,BoxC.step _ h.2⟩))))
   refine wpQuiet_nil ?_;rintro w5 ⟨t5,rfl⟩;go_wp2_with fail
   refine qa1 (C:=Below V.heap.size V) k_ k_ (BoxC.h t5).drew ?_;repeat (first|go_big_quiet_step ((go_at_call 58;exact (aa.out _).mono (fun _ _ h=>⟨h.1,BoxC.step _ h.2⟩))))
   refine wpQuiet_nil ?_;rintro w6 ⟨t6,rfl⟩;have HA:=z_ (ag.out (by exact ⟨ae,aH,aE,fun _ h=>absurd h aj⟩));exact i4_
):p:=h
theorem j18_{p:Prop}(h:p:=by
 have ad:=z_ (aQ.out.trans (t5.h.mono aU));exact i5_
):p:=h
theorem c66_{p:Prop}(h:p:=by
 cases ha with
 | false=>
  have aE:¬ (false=true∧sm=true):=fun e=>by cases e.1
  exact j17_
 | true=>
  cases sm with
  | true=>
   go_wp2_with fail
   rw [← hV];clear hV x0 x1 x2 y0 y3 a1 a2 a3 u0 u1 u2 u3 f0 f1 f2 f3 ai;refine qa1 (C:=Below V.heap.size V) k_ k_ b_.drew ?_;repeat (first|go_big_quiet_step ((go_at_call 143;exact (ac.out _).mono (fun _ _ h=>⟨h.1,BoxC.step _ h.2⟩)))|go_big_quiet_step ((go_at_call 58;exact (aa.out _).mono (fun _ _ h=>⟨h.1,BoxC.step _ h.2⟩))))
   refine wpQuiet_nil ?_;rintro w5 ⟨t5,rfl⟩
   have HF:Hid (r=false):=z_ (by cases aB:r with
    | false=>rfl
    | true=>exact absurd (am.out aB) (by intro hh;exact hh.2.2.1 ⟨by trivial,by trivial⟩))
   exact j18_
  | false=>
   have aE:¬ (true=true∧false=true):=fun e=>by cases e.2
   exact j17_
):p:=h
theorem c67_{p:Prop}(h:p:=by
 have q1:((kx:Int)==(ka:Int))=false:=by simp;omega
 have q2:(kx==ka)=false:=by simp [ae]
 have q3:decide (kx=ka)=false:=decide_eq_false ae;have q4:¬ (kx:Int)=(ka:Int):=o_;have q5:(kx != ka)=true:=by simp [ae]
 have q6:((kx:Int) != (ka:Int))=true:=by simp;omega
 have q7:(!decide ((kx:Int)=(ka:Int)))=true:=by simp;omega
 have q8:decide ((kx:Int)=(ka:Int))=false:=decide_eq_false q4;go_wp2_with fail
 rw [← hV];clear hV x0 x1 x2 y0 y3 a1 a2 a3 u0 u1 u2 u3 f0 f1 f2 f3 ai;refine qa1 (C:=Below V.heap.size V) k_ k_ b_.drew ?_;repeat (first|go_big_quiet_step ((go_at_call 143;exact (ac.out _).mono (fun _ _ h=>⟨h.1,BoxC.step _ h.2⟩)))|go_big_quiet_step ((go_at_call 58;exact (aa.out _).mono (fun _ _ h=>⟨h.1,BoxC.step _ h.2⟩))))
 refine wpQuiet_nil ?_;rintro w5 ⟨t5,rfl⟩
 have HF:Hid (r=false):=z_ (by cases aB:r with
  | false=>rfl
  | true=>exact absurd (am.out aB) (by intro hh;exact ae hh.1))
 exact j18_
):p:=h
set_option maxRecDepth 100000 in
set_option maxHeartbeats 16000000 in
theorem qt0 (P:List (List UInt8))(Q:List (Int×Int))(O:List OpM)(bA:qah P Q O=true)(va vb vc:Value)(t:TermM)(ve:Value)(w:World)(h:HasG w va vb vc P Q O)(ht:HasTs N lo w ve t.args)(hsz:qa2 t.args≤1048576)(k:Nat)(cn:t.op=(k:Int))(hk:k<O.length)(aR:(O.getD k default).ass=false→t.args.length=ar (O.getD k default))(hX:∀ x∈t.args,qdn P O x)(r:Bool)(hr:r=true↔qgf (κK P.length Q) O k t.args):
  Calls Tryz.prog 139 #[.agg #[va,vb,vc],aggT t ve] w fun e w'=>e=.returned (.bool r)∧Below w.heap.size w w':=by
 obtain ⟨p1,p2,p3,p4,p5⟩:=qj7 bA;obtain ⟨_,co,_,hd,cp⟩:=qa8 bA;have bP:(kin P.length (prs Q)).length=P.length:=qir _ _;obtain ⟨B,cb,rfl,_⟩:=HasR.shape ht rfl;have aJ:O.getD k default∈O:=by rw [List.getD_eq_getElem?_getD,List.getElem?_eq_getElem hk];exact List.getElem_mem _
 have bb:=qap (hd _ aJ);have aK:=qaj bb.2.2.2;have aS:=cp _ aJ;simp only [axOk,qdf,qe4,Bool.and_eq_true,Bool.or_eq_true,decide_eq_true_eq,Bool.not_eq_true'] at aS;have aX:0≤(O.getD k default).unt∧(O.getD k default).unt≤14:=by
  rcases aS.2 with h4|h4
  ·omega
  ·have:=h4.1.1;omega
 have aT:(O.getD k default).ass=true→ar (O.getD k default)=2:=fun ha=>by
  rcases aS.1 with h4|h4
  ·rw [ha] at h4;exact absurd h4.1.1 (by simp)
  ·exact h4.1.1
 have be:=z_ (fun W (hW:Below w.heap.size w W)=>qd1 P Q p1 p2 p4 p3 p5 va vb W (h.below n_ hW).s);have aY:=z_ (fun W (hW:Below w.heap.size w W)=>qno P Q O va vb vc k hk co aX W (h.below n_ hW))
 have bf:Hid (∀ W (x:TermM) (vx:Value) (n' lo':Nat),Below w.heap.size w W→HasTs n' lo' W vx x.args→qdn P O x→Calls Tryz.prog 143 #[.agg #[va,vb,vc],aggT x vx] W fun e w'=>e=.returned (.int .i64 ((κK P.length Q (srtT O x):Nat):Int))∧Below W.heap.size W w'):=z_ (fun W x vx n' lo' hW hx bg=>
  qnn P Q O bA va vb vc x vx W (h.below n_ hW) hx bg)
 obtain ⟨A1,c1,A2,c2,A3,c3,rfl,rfl,rfl,_,_,_,h'⟩:=h.shape;have hO:HasO 0 w (.slice A3 O.length c3) O:=h'.o;obtain ⟨g0,o0,A4,c4,hA,_,bh,bB,bi,bC,bD,bE,hh,_,_⟩:=qcm hO hk;obtain ⟨gd,od,A5,c5,c0,_,c6,aW,_,aG,_,_⟩:=qbb hh (j:=0) o_;rw [show od+0*2=od by omega] at aW;obtain ⟨κ,bQ⟩:=e_ (κK P.length Q);have hκ:∀ x,κ x=(kin P.length (prs Q)).getD x.toNat 0:=fun x=>by rw [bQ,κK]
 rw [← bQ] at hr bf;obtain ⟨⟨nm,Dk,a,b,u⟩,hx⟩:∃ x,x=O.getD k default:=⟨_,rfl⟩
 have HR:Hid (r=true↔∀ i,i<t.args.length→κ (srtT O (t.args.getD i default))=κ ((hd0 Dk).1.getD (atS a i) 0)∧¬ (a=true∧(t.args.getD i default).op=(k:Int))∧¬ (u≠0∧cmp (t.args.getD i default) (qge u)=0)∧(b=true→0<i→cmp (t.args.getD (i-1) default) (t.args.getD i default)≤0)):=z_ (by
  rw [hr];unfold qgf qpc;rw [← hx])
 rw [← hx] at bB bi bC bD bE hh aW aG aR bb aK aX aT aY;simp only [] at bB bi bC bD bE hh aW aG aR bb aK aX aT aY;have bj:Dk.getD 0 default=hd0 Dk:=rfl;rw [bj] at aW aG;obtain ⟨L0,bR⟩:=e_ ((hd0 Dk).1);rw [← bR] at aW aG aK HR;obtain ⟨ln,bS⟩:=e_ (L0.length)
 have bT:∀ i,i<t.args.length→atS a i<ln:=fun i hi=>by
  have cq:ar ⟨nm,Dk,a,b,u⟩=ln:=by rw [bS,bR];rfl
  cases a with
  | false=>rw [← cq,← aR rfl];exact hi
  | true=>rw [← cq,aT rfl];exact Nat.zero_lt_two
 have bk:Hid (∀ j,j<ln→∃ gl ol z,A5=some ⟨gl,ol,none⟩∧gl<w.heap.size∧w.cell? ⟨gl,ol+j,none⟩=some (.int .i64 ((z:Nat):Int))∧L0.getD j 0=(z:Int)∧z<P.length):=z_ (fun j hj=>by
  obtain ⟨gl,ol,e,bU,ct⟩:=aG.has.cellAt (j:=j) o_;rw [qak _ j o_] at ct;have c7:=aK.2.2 j o_;simp only [inN,decide_eq_true_eq] at c7;obtain ⟨z,hz⟩:∃ z:Nat,L0.getD j 0=(z:Int):=⟨(L0.getD j 0).toNat,by omega⟩
  exact ⟨gl,ol,z,e,bU,by rw [ct,hz],hz,by omega⟩)
 obtain ⟨q,hq⟩:=e_ (t.args.length);obtain ⟨L,hL⟩:=e_ (t.args);obtain ⟨tn,cu⟩:=e_ (t.name);obtain ⟨ts,cv⟩:=e_ (t.sort);obtain ⟨n,hn⟩:=e_ (P.length);obtain ⟨m2,bV⟩:=e_ (Q.length);obtain ⟨m3,bW⟩:=e_ (O.length);obtain ⟨dl,cw⟩:=e_ (Dk.length);unfold aggT;rw [cn];have bX:Hid (q=L.length):=z_ (by rw [hq,hL]);rw [← hq] at bT HR;rw [← hq,← cu,← cv,← hn,← bV,← bW];rw [← hL] at HR hX hsz;rw [← hn] at bP hκ bk bf be aY;rw [← bV] at be bf aY;rw [← bW] at hk bf aY;rw [← cw] at bi bb;rw [← bS] at aW;obtain ⟨K,hK⟩:=e_ (kin n (prs Q));rw [← hK] at be bP hκ;have c8:Hid (∀ z:Nat,κ (z:Int)=K.getD z 0):=z_ (fun z=>by rw [hκ,Int.toNat_natCast]);have HH:Hid (HasTs N lo w (.slice B q cb) L):=z_ (by rw [hq,hL];exact ht);have cy:=z_ bT;have da:=z_ hX;have db:=z_ hsz;have dc:q≤1048576:=by have:=qat L;have:=bX.out;omega
 have dd:1≤dl:=bb.1;subst hA;subst c0;clear h h' hO ht hq hL cu cv bV bW bA hd cp aJ bb aK aS aT aR hX hr bQ hκ hx hh aG bj bR bS bT hn hK cw hsz p1 p2 p3 p4 p5 co cn;obtain ⟨W,hW⟩:=e_ ((w.alloc (.cells #[.slice A1 n c1,.slice A2 m2 c2,.slice (some ⟨g0,o0,none⟩) m3 c3] 46)).alloc (.cells #[.int .i64 (k:Int),.string (bstr tn),.int .i64 ts,.slice B q cb] 38));have aZ:Below w.heap.size w W:=by
  rw [hW];exact v_
 have cz:Box34 w.heap.size (w.heap.size+1) (.slice A1 n c1) (.slice A2 m2 c2) (.slice (some ⟨g0,o0,none⟩) m3 c3) (.int .i64 (k:Int)) (.string (bstr tn)) (.int .i64 ts) (.slice B q cb) W:=by
  rw [hW];exact ⟨box3 (qbd _ _ _),box4 (qa5 _ _ _ (by simp))⟩
 have cA:W.heap.size=w.heap.size+2:=by rw [hW];simp
 have HX:=z_ cz;obtain ⟨⟨x0,x1,x2⟩,y0,y1,y2,y3⟩:=cz;have cB:=z_ aZ;have HZ:=z_ cA;have bl:=(aZ.cell (p:=⟨g0,o0+k*5,none⟩) bh).trans bB;have bm:=(aZ.cell (p:=⟨g0,o0+k*5+1,none⟩) bh).trans bi;have bn:=(aZ.cell (p:=⟨g0,o0+k*5+2,none⟩) bh).trans bC;have bo:=(aZ.cell (p:=⟨g0,o0+k*5+3,none⟩) bh).trans bD;have bp:=(aZ.cell (p:=⟨g0,o0+k*5+4,none⟩) bh).trans bE;have de:Hid (w.cell? ⟨gd,od,none⟩=some (.slice A5 ln c5)):=z_ aW;have i1:(0:Int)≤(k:Int):=o_;have i2:(k:Int)<(m3:Int):=o_;clear aZ bB bi bC bD bE aW;rw [hW] at bl bm bn bo bp x0 x1 x2 y0 y1 y2 y3;go_enter Tryz.func139,Tryz.ntmps139
 go_wp2_with fail
 rw [← hW];clear hW;obtain ⟨WA,bc⟩:=e_ (W.alloc (.cells #[.string (bstr nm),.slice (some ⟨gd,od,none⟩) dl c4,.bool a,.bool b,.int .i64 u] 124));rw [← bc];have cC:Below w.heap.size w WA:=by rw [bc];exact cB.out.alloc cB.out.size _
 have cD:WA.heap[w.heap.size+2]? =some (.cells #[.string (bstr nm),.slice (some ⟨gd,od,none⟩) dl c4,.bool a,.bool b,.int .i64 u] 124 (0,0)):=by rw [bc,← HZ.out];exact qa5 _ _ _ rfl
 have cE:Box34 w.heap.size (w.heap.size+1) (.slice A1 n c1) (.slice A2 m2 c2) (.slice (some ⟨g0,o0,none⟩) m3 c3) (.int .i64 (k:Int)) (.string (bstr tn)) (.int .i64 ts) (.slice B q cb) WA:=by
  rw [bc];exact Box34.below HX.out (b_.alloc n_ _)
 have cF:WA.heap.size=w.heap.size+3:=by rw [bc];simp [HZ.out]
 have bF:=z_ cC;have cG:=z_ cD;have cH:=z_ cE;have bY:=z_ cF;clear bc cC cD cE cF cA x0 x1 x2 y0 y1 y2 y3 bl bm bn bo bp;refine (be.out WA bF.out).mono ?_;rintro e w2 ⟨kv,rfl,cI,bq⟩;obtain ⟨KA,kc,rfl,cJ⟩:=(Has.of_own cI).shape (n:=n) (by rw [qau,qag];exact bP)
 have cK:Hid (∀ z,z<n→∃ gk ok,KA=some ⟨gk,ok,none⟩∧gk<w2.heap.size∧w2.cell? ⟨gk,ok+z,none⟩=some (.int .i64 ((κ (z:Int):Nat):Int))):=z_ (fun z hz=>by
  obtain ⟨gk,ok,e,br,bG⟩:=cJ.cellAt (j:=z) hz;rw [qak _ z Ao_,qav] at bG
  exact ⟨gk,ok,e,br,by rw [bG,c8.out]⟩)
 have bH:=z_ (bF.out.trans (bq.mono bF.out.size));have bZ:=z_ (Box34.below cH.out bq);have cL:Hid (w2.heap[w.heap.size+2]? =some (.cells #[.string (bstr nm),.slice (some ⟨gd,od,none⟩) dl c4,.bool a,.bool b,.int .i64 u] 124 (0,0))):=z_ ((bq.block _ (by have:=bY.out;omega)).trans cG.out);have cM:w.heap.size+3≤w2.heap.size:=by have:=bq.size;have:=bY.out;omega
 have ca:=z_ cM;clear cI bq cJ cM;obtain ⟨⟨x0,x1,x2⟩,y0,y1,y2,y3⟩:=bZ.out;go_wp2_with fail
 refine (aY.out w2 bH.out).mono ?_;rintro e w3 ⟨rfl,cN⟩;have a6:=z_ cN;clear cN x0 x1 x2 y0 y1 y2 y3;obtain ⟨ha,a7⟩:=e_ ((!decide (u=0)));obtain ⟨uo,cc⟩:=e_ ((if u=0 then 0 else u-1));rw [← a7,← cc];have df:=z_ cc;have bs:=z_ a7;clear a7 cc;go_wp2_with fail
 obtain ⟨V0,bt⟩:=e_ (w3.alloc (.cells #[.int .i64 uo,.string (bstr []),.int .i64 0,.slice none 0 0] 38));have dg:w.heap.size+3≤w3.heap.size:=by have:=a6.out.size;have:=ca.out;omega
 have aL:=fr1_ bt;have cO:Below w.heap.size w V0:=(bH.out.trans (a6.out.mono bH.out.size)).trans (aL.mono o_);have dh:=fr3_ bt;have cP:=Box34.below (Box34.below bZ.out a6.out) aL;have cQ:V0.heap[w.heap.size+2]? =some (.cells #[.string (bstr nm),.slice (some ⟨gd,od,none⟩) dl c4,.bool a,.bool b,.int .i64 u] 124 (0,0)):=(aL.block _ o_).trans ((a6.out.block _ (by have:=ca.out;omega)).trans cL.out);have cd:=fr2_ bt
 have di:Hid (∀ z,z<n→∃ gk ok,KA=some ⟨gk,ok,none⟩∧gk<V0.heap.size∧V0.cell? ⟨gk,ok+z,none⟩=some (.int .i64 ((κ (z:Int):Nat):Int))):=z_ (fun z hz=>by
  obtain ⟨gk,ok,e,br,bG⟩:=cK.out z hz;have h2:=a6.out.size
  exact ⟨gk,ok,e,by omega,(aL.cell (p:=⟨gk,ok+z,none⟩) (by show gk<_;omega)).trans ((a6.out.cell (p:=⟨gk,ok+z,none⟩) br).trans bG)⟩)
 have bI:=z_ cO;have dj:=z_ cP;have ce:=z_ cQ;obtain ⟨bu,bv⟩:=e_ (w3.heap.size);rw [← bv] at dh cd dg;rw [← bv];have bJ:=z_ cd;try rw [bv,← bt,← bv]
 clear aL cO cP cQ cd cK bZ cL cH cG HX aY be bt bv a6 bH ca bF bY;go_loopw [9,10,11] (fun v9 _ _ wr=>∃ p:Nat,v9=.int .i64 p∧p≤q∧Hid (∀ i,i<p→κ (srtT O (L.getD i default))=κ (L0.getD (atS a i) 0)∧¬ (a=true∧(L.getD i default).op=(k:Int))∧¬ (u≠0∧cmp (L.getD i default) (qge u)=0)∧(b=true→0<i→cmp (L.getD (i-1) default) (L.getD i default)≤0))∧Hid (Below V0.heap.size V0 wr)) (fun i _ _ _=>q-(intOf i).toNat)
 case atStart=>exact ⟨0,rfl,y_,z_ (fun i hi=>absurd hi (Nat.not_lt_zero _)),z_ b_⟩
 case round=>
  obtain ⟨p,rfl,hp,bw,HB⟩:=hrel;have az:=HB.out;have dw:V0.heap.size≤wr.heap.size:=az.size;have kc:∀ {g y:Nat} {v:Value},g<V0.heap.size→V0.cell? ⟨g,y,none⟩=some v→wr.cell? ⟨g,y,none⟩=some v:=fun {g y v} hg h=>(az.cell (p:=⟨g,y,none⟩) hg).trans h
  obtain ⟨⟨cf,cg,ch⟩,ci,cR,cS,cj⟩:=dj.out;have y3:=kc o_ cj;by_cases bd:p<q
  ·have d1:decide ((p:Int)<(q:Int))=true:=d_
   have d3:decide (p<q)=true:=decide_eq_true bd;have x0:=kc o_ cf;have x1:=kc o_ cg;have x2:=kc o_ ch;have y0:=kc o_ ci;have a1:=kc o_ (h_ _ _ 1 _ _ _ ce.out);have a2:=kc o_ (h_ _ _ 2 _ _ _ ce.out);have a3:=kc o_ (h_ _ _ 3 _ _ _ ce.out);have u0:=kc o_ (h_ _ _ 0 _ _ _ bJ.out);have u1:=kc o_ (h_ _ _ 1 _ _ _ bJ.out);have u2:=kc o_ (h_ _ _ 2 _ _ _ bJ.out);have u3:=kc o_ (h_ _ _ 3 _ _ _ bJ.out);have aA:=bI.out.trans (az.mono bI.out.size);obtain ⟨kn,g,o,B2,cx,dx,rfl,_,hg,e0,e1,e2,e3,cT,_⟩:=qal HH.out bd;obtain ⟨gl,ol,za,rfl,bU,cU,ck,dk⟩:=bk.out (atS a p) (cy.out p bd);obtain ⟨gk,ok,rfl,br,cV⟩:=di.out za dk;have f0:=(aA.cell (p:=⟨g,o+p*4,none⟩) hg).trans e0;have f1:=(aA.cell (p:=⟨g,o+p*4+1,none⟩) hg).trans e1;have f2:=(aA.cell (p:=⟨g,o+p*4+2,none⟩) hg).trans e2;have f3:=(aA.cell (p:=⟨g,o+p*4+3,none⟩) hg).trans e3;have cl:=cT.below n_ aA;have cW:=(aA.cell (p:=⟨gd,od,none⟩) c6).trans de.out;have ai:=(aA.cell (p:=⟨gl,ol+atS a p,none⟩) bU).trans cU;have cX:=kc br cV;have bx:L.getD p default∈L:=by rw [List.getD_eq_getElem?_getD,List.getElem?_eq_getElem (by have:=bX.out;omega)];exact List.getElem_mem _
   have bg:=da.out _ bx
   have aF:Hid (0<p→∃ (B3:Option Addr) (c9:Nat),wr.cell? ⟨g,o+(p-1)*4,none⟩=some (.int .i64 (L.getD (p-1) default).op)∧wr.cell? ⟨g,o+(p-1)*4+1,none⟩=some (.string (bstr (L.getD (p-1) default).name))∧wr.cell? ⟨g,o+(p-1)*4+2,none⟩=some (.int .i64 (L.getD (p-1) default).sort)∧
     wr.cell? ⟨g,o+(p-1)*4+3,none⟩=some (.slice B3 (L.getD (p-1) default).args.length c9)∧HasTs kn lo wr (.slice B3 (L.getD (p-1) default).args.length c9) (L.getD (p-1) default).args):=z_ (fun h0=>by
    obtain ⟨dm,g',o',B3,c9,dn,hA,_,dy,e0,e1,e2,e3,ao,_⟩:=qal HH.out (j:=p-1) o_;simp only [Option.some.injEq,Addr.mk.injEq,and_true] at hA;obtain ⟨rfl,rfl⟩:=hA;obtain rfl:dm=kn:=o_
    exact ⟨B3,c9,(aA.cell (p:=⟨g,o+(p-1)*4,none⟩) hg).trans e0,(aA.cell (p:=⟨g,o+(p-1)*4+1,none⟩) hg).trans e1,(aA.cell (p:=⟨g,o+(p-1)*4+2,none⟩) hg).trans e2,(aA.cell (p:=⟨g,o+(p-1)*4+3,none⟩) hg).trans e3,ao.below n_ aA⟩)
   obtain ⟨x,hx⟩:=e_ (L.getD p default);have cY:=z_ hx;rw [← hx] at f0 f1 f2 f3 cl bg;clear e0 e1 e2 e3 cT cU cV hx bx cf cg ch ci cR cS cj;obtain ⟨V,hV⟩:=e_ (wr.alloc (.cells #[.int .i64 x.op,.string (bstr x.name),.int .i64 x.sort,.slice B2 x.args.length cx] 38));have aC:=fr1_ hV;have bz:=fr2_ hV;have aD:wr.heap.size<V.heap.size:=by rw [hV];simp
   have kV:∀ {g y:Nat} {v:Value},wr.cell? ⟨g,y,none⟩=some v→∀ t:BoxC (Below V.heap.size V),t.W.cell? ⟨g,y,none⟩=some v:=fun {g y v} h t=>by
    have hg:=l_ h;simp only [] at hg;exact t.cell ((aC.cell (p:=⟨g,y,none⟩) hg).trans h) (by show g<_;omega)
   have b0:=kV x0;have b1:=kV x1;have b2:=kV x2;have b3:=kV y0;have b4:=kV y3;have b5:=kV a1;have b6:=kV a2;have b7:=kV a3;have b8:=kV u0;have b9:=kV u1;have ap:=kV u2;have aq:=kV u3;have au:=kV cW;have ak:=kV cX;have al:∀ t:BoxC (Below V.heap.size V),t.W.cell? ⟨wr.heap.size,0,none⟩=some (.int .i64 x.op):=fun t=>t.cell (h_ _ _ 0 _ _ _ bz) aD
   have av:∀ t:BoxC (Below V.heap.size V),t.W.cell? ⟨wr.heap.size,1,none⟩=some (.string (bstr x.name)):=fun t=>t.cell (h_ _ _ 1 _ _ _ bz) aD
   have aw:∀ t:BoxC (Below V.heap.size V),t.W.cell? ⟨wr.heap.size,2,none⟩=some (.int .i64 x.sort):=fun t=>t.cell (h_ _ _ 2 _ _ _ bz) aD
   have ax:∀ t:BoxC (Below V.heap.size V),t.W.cell? ⟨wr.heap.size,3,none⟩=some (.slice B2 x.args.length cx):=fun t=>t.cell (h_ _ _ 3 _ _ _ bz) aD
   obtain ⟨kx,bK⟩:=e_ (κ (srtT O x));obtain ⟨ka,bL⟩:=e_ (κ (za:Int));obtain ⟨sm,bM⟩:∃ sm,decide (cmp x (qge u)=0)=sm:=⟨_,rfl⟩;rw [← bL] at ak;have bN:∀ t:BoxC (Below V.heap.size V),HasTs kn lo t.W (.slice B2 x.args.length cx) x.args:=fun t=>cl.below n_ (aC.trans (t.h.mono (Nat.le_of_lt aD)))
   have ac:Hid (∀ t:BoxC (Below V.heap.size V),Calls Tryz.prog 143 #[.agg #[.slice A1 n c1,.slice A2 m2 c2,.slice (some ⟨g0,o0,none⟩) m3 c3],.agg #[.int .i64 x.op,.string (bstr x.name),.int .i64 x.sort,.slice B2 x.args.length cx]] t.W fun e w'=>e=.returned (.int .i64 (kx:Int))∧Below t.W.heap.size t.W w'):=z_ (fun t=>by
    rw [bK]
    exact bf.out t.W x _ kn lo (aA.trans ((aC.trans (t.h.mono (Nat.le_of_lt aD))).mono aA.size)) (bN t) bg)
   have aa:Hid (∀ t:BoxC (Below V.heap.size V),Calls Tryz.prog 58 #[.agg #[.int .i64 x.op,.string (bstr x.name),.int .i64 x.sort,.slice B2 x.args.length cx],.agg #[.int .i64 uo,.string (bstr []),.int .i64 0,.slice none 0 0]] t.W fun e w'=>e=.returned (.bool sm)∧Below t.W.heap.size t.W w'):=z_ (fun t=>by
    have h1:=qew (n:=kn) (m:=0) (lo':=lo) x (qge u) (.slice B2 x.args.length cx) (.slice none 0 0) t.W (bN t) (HasR.nil _ _ _ Aa_ _) sm bM;rw [df.out]
    exact h1)
   have af:Hid (∀ (y:TermM) (B3:Option Addr) (c9:Nat),HasTs kn lo wr (.slice B3 y.args.length c9) y.args→qa2 y.args≤1048576→∀ t:BoxC (Below V.heap.size V),Calls Tryz.prog 82 #[.agg #[.int .i64 y.op,.string (bstr y.name),.int .i64 y.sort,.slice B3 y.args.length c9],.agg #[.int .i64 x.op,.string (bstr x.name),.int .i64 x.sort,.slice B2 x.args.length cx]] t.W fun e w'=>e=.returned (.int .i64 (cmp y x))∧Below t.W.heap.size t.W w'):=z_ (fun y B3 c9 hy _ t=>
    qgc y x _ _ t.W (hy.below n_ (aC.trans (t.h.mono (Nat.le_of_lt aD)))) (bN t))
   have am:Hid (r=true→kx=ka∧¬ (a=true∧x.op=(k:Int))∧¬ (ha=true∧sm=true)∧(b=true→0<p→cmp (L.getD (p-1) default) x≤0)):=z_ (fun dp=>by
    have h1:=HR.out.1 dp p bd;rw [← cY.out,ck,← bK,← bL] at h1;refine ⟨h1.1,h1.2.1,fun h2=>h1.2.2.1 ⟨?_,?_⟩,h1.2.2.2⟩
    ·have h3:=h2.1
     rw [bs.out] at h3;simpa using h3
    ·have h3:=h2.2
     rw [← bM] at h3
     exact of_decide_eq_true h3)
   have ag:Hid (kx=ka∧¬ (a=true∧x.op=(k:Int))∧¬ (ha=true∧sm=true)∧(b=true→0<p→cmp (L.getD (p-1) default) x≤0)→∀ i,i<p+1→κ (srtT O (L.getD i default))=κ (L0.getD (atS a i) 0)∧¬ (a=true∧(L.getD i default).op=(k:Int))∧¬ (u≠0∧cmp (L.getD i default) (qge u)=0)∧(b=true→0<i→cmp (L.getD (i-1) default) (L.getD i default)≤0)):=z_ (fun h1 i hi=>by
    by_cases e:i=p
    ·subst e
     rw [← cY.out,ck,← bK,← bL];refine ⟨h1.1,h1.2.1,fun h2=>h1.2.2.1 ⟨?_,?_⟩,h1.2.2.2⟩
     ·rw [bs.out]
      simpa using h2.1
     ·rw [← bM]
      exact decide_eq_true h2.2
    ·exact bw.out i o_)
   have bO:Hid (0<p→qa2 (L.getD (p-1) default).args≤1048576):=z_ (fun h0=>by
    have h9:=qam (l:=L) (j:=p-1) (by have:=bX.out;omega);have dz:=termro.qao (L.getD (p-1) default);have:=db.out
    omega)
   have aQ:=z_ (aA.trans (aC.mono aA.size));have ah:=z_ (az.trans (aC.mono az.size));have aI:V0.heap.size≤V.heap.size:=o_;have aU:w.heap.size≤V.heap.size:=aQ.out.size;have nb:Nonempty (BoxC (Below V.heap.size V)):=⟨⟨_,Below.refl _ _⟩⟩;have i3:(0:Int)≤(p:Int):=o_;have i4:(p:Int)<(q:Int):=o_;have i5:(0:Int)<(dl:Int):=o_;have i6:(0:Int)≤(za:Int):=o_;have i7:(za:Int)<(n:Int):=o_;have aV:=cy.out p bd;have dA:w.heap.size+2<wr.heap.size:=o_;have dq:w.heap.size+1<wr.heap.size:=o_;clear az aA aC bz bN cl bg ck bM bK bL cW cX;cases a with
   | false=>
    have aM:wr.cell? ⟨gl,ol+p,none⟩=some (.int .i64 ((za:Nat):Int)):=by simpa [atS] using ai
    have an:=kV aM;have dr:p<ln:=by simpa [atS] using aV
    have i8:(p:Int)<(ln:Int):=o_;clear aM aV;have aH:¬ (false=true∧x.op=(k:Int)):=fun e=>by cases e.1
    by_cases ae:kx=ka
    ·have q1:((kx:Int)==(ka:Int))=true:=by rw [ae];simp
     have q2:(kx==ka)=true:=by rw [ae];simp
     have q3:decide (kx=ka)=true:=decide_eq_true ae;exact c66_
    ·exact c67_
   | true=>
    have aM:wr.cell? ⟨gl,ol,none⟩=some (.int .i64 ((za:Nat):Int)):=by simpa [atS] using ai
    have an:=kV aM;have dr:0<ln:=by simpa [atS] using aV
    have i8:(0:Int)<(ln:Int):=o_;clear aM aV;by_cases ae:kx=ka
    ·have q1:((kx:Int)==(ka:Int))=true:=by rw [ae];simp
     have q2:(kx==ka)=true:=by rw [ae];simp
     have q3:decide (kx=ka)=true:=decide_eq_true ae;obtain ⟨xo,cZ⟩:=e_ (x.op);rw [← cZ] at f0 hV al ac aa af am ag;clear cZ;by_cases ba:xo=(k:Int)
     ·have dt:=z_ ba
      have s1:(xo==(k:Int))=true:=by rw [ba];simp
      have s2:decide (xo=(k:Int))=true:=decide_eq_true ba;clear ba;go_wp2_with fail
      rw [← hV];clear hV x0 x1 x2 y0 y3 a1 a2 a3 u0 u1 u2 u3 f0 f1 f2 f3 ai;refine qa1 (C:=Below V.heap.size V) k_ k_ b_.drew ?_;repeat (first|go_big_quiet_step ((go_at_call 143;exact (ac.out _).mono (fun _ _ h=>⟨h.1,BoxC.step _ h.2⟩)))|go_big_quiet_step ((go_at_call 58;exact (aa.out _).mono (fun _ _ h=>⟨h.1,BoxC.step _ h.2⟩))))
      refine wpQuiet_nil ?_;rintro w5 ⟨t5,rfl⟩
      have HF:Hid (r=false):=z_ (by cases aB:r with
       | false=>rfl
       | true=>exact absurd (am.out aB) (by intro hh;exact hh.2.1 ⟨by trivial,dt.out⟩))
      exact j18_
     ·have s1:(xo==(k:Int))=false:=by simp [ba]
      have s2:decide (xo=(k:Int))=false:=decide_eq_false ba;have aH:¬ (true=true∧xo=(k:Int)):=fun e=>ba e.2
      exact c66_
    ·exact c67_
  ·have d1:decide ((p:Int)<(q:Int))=false:=f_
   have d3:decide (p<q)=false:=decide_eq_false bd;have HT:Hid (r=true):=z_ (HR.out.2 (fun i hi=>bw.out i o_));have du:=z_ (bI.out.trans (az.mono bI.out.size));clear cf cg ch ci cR cS cj az;go_wp2;go_ret;exact ⟨qa0 HT.out.symm,du.out⟩
end formr

namespace formf
open mem dec sortp sorti sigm sigs rowl trm terml termb termt termx termro termv frm gram gramn grami formnd formk formr
def qyk (P:List (List UInt8))(Q:List (Int×Int))(O:List OpM)(t:TermM):Prop:=qby P O t∧(t.op≠-1→qgf (κK P.length Q) O t.op.toNat t.args)
abbrev qay (P:List (List UInt8))(Q:List (Int×Int))(O:List OpM):TermM→Prop:=allN (qyk P Q O)
theorem qar (P:List (List UInt8))(Q:List (Int×Int))(O:List OpM)(t:TermM):qay P Q O t↔qby P O t∧(∀ a∈t.args,qay P Q O a)∧(t.op≠-1→qgf (κK P.length Q) O t.op.toNat t.args):=by
 unfold qay;rw [qbq,qyk];exact ⟨fun h=>⟨h.1.1,h.2,h.1.2⟩,fun h=>⟨⟨h.1,h.2.2⟩,h.2.1⟩⟩
theorem qcn{t:TermM}(h:qby P O t):qdn P O t:=by
 unfold qby at h;unfold qdn;split
 ·rename_i hv
  rw [if_pos hv] at h;exact h.2.1
 ·rename_i hv
  rw [if_neg hv] at h;exact h.1
def qB5 (P:List (List UInt8))(Q:List (Int×Int))(O:List OpM)(n:Nat):Prop:=∀ (va vb vc:Value) (t:TermM) (v:Value) (w:World) (lo:Nat),HasG w va vb vc P Q O→HasTs n lo w v t.args→Bnd t→qa2 t.args≤1048576→∀ r:Bool,(r=true↔qay P Q O t)→
 Calls Tryz.prog 84 #[.agg #[va,vb,vc],aggT t v] w fun e w'=>e=.returned (.bool r)∧Below w.heap.size w w'
set_option maxRecDepth 50000 in
set_option maxHeartbeats 8000000 in
theorem qkb (P:List (List UInt8))(Q:List (Int×Int))(O:List OpM)(aH:qah P Q O=true)(hS:∀ k,N=k+1→qB5 P Q O k):qB5 P Q O N:=by
 intro va vb vc t v w lo h ht hB hsz r hr;obtain ⟨nb,aq⟩:=x_ (qby P O t);obtain ⟨rb,au⟩:=x_ (qgf (κK P.length Q) O t.op.toNat t.args);rw [qar] at hr;have aI:t.args.length≤1048576:=by have:=qat t.args;omega
 obtain ⟨B,cb,rfl,_⟩:=HasR.shape ht rfl;have av:Hid (∀ W,Below w.heap.size w W→Calls Tryz.prog 138 #[.agg #[va,vb,vc],aggT t (.slice B t.args.length cb)] W fun e w'=>e=.returned (.bool nb)∧Below W.heap.size W w'):=z_ (fun W hW=>qve P Q O aH va vb vc t _ W (h.below n_ hW) (ht.below n_ hW) hB aI nb aq)
 have aw:Hid (t.op≠-1→qby P O t→(∀ a∈t.args,qay P Q O a)→∀ W,Below w.heap.size w W→Calls Tryz.prog 139 #[.agg #[va,vb,vc],aggT t (.slice B t.args.length cb)] W fun e w'=>e=.returned (.bool rb)∧Below W.heap.size W w'):=z_ (fun aU ad ae W hW=>by
  have h1:=ad;unfold qby at h1;rw [if_neg aU] at h1
  exact qt0 P Q O aH va vb vc t _ W (h.below n_ hW) (ht.below n_ hW) hsz t.op.toNat o_ o_ (fun ha=>by
   have h2:=h1.2.2.2;rw [ha,if_neg (by simp)] at h2
   exact h2) (fun x hx=>qcn ((qar P Q O x).1 (ae x hx)).1) rb au)
 have aJ:Hid (∀ k,N=k+1→∀ (x:TermM) (vx:Value) (W:World),Below w.heap.size w W→HasTs k lo W vx x.args→Bnd x→qa2 x.args≤1048576→∀ r:Bool,(r=true↔qay P Q O x)→Calls Tryz.prog 84 #[.agg #[va,vb,vc],aggT x vx] W fun e w'=>e=.returned (.bool r)∧Below W.heap.size W w'):=z_ (fun k e x vx W hW hx aV af r hr=>hS k e va vb vc x vx W lo (h.below n_ hW) hx aV af r hr);obtain ⟨A1,c1,A2,c2,A3,c3,rfl,rfl,rfl,_⟩:=h.shape;have aK:=z_ ht;have aL:=z_ aq;have HR:=z_ hr;have aM:=z_ hsz;obtain ⟨L,hL⟩:=e_ (t.args);obtain ⟨q,hq⟩:=e_ (t.args.length);obtain ⟨to,ac⟩:=e_ (t.op);obtain ⟨tn,al⟩:=e_ (t.name);obtain ⟨ts,am⟩:=e_ (t.sort);obtain ⟨m1,ag⟩:=e_ (P.length);obtain ⟨m2,ah⟩:=e_ (Q.length);obtain ⟨m3,ai⟩:=e_ (O.length);have aW:Hid (rb=true↔qgf (κK P.length Q) O to.toNat L):=z_ (by rw [ac,hL];exact au);have ax:Hid (q=L.length):=z_ (by rw [hq,hL]);unfold aggT at av aw ⊢;rw [← hq,← ac,← al,← am,← ag,← ah,← ai];rw [← hq,← ac,← al,← am,← ag,← ah,← ai] at av;rw [← hq,← hL,← ac,← al,← am,← ag,← ah,← ai] at aw;rw [← ag,← ah,← ai] at aJ;rw [← hq,← hL] at aK;rw [← hL,← ac] at HR;rw [← hL] at aM;have aX:q≤1048576:=o_;clear h ht hB hsz hr aq au aI hL hq ac al am ag ah ai hS;obtain ⟨W,hW⟩:=e_ ((w.alloc (.cells #[.slice A1 m1 c1,.slice A2 m2 c2,.slice A3 m3 c3] 46)).alloc (.cells #[.int .i64 to,.string (bstr tn),.int .i64 ts,.slice B q cb] 38));have aN:Below w.heap.size w W:=by
  rw [hW];exact v_
 have aO:Box34 w.heap.size (w.heap.size+1) (.slice A1 m1 c1) (.slice A2 m2 c2) (.slice A3 m3 c3) (.int .i64 to) (.string (bstr tn)) (.int .i64 ts) (.slice B q cb) W:=by
  rw [hW];exact ⟨box3 (qbd _ _ _),box4 (qa5 _ _ _ (by simp))⟩
 have aP:W.heap.size=w.heap.size+2:=by rw [hW];simp
 have HX:=z_ aO;have ay:=z_ aN;have HZ:=z_ aP;clear aN aO aP;go_enter Tryz.func84,Tryz.ntmps84
 go_wp2_with fail
 rw [← hW];clear hW;refine (av.out _ ay.out).mono ?_;rintro e w1 ⟨rfl,an⟩;have az:=z_ (ay.out.trans (an.mono ay.out.size));have aY:=z_ (Box34.below HX.out an);have bb:w.heap.size+2≤w1.heap.size:=by have:=an.size;have:=HZ.out;omega
 clear an;cases nb with
 | false=>
  have HF:Hid (r=false):=z_ (by cases aA:r with
   | false=>rfl
   | true=>exact absurd (aL.out.2 (HR.out.1 aA).1) (by simp))
  go_wp2;go_ret;exact ⟨qa0 HF.out.symm,az.out⟩
 | true=>
  have aB:Hid (qby P O t):=z_ (aL.out.1 (by trivial));go_wp2;go_loopw [5] (fun v5 wr=>∃ p:Nat,v5=.int .i64 p∧p≤q∧Hid (∀ i,i<p→qay P Q O (L.getD i default))∧Hid (Below w1.heap.size w1 wr)) (fun i _=>q-(intOf i).toNat)
  case atStart=>exact ⟨0,rfl,y_,z_ (fun i hi=>absurd hi (Nat.not_lt_zero _)),z_ b_⟩
  case round=>
   obtain ⟨p,rfl,hp,aj,HB⟩:=hrel;have aa:=HB.out;have aZ:w1.heap.size≤wr.heap.size:=aa.size;obtain ⟨⟨x0,x1,x2⟩,y0,y1,y2,y3⟩:=Box34.below aY.out aa;have ab:=az.out.trans (aa.mono az.out.size);have ao:=z_ ab;by_cases aC:p<q
   ·have d1:decide ((p:Int)<(q:Int))=true:=d_
    have d3:decide (p<q)=true:=decide_eq_true aC;obtain ⟨kn,g,o,B2,cx,a6,rfl,_,hg,e0,e1,e2,e3,aD,aE⟩:=qal aK.out aC;have f0:=(ab.cell (p:=⟨g,o+p*4,none⟩) hg).trans e0;have f1:=(ab.cell (p:=⟨g,o+p*4+1,none⟩) hg).trans e1;have f2:=(ab.cell (p:=⟨g,o+p*4+2,none⟩) hg).trans e2;have f3:=(ab.cell (p:=⟨g,o+p*4+3,none⟩) hg).trans e3;have af:qa2 (L.getD p default).args≤1048576:=by
     have h9:=qam (l:=L) (j:=p) (by have:=ax.out;omega);have bc:=termro.qao (L.getD p default);have:=aM.out;omega
    obtain ⟨x,hx⟩:=e_ (L.getD p default);have aQ:=z_ hx;rw [← hx] at f0 f1 f2 f3 aD aE af;obtain ⟨rx,aF⟩:=x_ (qay P Q O x)
    have ap:Hid (∀ t:BoxC (Below wr.heap.size wr),Calls Tryz.prog 84 #[.agg #[.slice A1 m1 c1,.slice A2 m2 c2,.slice A3 m3 c3],.agg #[.int .i64 x.op,.string (bstr x.name),.int .i64 x.sort,.slice B2 x.args.length cx]] t.W fun e w'=>e=.returned (.bool rx)∧Below t.W.heap.size t.W w'):=z_ (fun t=>by
     have aR:=ab.trans (t.h.mono ab.size)
     exact aJ.out kn a6 x _ t.W aR (aD.below n_ aR) aE af rx aF)
    have kV:∀ {g y:Nat} {v:Value},wr.cell? ⟨g,y,none⟩=some v→∀ t:BoxC (Below wr.heap.size wr),t.W.cell? ⟨g,y,none⟩=some v:=fun {g y v} h t=>t.cell h (l_ h)
    have b0:=kV x0;have b1:=kV x1;have b2:=kV x2;have b3:=kV y3;have b4:=kV f0;have b5:=kV f1;have b6:=kV f2;have b7:=kV f3;have nb:Nonempty (BoxC (Below wr.heap.size wr)):=⟨⟨_,Below.refl _ _⟩⟩;have i3:(0:Int)≤(p:Int):=o_;have i4:(p:Int)<(q:Int):=o_;have a7:w.heap.size≤wr.heap.size:=o_;have aS:=z_ aF;clear e0 e1 e2 e3 f0 f1 f2 f3 aD aE af hx aF ab aa kV x0 x1 x2 y0 y1 y2;cases rx with
    | false=>
     have HF:Hid (r=false):=z_ (by cases aA:r with
      | false=>rfl
      | true=>exact absurd (aS.out.2 ((HR.out.1 aA).2.1 x (by rw [aQ.out,List.getD_eq_getElem?_getD,List.getElem?_eq_getElem (by have:=ax.out;omega)];exact List.getElem_mem _))) (by simp))
     go_wp2_with fail
     refine qa1 (C:=Below wr.heap.size wr) k_ k_ b_.drew ?_;repeat (go_big_quiet_step ((go_at_call 84;exact (ap.out _).mono (fun _ _ h=>⟨h.1,BoxC.step _ h.2⟩))))
     refine wpQuiet_nil ?_;rintro w5 ⟨t5,rfl⟩;have ak:=z_ (ao.out.trans (t5.h.mono a7));clear b0 b1 b2 b3 b4 b5 b6 b7 nb ap y3;go_wp2;go_ret;exact ⟨qa0 HF.out.symm,ak.out⟩
    | true=>
     have HA:Hid (∀ i,i<p+1→qay P Q O (L.getD i default)):=z_ (fun i hi=>by
      by_cases e:i=p
      ·subst e;rw [← aQ.out];exact aS.out.1 (by trivial)
      ·exact aj.out i o_)
     go_wp2_with fail
     refine qa1 (C:=Below wr.heap.size wr) k_ k_ b_.drew ?_;repeat (go_big_quiet_step ((go_at_call 84;exact (ap.out _).mono (fun _ _ h=>⟨h.1,BoxC.step _ h.2⟩))))
     refine wpQuiet_nil ?_;rintro w5 ⟨t5,rfl⟩;have ak:=z_ (HB.out.trans (t5.h.mono aZ));clear b0 b1 b2 b3 b4 b5 b6 b7 nb ap y3;go_wp2;go_roundw
     case measure=>simp [intOf];omega
     case rel=>exact ⟨p+1,by go_num,by omega,HA,ak⟩
   ·have d1:decide ((p:Int)<(q:Int))=false:=f_
    have d3:decide (p<q)=false:=decide_eq_false aC
    have aG:Hid (∀ a∈L,qay P Q O a):=z_ (fun a ha=>by
     obtain ⟨i,hi,rfl⟩:=List.getElem_of_mem ha;have:=aj.out i (by have:=ax.out;omega);rw [List.getD_eq_getElem?_getD,List.getElem?_eq_getElem hi] at this
     exact this)
    by_cases hv:to=-1
    ·have HT:Hid (r=true):=z_ (HR.out.2 ⟨aB.out,aG.out,fun e=>absurd hv e⟩)
     subst hv;clear aa ab;go_wp2;go_ret;exact ⟨qa0 HT.out.symm,ao.out⟩
    ·have a8:Hid (r=rb):=z_ (by
      rw [Bool.eq_iff_iff,HR.out,aW.out]
      exact ⟨fun e=>e.2.2 hv,fun e=>⟨aB.out,aG.out,fun _=>e⟩⟩)
     have ba:=z_ (aw.out hv aB.out aG.out wr ab);have v1:(to==-1)=false:=by simp [hv]
     have v2:decide (to=-1)=false:=decide_eq_false hv;clear aa ab;go_wp2_with fail
     refine ba.out.mono ?_;rintro e w5 ⟨rfl,aT⟩;have ak:=z_ (ao.out.trans (aT.mono ao.out.size));clear aT x0 x1 x2 y0 y1 y2 y3;go_wp2;go_ret;exact ⟨qa0 a8.out.symm,ak.out⟩
theorem qr7 (P:List (List UInt8))(Q:List (Int×Int))(O:List OpM)(aa:qah P Q O=true):∀ n,qB5 P Q O n
 | 0=>qkb P Q O aa (fun k h=>by omega)
 | n+1=>qkb P Q O aa (fun k h=>Nat.succ.inj h ▸ qr7 P Q O aa n)
end formf
end Go.Proofs.YtiilamngcoegiaaGreat
