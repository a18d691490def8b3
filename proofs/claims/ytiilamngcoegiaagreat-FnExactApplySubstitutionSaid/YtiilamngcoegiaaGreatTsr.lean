
import Derived.Test.YtiilamngcoegiaaGreatTsq
namespace Go.Proofs.YtiilamngcoegiaaGreat.tsr
open Go.ChangeShapes Go.WideShapes Go.ChangeAt Go.RowKit
open mem split subs setm sets sortm sortp sorti sortu rowl sigm sigs sigk trm tsa tsm tsj tsk tsn tsp tsq
theorem qBi (a b:Nat)(ha:a<65536)(hb:b<65536):bits .xor .i64 (a:Int) (b:Int)=((a ^^^ b:Nat):Int):=by
 have hx:a ^^^ b<2 ^ 16:=Nat.xor_lt_two_pow ha hb;show IntKind.i64.wrap ((BitVec.ofInt 64 (a:Int) ^^^ BitVec.ofInt 64 (b:Int)).toNat:Nat)=_;simp only [BitVec.ofInt_natCast,BitVec.toNat_xor,BitVec.toNat_ofNat];rw [Nat.mod_eq_of_lt (show a<2 ^ 64 by omega),Nat.mod_eq_of_lt (show b<2 ^ 64 by omega)]
 exact qc7 _ (Int.natCast_nonneg _) (by
                                              have:((a ^^^ b:Nat):Int)<2 ^ 16:=by exact_mod_cast hx
                                              omega)
def BagT (U:List Nat)(D:List (List Int×Int))(A:List Nat)(z m c:Nat)(T:List Nat):Prop:=
 T.length=z∧(∀ x,0<x→x<m→T.getD x 0=V true U D A x)∧T.getD m 0=c∧∀ x,m<x→T.getD x 0=0
section
variable {U:List Nat} {D:List (List Int×Int)} {A:List Nat} {z m c:Nat} {T:List Nat}
theorem BagT.zero (z:Nat):BagT U D A z 1 0 (List.replicate z 0):=by
 have h:∀ x,(List.replicate z 0).getD x 0=0:=fun x=>by
  rw [List.getD_eq_getElem?_getD,List.getElem?_replicate];split<;>rfl
 exact ⟨by simp,fun x h0 h1=>by omega,h 1,fun x _=>h x⟩
theorem BagT.store (h:BagT U D A z m c T)(hm:m<z)(c':Nat):BagT U D A z m c' (T.set m c'):=by
 have hx:m<T.length:=by rw [h.1];exact hm
 refine ⟨by rw [List.length_set];exact h.1,fun x h0 h1=>?_,?_,fun x h1=>?_⟩
 ·rw [qct _ _ hx,if_neg o_];exact h.2.1 x h0 h1
 ·rw [qct _ _ hx,if_pos rfl]
 ·rw [qct _ _ hx,if_neg o_];exact h.2.2.2 x h1
theorem BagT.next (h:BagT U D A z m c T)(hc:c=V true U D A m):BagT U D A z (m+1) 0 T:=by
 refine ⟨h.1,fun x h0 h1=>?_,h.2.2.2 _ o_,fun x h1=>h.2.2.2 x o_⟩;by_cases e:x=m
 ·subst e;rw [h.2.2.1,hc]
 ·exact h.2.1 x h0 o_
end
def sgl (A:List Nat)(m i:Nat):Nat:=match qdw m with|some j=>if j<i then A.getD j 0 else 0|none=>0
theorem qo5 {m j:Nat}(h:qdw m=some j):m=2 ^ j∧j<16:=by
 unfold qdw at h;rw [List.find?_range_eq_some] at h;exact ⟨by simpa using h.1,List.mem_range.1 h.2.1⟩
theorem qz8 {i:Nat}(h:i<16):qdw (2 ^ i)=some i:=by
 unfold qdw;rw [List.find?_range_eq_some];refine ⟨by simp,List.mem_range.2 h,fun j hj=>?_⟩;have:=Nat.pow_lt_pow_right (a:=2) (by decide) hj;simp;omega
theorem qBj (A:List Nat){m i:Nat}(h:i<16)(e:m=2 ^ i):sgl A m (i+1)=A.getD i 0:=by
 rw [e,sgl,qz8 h];simp
theorem qz9 (A:List Nat){m i:Nat}(e:m≠2 ^ i):sgl A m (i+1)=sgl A m i:=by
 unfold sgl;cases ho:qdw m with
 | none=>rfl
 | some j=>
  obtain ⟨h1,_⟩:=qo5 ho;have:j≠i:=fun h=>e (h ▸ h1)
  by_cases hj:j<i
  ·simp only [if_pos hj,if_pos (show j<i+1 by omega)]
  ·simp only [if_neg hj,if_neg (show ¬ j<i+1 by omega)]
theorem qza (A:List Nat)(m:Nat):sgl A m 0=0:=by
 unfold sgl;cases qdw m<;>simp
def bagF (U:List Nat)(D:List (List Int×Int))(A:List Nat)(m l:Nat):Nat:=upC U (giveR D [V true U D A l,V true U D A (rest m l)])
theorem qpu (m:Nat):qcx true m=lefts m:=by simp [qcx]
theorem qBk {U:List Nat}{D:List (List Int×Int)}{A:List Nat}{p m:Nat}(hp:∀ j,m=2 ^ j→j<p)(h1:∀ i,i<16→V true U D A (2 ^ i)=A.getD i 0)(hm:∀ g,qdw g=none→V true U D A g=upC U (orL (fun l=>giveR D [V true U D A l,V true U D A (rest g l)]) (qcx true g))):
  sgl A m p ||| orL (bagF U D A m) (lefts m)=V true U D A m:=by
 cases ho:qdw m with
 | none=>
  have e:sgl A m p=0:=by unfold sgl;rw [ho]
  rw [e,Nat.zero_or,hm m ho,qpb,qpu];rfl
 | some j=>
  obtain ⟨h2,h3⟩:=qo5 ho;have e:sgl A m p=A.getD j 0:=by unfold sgl;rw [ho];simp only [if_pos (hp j h2)]
  rw [e,h2,qvx h3,h1 j h3];simp [orL]
theorem c96_ {p:Prop}(h:p:=by
 (try dsimp only);first|exact SChn.below HS.out (by first|exact b_.drew|exact aa.out _|exact ab.out)|exact ac.out _
):p:=h
set_option maxRecDepth 50000 in
set_option maxHeartbeats 8000000 in
theorem qwy (P:List (List UInt8))(Q:List (Int×Int))(O:List OpM)(aM:qad P Q O=true)(k:Nat)(hk:k<O.length)(A:List Nat)(bj:ar (O.getD k default)=2)(h2:2≤A.length)(h7:A.length≤7)(hA:∀ i,A.getD i 0<2 ^ P.length)(va vb vc vs:Value)(w:World)(h:HasG w va vb vc P Q O)(h1:Has w vs (ivs (nats A))):
  Calls Tryz.prog 180 #[.agg #[va,vb,vc],.int .i64 (k:Int),vs] w fun e w'=>e=.returned (.int .i64 ((V true (clo P.length (prs Q)) (O.getD k default).decls A (2 ^ A.length-1):Nat):Int))∧Below w.heap.size w w':=by
 have ah:=(qa9 aM).1;obtain ⟨p1,p2,p3,p4,_⟩:=qax ah;have ad:=qgx ah;have aH:=qc3 P.length (prs Q);have bL:=pow8 p2;have aN:=z_ (fun W (hW:Below w.heap.size w W)=>qg5 P Q p1 p2 o_ p3 va vb W (h.s.below n_ hW));obtain ⟨A1,c1,A2,c2,A3,c3,rfl,rfl,rfl,_,_,_,h'⟩:=h.shape;obtain ⟨g,o,Ad,cd,rfl,_,hg,_,e1,_,_,_,hD,_,_⟩:=qcg h'.o hk;have bk:DeclN (clo P.length (prs Q)).length 2 (O.getD k default).decls:=by rw [aH,← bj];exact qz6 aM hk
 have aI:=z_ (fun W vu (x y:Nat) (hx:x<65536) (hy:y<65536) va (hW:Below w.heap.size w W) (hu:Has W vu (ivs (nats (clo P.length (prs Q))))) (h1:Has W va (ivs (nats [x,y])))=>qgy (clo P.length (prs Q)) ad (O.getD k default).decls [x,y] bk (fun i=>by
  match i with
  | 0=>exact hx
  | 1=>exact hy
  | i+2=>simp) vu _ va W hu (hD.below qa7 n_ hW) h1)
 have bl:∀ i,A.getD i 0<2 ^ (clo P.length (prs Q)).length:=fun i=>by rw [aH];exact hA i
 have ai:=z_ (fun g=>V_lt true (clo P.length (prs Q)) (O.getD k default).decls A ad bl g);have aO:=z_ (fun i (h:i<16)=>qvv true (clo P.length (prs Q)) (O.getD k default).decls A h);have aP:=z_ (fun g (h:qdw g=none)=>qro true (clo P.length (prs Q)) (O.getD k default).decls A h);have aQ:=z_ (fun x y=>w_ (qiw ad (giveR (O.getD k default).decls [x,y])) (pow8 ad.1));rw [aH] at ai;obtain ⟨U,hU⟩:=e_ (clo P.length (prs Q));rw [← hU] at aI ai aO aP aQ aN ⊢;obtain ⟨DD,bm⟩:=e_ ((O.getD k default).decls);rw [← bm] at aI ai aO aP aQ e1 ⊢;obtain ⟨p,hp⟩:=e_ (A.length);obtain ⟨As,cs,rfl,h1⟩:=h1.shape (n:=p) (by rw [qas,qac,hp]);have ck:=h1.len.2;have bM:=z_ h1;have HP:=z_ hp;have bN:=z_ hA;rw [← hp] at h2 h7 ⊢;have bO:2 ^ p≤128:=Nat.pow_le_pow_right (n:=2) (j:=7) (by decide) h7;have bP:2 ^ 2≤2 ^ p:=Nat.pow_le_pow_right (by decide) h2;have aJ:=z_ (fun W=>qfh p o_ W);have bn:Hid (∀ m j,m=2 ^ j→m<2 ^ p→j<p):=z_ (fun m j e h=>by rw [e] at h;exact (Nat.pow_lt_pow_iff_right (by decide)).1 h);obtain ⟨z,hz⟩:=e_ (2 ^ p);rw [← hz] at bO bP aJ bn ⊢;obtain ⟨vr,aR⟩:=e_ (V true U DD A (z-1));have bQ:=z_ aR;rw [← aR];obtain ⟨dl,bo⟩:=e_ (DD.length);rw [← bo] at aI e1;obtain ⟨m1,aw⟩:=e_ (P.length);obtain ⟨m2,aS⟩:=e_ (Q.length);obtain ⟨m3,bp⟩:=e_ (O.length);have i1:(0:Int)≤(k:Int):=o_;have i2:(k:Int)<(m3:Int):=o_;rw [← aw] at bL ai bN;rw [← aw,← aS] at aN;rw [← aw,← aS,← bp];obtain ⟨W,hW⟩:=e_ (w.alloc (.cells #[.slice A1 m1 c1,.slice A2 m2 c2,.slice (some ⟨g,o,none⟩) m3 c3] 46));have aT:=fr1_ hW;have aU:SApp w.heap.size g (o+k*5) (.slice A1 m1 c1) (.slice A2 m2 c2) (.slice (some ⟨g,o,none⟩) m3 c3) (.slice Ad dl cd) W W:=by
  refine ⟨⟨?_,(aT.cell (p:=⟨g,o+k*5+1,none⟩) hg).trans e1⟩,Below.refl _ _⟩;rw [hW];exact tsl.box3 (termt.qa5 _ _ _ rfl)
 have bq:=fr3_ hW;have aV:=z_ aT;have bR:=z_ aU;have HZ:=z_ bq;obtain ⟨j0,bS,bT,bU,bV⟩:=info_parts qdf;obtain ⟨⟨z0,z1,z2⟩,z3⟩:=aU.1;clear h h' h1 hA ah p1 p2 p3 p4 ad aH e1 hD bk bl aR bo aw aS bp aT aU aM hk hU bm hp bq hz bj z3;go_enter Tryz.func180,Tryz.ntmps180
 go_wp2_with fail
 rw [← hW];clear hW
 go_wp2_with (first
  | (go_at_call 179;refine (aN.out W aV.out).mono ?_;rintro e w1 ⟨cl,rfl,hown,br⟩;obtain ⟨Au,cu,rfl,_⟩:=qae hown;have HU:=z_ (Has.of_own hown);have aW:Hid (Below W.heap.size W w1):=z_ br;have aX:Hid (Below w.heap.size w w1):=z_ (aV.out.trans (aW.out.mono aV.out.size));clear hown br z0 z1 z2)
  | (go_at_call 221;refine (aJ.out _).mono ?_;rintro e w0 ⟨rfl,rfl⟩)
  | (at_make;refine wpList_make_full _ rfl _ _ 60 rfl w1.heap.size 3 j0 (.int .i64 0) 1 Tryz.underlying60 bS bT bU _ _ _ _ z rfl rfl rfl rfl (by rw [bV];omega) (by unfold maxLen;omega) n_ ?_))
 intro w2 hown af;rw [qo4] at hown;obtain ⟨gt,hgt⟩:=e_ (w1.heap.size);rw [← hgt] at hown ⊢;have hb2:Below gt w1 w2:=by rw [hgt];exact (Below.refl w1.heap.size w1).grown af n_ (by intro k hk;cases hk)
 have bW:=z_ hb2;have aY:=z_ hown;have bX:=z_ hgt;have bY:w.heap.size+1≤gt:=by rw [hgt];have:=aW.out.size;rw [HZ.out] at this;exact this
 have bs:=z_ (bR.out.of aW.out);have bZ:g<gt:=by rw [hgt];exact l_ bs.out.1.2
 have b0:Hid (∀ wr,Below gt w1 wr→(wr.cell? ⟨w.heap.size,0,none⟩=some (.slice A1 m1 c1)∧wr.cell? ⟨w.heap.size,1,none⟩=some (.slice A2 m2 c2)∧wr.cell? ⟨w.heap.size,2,none⟩=some (.slice (some ⟨g,o,none⟩) m3 c3))∧wr.cell? ⟨g,o+k*5+1,none⟩=some (.slice Ad dl cd)):=z_ (fun wr hb=>by
  have k1:∀ y,wr.cell? ⟨w.heap.size,y,none⟩=w1.cell? ⟨w.heap.size,y,none⟩:=fun y=>hb.cell (p:=⟨w.heap.size,y,none⟩) (by show w.heap.size<gt;omega)
  have k2:∀ y,wr.cell? ⟨g,y,none⟩=w1.cell? ⟨g,y,none⟩:=fun y=>hb.cell (p:=⟨g,y,none⟩) bZ
  rw [k1,k1,k1,k2]
  exact bs.out.1)
 have aZ:Hid (∀ wr,Below gt w1 wr→Below w.heap.size w wr):=z_ (fun wr hb=>aX.out.trans (hb.mono o_));have b1:Hid (∀ wr,Below gt w1 wr→Has wr (.slice Au m1 cu) (ivs (nats U))):=z_ (fun wr hb=>HU.out.below n_ (bX.out ▸ hb));clear hown af hb2 hgt;go_wp2;go_loopw [10] (fun b2 wr=>∃ (m:Nat) (T:List Nat),b2=.int .i64 m∧1≤m∧m≤z∧Hid (BagT U DD A z m 0 T)∧Hid (wr.ownsRow gt 3 1 (.slice (some ⟨gt,0,none⟩) z z) z (ivs (nats T)))∧Hid (Below gt w1 wr)) (fun v _=>z-(intOf v).toNat)
 case atStart=>exact ⟨1,List.replicate z 0,rfl,Nat.le_refl _,by omega,z_ (BagT.zero z),aY,bW⟩
 case round=>
  obtain ⟨m,T,rfl,aw,cm,HT,HO,HB⟩:=hrel;by_cases hlt:m<z
  ·have d1:decide ((m:Int)<(z:Int))=true:=d_
   have b3:m<128:=o_;go_wp2_with (go_at_call 221;refine (aJ.out _).mono ?_;rintro e w0 ⟨rfl,rfl⟩)
   go_loopw [11] (fun b4 wr=>∃ (i c:Nat) (T:List Nat),b4=.int .i64 i∧i≤p∧Hid (c=sgl A m i)∧Hid (BagT U DD A z m c T)∧Hid (wr.ownsRow gt 3 1 (.slice (some ⟨gt,0,none⟩) z z) z (ivs (nats T)))∧Hid (Below gt w1 wr)) (fun v _=>p-(intOf v).toNat)
   case atStart=>exact ⟨0,0,T,rfl,y_,z_ (qza A m).symm,HT,HO,HB⟩
   case round=>
    clear HT HO HB;obtain ⟨i,c,T,rfl,co,HC,HT,HO,HB⟩:=hrel;by_cases bt:i<p
    ·have a6:=z_ (fun W=>qfh i o_ W)
     have bu:=z_ (fun e=>qBj A (m:=m) (i:=i) o_ e);have bv:=z_ (fun e=>qz9 A (m:=m) (i:=i) e);obtain ⟨y,hy⟩:=e_ (2 ^ i);rw [← hy] at a6 bu bv;clear hy;by_cases a7:m=y
     ·obtain ⟨ga,oa,rfl,cp,bw⟩:=(bM.out.below n_ (aZ.out _ HB.out)).cellAt (j:=i) bt
      rw [qz7 (by have:=HP.out;omega)] at bw;obtain ⟨q1,q2⟩:=qbe HO.out hlt;have aK:=z_ (bu.out a7);obtain ⟨av,bx⟩:=e_ (A.getD i 0);rw [← bx] at bw aK;have aj:=z_ (HT.out.store hlt av)
      have b5:Hid ((wr.setCell ⟨gt,m,none⟩ (.int .i64 (av:Int))).ownsRow gt 3 1 (.slice (some ⟨gt,0,none⟩) z z) z (ivs (nats (T.set m av)))):=z_ (by
       have h9:=qa4 HO.out m (.int .i64 (av:Int));rw [qcp,qbz] at h9
       exact h9)
      have b6:=z_ (HB.out.setCell (p:=⟨gt,m,none⟩) n_ (.int .i64 (av:Int)));have j1:(0:Int)≤(i:Int):=o_;have j2:(i:Int)<(p:Int):=o_;have j3:(0:Int)≤(m:Int):=o_;have j4:(m:Int)<(z:Int):=o_;subst a7;clear bx;go_wp2_with (go_at_call 221;refine (a6.out _).mono ?_;rintro e w0 ⟨rfl,rfl⟩)
      go_roundw
      case rel=>exact ⟨i+1,av,_,by go_num,by omega,z_ aK.out.symm,aj,b5,b6⟩
      case measure=>simp [intOf];omega
     ·have aK:=z_ (HC.out.trans (bv.out a7).symm)
      have d3:((m:Int)==(y:Int))=false:=by simp;omega
      have d4:decide ((m:Int)=(y:Int))=false:=f_;go_wp2_with (go_at_call 221;refine (a6.out _).mono ?_;rintro e w0 ⟨rfl,rfl⟩)
      go_roundw
      case rel=>exact ⟨i+1,c,T,by go_num,by omega,aK,HT,HO,HB⟩
      case measure=>simp [intOf];omega
    ·obtain rfl:i=p:=o_
     have ax:m &&& ((m-1) &&& m)=(m-1) &&& m:=by rw [Nat.and_comm (m-1) m,← Nat.and_assoc,Nat.and_self]
     have b7:(m-1) &&& m≤m-1:=Nat.and_le_left;have a8:=qBk (U:=U) (D:=DD) (A:=A) (p:=i) (m:=m) (fun j e=>bn.out m j e hlt) aO.out aP.out;rw [← HC.out,qk8] at a8;have b8:bits .and .i64 ((m:Int)-1) (m:Int)=(((m-1) &&& m:Nat):Int):=by
      have:=qtq (m-1) m o_ o_;rw [show (((m-1:Nat)):Int)=(m:Int)-1 by omega] at this;exact this
     have cq:IntKind.i64.wrap ((m:Int)-1)=(m:Int)-1:=qc7 _ o_ o_;have ak:=z_ (And.intro ax a8);obtain ⟨l0,ay⟩:=e_ ((m-1) &&& m);rw [← ay] at b8 ak b7;clear ay ax a8 bt;have ba:l0<m:=o_;go_wp2;go_loopw [12] (fun b9 wr=>∃ (l c:Nat) (T:List Nat),b9=.int .i64 l∧l<m∧Hid (m &&& l=l∧c ||| orL (bagF U DD A m) (leftsFrom m l)=V true U DD A m)∧Hid (BagT U DD A z m c T)∧Hid (wr.ownsRow gt 3 1 (.slice (some ⟨gt,0,none⟩) z z) z (ivs (nats T)))∧Hid (Below gt w1 wr)) (fun v _=>(intOf v).toNat)
     case atStart=>exact ⟨l0,c,T,rfl,ba,ak,HT,HO,HB⟩
     case round=>
      clear HT HO HB ak;obtain ⟨l,c,T,rfl,bz,HI,HT,HO,HB⟩:=hrel;by_cases ay:l=0
      ·subst ay
       have aj:Hid (BagT U DD A z (m+1) 0 T):=z_ (HT.out.next (by have:=HI.out.2;rw [qf0] at this;simpa [orL] using this));go_wp2;go_roundw
       case rel=>exact ⟨m+1,T,by go_num,by omega,by omega,aj,HO,HB⟩
       case measure=>simp [intOf];omega
      ·have bA:=qlu HI.out.1 o_
       have bB:=qlv HI.out.1 bz;have ca:bits .xor .i64 (m:Int) (l:Int)=((rest m l:Nat):Int):=qBi m l o_ o_;have cc:bits .and .i64 ((l:Int)-1) (m:Int)=(((l-1) &&& m:Nat):Int):=by
        have:=qtq (l-1) m o_ o_;rw [show (((l-1:Nat)):Int)=(l:Int)-1 by omega] at this;exact this
       have ct:IntKind.i64.wrap ((l:Int)-1)=(l:Int)-1:=qc7 _ o_ o_;have az:(l-1) &&& m≤l-1:=Nat.and_le_left;have bb:m &&& ((l-1) &&& m)=(l-1) &&& m:=by rw [Nat.and_comm (l-1) m,← Nat.and_assoc,Nat.and_self]
       have aA:(c ||| bagF U DD A m l) ||| orL (bagF U DD A m) (leftsFrom m ((l-1) &&& m))=V true U DD A m:=by
        have:=HI.out.2;rw [qf1 m l ay,qrq] at this;rw [Nat.or_assoc];exact this
       have aq:bagF U DD A m l=upC U (giveR DD [V true U DD A l,V true U DD A (rest m l)]):=rfl;obtain ⟨l2,bC⟩:=e_ ((l-1) &&& m);rw [← bC] at cc az bb aA;obtain ⟨rr,bD⟩:=e_ (rest m l);rw [← bD] at bA bB ca aq;obtain ⟨q1,f1⟩:=qbe HO.out hlt;obtain ⟨q2,_⟩:=qbe HO.out (show l<z by omega);obtain ⟨q3,_⟩:=qbe HO.out (show rr<z by omega);rw [HT.out.2.2.1] at q1;rw [HT.out.2.1 l o_ bz] at q2;rw [HT.out.2.1 rr bB bA] at q3;have bE:=ai.out l;have bF:=ai.out rr;have hcm:c≤V true U DD A m:=by rw [← HI.out.2];exact Nat.left_le_or
       have ce:=ai.out m;obtain ⟨a2,bG⟩:=e_ (V true U DD A l);obtain ⟨a3,bH⟩:=e_ (V true U DD A rr);rw [← bG] at q2 bE aq;rw [← bH] at q3 bF aq;have aL:=z_ (fun W vu va hW hu h1=>aI.out W vu a2 a3 o_ o_ va hW hu h1);have bI:=aQ.out a2 a3;obtain ⟨gv,bJ⟩:=e_ (upC U (giveR DD [a2,a3]));rw [← bJ] at aL aq bI;rw [aq] at aA;have cf:=qjf c gv o_ o_;obtain ⟨cn,aB⟩:=e_ (c ||| gv);rw [← aB] at cf aA;have HN:=z_ (And.intro bb aA);have aj:=z_ (HT.out.store hlt cn);have HS:Hid (SChn w.heap.size g (o+k*5) gt l rr (.slice A1 m1 c1) (.slice A2 m2 c2) (.slice (some ⟨g,o,none⟩) m3 c3) (.slice Ad dl cd) a2 a3 wr):=z_ ⟨b0.out wr HB.out,q2,q3⟩;have au:=z_ (aZ.out wr HB.out);have bc:=z_ (b1.out wr HB.out);have ae:gt<wr.heap.size:=l_ q1;have j1:(0:Int)≤(m:Int):=o_;have j2:(m:Int)<(z:Int):=o_;have j3:(0:Int)≤(l:Int):=o_;have j4:(l:Int)<(z:Int):=o_;have j5:(0:Int)≤(rr:Int):=o_;have j6:(rr:Int)<(z:Int):=o_;have al:m≠l:=o_;have am:m≠rr:=o_;have d5:decide ((l:Int) > 0)=true:=d_;have an:∀ ob,Below wr.heap.size wr (wr.alloc ob).drew:=fun ob=>(b_.alloc n_ ob).drew
       have aa:=z_ an;have cv:∀ ob,(wr.alloc ob).drew.cell? ⟨gt,m,none⟩=some (.int .i64 (c:Int)):=fun ob=>((an ob).cell (p:=⟨gt,m,none⟩) ae).trans q1
       have ao:w.heap.size≠gt:=o_;have ap:g≠gt:=o_;have cg:l2<l:=o_;clear an bG bH bJ aB bC bD bb aA aq hcm ce bE bF bI az;go_wp2_with fail
       refine wp_region_noPanic ?_;refine wp_region_held_drew (S:=(SChn w.heap.size g (o+k*5) gt l rr (.slice A1 m1 c1) (.slice A2 m2 c2) (.slice (some ⟨g,o,none⟩) m3 c3) (.slice Ad dl cd) a2 a3)) k_ ?_ (fun aC=>?_)
       ·first|exact SChn.below HS.out (by first|exact b_.drew|exact aa.out _|exact ab.out)|exact ac.out _
       refine t_k 0 ?_;refine t_k 1 ?_;refine t_k 2 ?_;refine t_k 3 ?_;refine t_k 4 ?_;refine t_k 6 ?_;refine t_k 7 ?_;refine t_k 8 ?_;refine t_k 9 ?_;refine t_k 10 ?_;refine t_k 11 ?_;refine t_k 12 ?_;refine t_k 13 ?_;refine t_k 14 ?_;refine t_k 15 ?_;refine t_k 16 ?_;refine t_k 17 ?_;refine t_k 18 ?_;refine t_k 19 ?_;refine t_k 20 ?_;refine t_k 21 ?_;refine t_k 22 ?_;refine r_d [5,23] ?_;refine c_s (fun K hK=>?_) ?_
       ·go_simp
        refine k_o hK ?_ (fun bd=>?_)
        ·exact c96_
        clear hK K aC;refine r_d [23] ?_;refine c_s (fun K hK=>?_) ?_
        ·go_simp
         refine k_o hK ?_ (fun be=>?_)
         ·exact c96_
         clear hK K bd;refine r_d [24] ?_;refine c_s (fun K hK=>?_) ?_
         ·(go_simp;refine (aL.out _ _ _ (au.out.trans ((aa.out _).mono au.out.size)) (bc.out.below n_ (aa.out _)) (qcz _ a2 a3)).mono ?_;rintro e w5 ⟨rfl,ag⟩;have ab:Hid (Below wr.heap.size wr w5):=z_ ((aa.out (.cells #[.int .i64 (a2:Int),.int .i64 (a3:Int)] 3)).trans (ag.mono (aa.out _).size));have q5:=(ab.out.cell (p:=⟨gt,m,none⟩) ae).trans q1;have f5:=(ab.out.frozen (p:=⟨gt,m,none⟩) ae).trans f1;have ac:Hid (∀ u,SChn w.heap.size g (o+k*5) gt l rr (.slice A1 m1 c1) (.slice A2 m2 c2) (.slice (some ⟨g,o,none⟩) m3 c3) (.slice Ad dl cd) a2 a3 (w5.setCell ⟨gt,m,none⟩ u)):=z_ (fun u=>(SChn.below HS.out ab.out).set ao ap al am u);clear ag;(try dsimp only))
          refine k_o hK ?_ (fun bf=>?_)
          ·exact c96_
          clear hK K be;refine t_k 25 ?_;refine t_k 26 ?_;refine r_d [27] ?_;refine c_s (fun K hK=>?_) ?_
          ·go_simp
           refine k_o hK ?_ (fun ch=>?_)
           ·exact c96_
           clear hK K bf;refine wpAnyH_done k_ ?_ _;refine NoPanic.normal ?_
           have aD:Hid ((w5.setCell ⟨gt,m,none⟩ (.int .i64 (cn:Int))).ownsRow gt 3 1 (.slice (some ⟨gt,0,none⟩) z z) z (ivs (nats (T.set m cn)))):=z_ (by
            have h9:=qa4 (qa2 HO.out ab.out) m (.int .i64 (cn:Int));rw [qcp,qbz] at h9
            exact h9)
           have aE:=z_ ((HB.out.trans (ab.out.mono (Nat.le_of_lt ae))).setCell (p:=⟨gt,m,none⟩) n_ (.int .i64 (cn:Int)));clear q5 f5;go_wp2;go_roundw
           case rel=>exact ⟨l2,cn,_,rfl,by omega,HN,aj,aD,aE⟩
           case measure=>simp [intOf];omega
          exact a_l
         exact a_l
        exact a_l
       refine c_s (fun K hK=>?_) ?_
       ·go_simp
        refine k_o hK ?_ (fun aF=>?_)
        ·exact c96_
        clear hK K aC;refine r_d [5,24] ?_;refine c_s (fun K hK=>?_) ?_
        ·go_simp
         refine k_o hK ?_ (fun bg=>?_)
         ·exact c96_
         clear hK K aF;refine r_d [24] ?_;refine c_s (fun K hK=>?_) ?_
         ·(go_simp;refine (aL.out _ _ _ (au.out.trans ((aa.out _).mono au.out.size)) (bc.out.below n_ (aa.out _)) (qcz _ a2 a3)).mono ?_;rintro e w5 ⟨rfl,ag⟩;have ab:Hid (Below wr.heap.size wr w5):=z_ ((aa.out (.cells #[.int .i64 (a2:Int),.int .i64 (a3:Int)] 3)).trans (ag.mono (aa.out _).size));have q5:=(ab.out.cell (p:=⟨gt,m,none⟩) ae).trans q1;have f5:=(ab.out.frozen (p:=⟨gt,m,none⟩) ae).trans f1;have ac:Hid (∀ u,SChn w.heap.size g (o+k*5) gt l rr (.slice A1 m1 c1) (.slice A2 m2 c2) (.slice (some ⟨g,o,none⟩) m3 c3) (.slice Ad dl cd) a2 a3 (w5.setCell ⟨gt,m,none⟩ u)):=z_ (fun u=>(SChn.below HS.out ab.out).set ao ap al am u);clear ag;(try dsimp only))
          refine k_o hK ?_ (fun bh=>?_)
          ·exact c96_
          clear hK K bg;refine t_k 25 ?_;refine t_k 26 ?_;refine r_d [27] ?_;refine c_s (fun K hK=>?_) ?_
          ·go_simp
           refine k_o hK ?_ (fun ci=>?_)
           ·exact c96_
           clear hK K bh;refine wpAnyH_done k_ ?_ _;refine NoPanic.normal ?_
           have aD:Hid ((w5.setCell ⟨gt,m,none⟩ (.int .i64 (cn:Int))).ownsRow gt 3 1 (.slice (some ⟨gt,0,none⟩) z z) z (ivs (nats (T.set m cn)))):=z_ (by
            have h9:=qa4 (qa2 HO.out ab.out) m (.int .i64 (cn:Int));rw [qcp,qbz] at h9
            exact h9)
           have aE:=z_ ((HB.out.trans (ab.out.mono (Nat.le_of_lt ae))).setCell (p:=⟨gt,m,none⟩) n_ (.int .i64 (cn:Int)));clear q5 f5;go_wp2;go_roundw
           case rel=>exact ⟨l2,cn,_,rfl,by omega,HN,aj,aD,aE⟩
           case measure=>simp [intOf];omega
          exact a_l
         exact a_l
        refine c_s (fun K hK=>?_) ?_
        ·(go_simp;refine (aL.out _ _ _ (au.out.trans ((aa.out _).mono au.out.size)) (bc.out.below n_ (aa.out _)) (qcz _ a2 a3)).mono ?_;rintro e w5 ⟨rfl,ag⟩;have ab:Hid (Below wr.heap.size wr w5):=z_ ((aa.out (.cells #[.int .i64 (a2:Int),.int .i64 (a3:Int)] 3)).trans (ag.mono (aa.out _).size));have q5:=(ab.out.cell (p:=⟨gt,m,none⟩) ae).trans q1;have f5:=(ab.out.frozen (p:=⟨gt,m,none⟩) ae).trans f1;have ac:Hid (∀ u,SChn w.heap.size g (o+k*5) gt l rr (.slice A1 m1 c1) (.slice A2 m2 c2) (.slice (some ⟨g,o,none⟩) m3 c3) (.slice Ad dl cd) a2 a3 (w5.setCell ⟨gt,m,none⟩ u)):=z_ (fun u=>(SChn.below HS.out ab.out).set ao ap al am u);clear ag;(try dsimp only))
         refine k_o hK ?_ (fun bi=>?_)
         ·exact c96_
         clear hK K aF;refine r_d [5] ?_;refine c_s (fun K hK=>?_) ?_
         ·go_simp
          refine k_o hK ?_ (fun aG=>?_)
          ·exact c96_
          clear hK K bi;refine t_k 25 ?_;refine t_k 26 ?_;refine r_d [27] ?_;refine c_s (fun K hK=>?_) ?_
          ·go_simp
           refine k_o hK ?_ (fun bK=>?_)
           ·exact c96_
           clear hK K aG;refine wpAnyH_done k_ ?_ _;refine NoPanic.normal ?_
           have aD:Hid ((w5.setCell ⟨gt,m,none⟩ (.int .i64 (cn:Int))).ownsRow gt 3 1 (.slice (some ⟨gt,0,none⟩) z z) z (ivs (nats (T.set m cn)))):=z_ (by
            have h9:=qa4 (qa2 HO.out ab.out) m (.int .i64 (cn:Int));rw [qcp,qbz] at h9
            exact h9)
           have aE:=z_ ((HB.out.trans (ab.out.mono (Nat.le_of_lt ae))).setCell (p:=⟨gt,m,none⟩) n_ (.int .i64 (cn:Int)));clear q5 f5;go_wp2;go_roundw
           case rel=>exact ⟨l2,cn,_,rfl,by omega,HN,aj,aD,aE⟩
           case measure=>simp [intOf];omega
          exact a_l
         exact a_l
        exact a_l
       exact a_l
  ·obtain rfl:m=z:=o_
   have d1:decide ((m:Int)<(m:Int))=false:=f_;obtain ⟨x,hx⟩:=e_ (m-1);have cw:IntKind.i64.wrap ((m:Int)-1)=(x:Int):=by rw [qc7 _ o_ o_];omega
   obtain ⟨q1,_⟩:=qbe HO.out (show x<m by omega);rw [HT.out.2.1 x o_ o_] at q1;have HQ:Hid (V true U DD A x=vr):=z_ (by rw [bQ.out,hx]);rw [HQ.out] at q1;have j3:(0:Int)≤(x:Int):=o_;have j4:(x:Int)<(m:Int):=o_;have cj:=z_ (aZ.out _ HB.out);clear hx;go_wp2_with (go_at_call 221;refine (aJ.out _).mono ?_;rintro e w0 ⟨rfl,rfl⟩)
   go_ret;exact ⟨rfl,cj.out⟩
end Go.Proofs.YtiilamngcoegiaaGreat.tsr
