
import Derived.Test.YtiilamngcoegiaaGreatPk13
namespace Go.Proofs.YtiilamngcoegiaaGreat.tsq
open Go.ChangeShapes Go.WideShapes Go.ChangeAt Go.RowKit
open mem split subs setm sets sortm sortp sorti sortu rowl sigm sigs sigk trm tsa tsm tsj tsn tsp
def Tab (U:List Nat)(D:List (List Int×Int))(A:List Nat)(p s i c:Nat)(T:List Nat):Prop:=
 T.length=p*p∧∀ a b,a≤b→b<p→T.getD (a*p+b) 0=if b+1-a<s∨(b+1-a=s∧a<i) then V false U D A (iv a b) else if b+1-a=s∧a=i then c else 0
section
variable {U:List Nat} {D:List (List Int×Int)} {A:List Nat} {p s i c:Nat} {T:List Nat}
theorem qwx {a b x y:Nat}(hb:b<p)(hy:y<p)(h:a*p+b=x*p+y):a=x∧b=y:=by
 rcases Nat.lt_trichotomy a x with h1|h1|h1
 ·have:=Nat.mul_le_mul_right p (show a+1≤x from h1);rw [Nat.add_mul,Nat.one_mul] at this;omega
 ·subst h1;exact ⟨rfl,by omega⟩
 ·have:=Nat.mul_le_mul_right p (show x+1≤a from h1);rw [Nat.add_mul,Nat.one_mul] at this;omega
theorem qCg {a b:Nat}(ha:a<p)(hb:b<p):a*p+b<p*p:=by
 have:=Nat.mul_le_mul_right p (show a+1≤p from ha);rw [Nat.add_mul,Nat.one_mul] at this;omega
theorem Tab.zero:Tab U D A p 1 0 0 (List.replicate (p*p) 0):=by
 refine ⟨by simp,fun a b aa hb=>?_⟩;rw [if_neg o_];have:(List.replicate (p*p) 0).getD (a*p+b) 0=0:=by
  rw [List.getD_eq_getElem?_getD,List.getElem?_replicate];split<;>rfl
 rw [this];split<;>rfl
theorem Tab.store (h:Tab U D A p s i c T)(hs:1≤s)(hi:i+s≤p)(c':Nat):Tab U D A p s i c' (T.set (i*p+(i+s-1)) c'):=by
 have hx:i*p+(i+s-1)<T.length:=by rw [h.1];exact qCg o_ o_
 refine ⟨by rw [List.length_set];exact h.1,fun a b aa hb=>?_⟩;rw [qct _ _ hx,h.2 a b aa hb];by_cases e:a*p+b=i*p+(i+s-1)
 ·obtain ⟨e1,e2⟩:=qwx hb o_ e
  rw [if_pos e,if_neg o_,if_pos o_]
 ·rw [if_neg e]
  by_cases h1:b+1-a<s∨(b+1-a=s∧a<i)
  ·rw [if_pos h1,if_pos h1]
  ·rw [if_neg h1,if_neg h1,if_neg,if_neg]
   ·rintro ⟨h2,h3⟩;subst h3;apply e;rw [show b=a+s-1 by omega]
   ·rintro ⟨h2,h3⟩;subst h3;apply e;rw [show b=a+s-1 by omega]
theorem Tab.here (h:Tab U D A p s i c T)(hs:1≤s)(hi:i+s≤p):T.getD (i*p+(i+s-1)) 0=c:=by
 rw [h.2 i (i+s-1) o_ o_,if_neg o_,if_pos o_]
theorem Tab.next (h:Tab U D A p s i c T)(hs:1≤s)(hc:c=V false U D A (iv i (i+s-1))):Tab U D A p s (i+1) 0 T:=by
 refine ⟨h.1,fun a b aa hb=>?_⟩;rw [h.2 a b aa hb];by_cases h1:b+1-a<s∨(b+1-a=s∧a<i)
 ·rw [if_pos h1,if_pos o_]
 ·rw [if_neg h1]
  by_cases h2:b+1-a=s∧a=i
  ·rw [if_pos h2,if_pos o_,hc,h2.2,show b=i+s-1 by omega]
  ·rw [if_neg h2,if_neg o_]
   split<;>rfl
theorem Tab.up (h:Tab U D A p s i 0 T)(hi:p<i+s):Tab U D A p (s+1) 0 0 T:=by
 refine ⟨h.1,fun a b aa hb=>?_⟩;rw [h.2 a b aa hb];by_cases h1:b+1-a<s∨(b+1-a=s∧a<i)
 ·rw [if_pos h1,if_pos o_]
 ·have hn:¬ (b+1-a<s+1∨(b+1-a=s+1∧a<0)):=o_
  rw [if_neg h1,if_neg hn];split<;>split<;>rfl
theorem Tab.read (h:Tab U D A p s i c T){a b:Nat}(aa:a≤b)(hb:b<p)(hl:b+1-a<s):T.getD (a*p+b) 0=V false U D A (iv a b):=by
 rw [h.2 a b aa hb,if_pos (.inl hl)]
theorem Tab.final (h:Tab U D A p (p+1) i c T)(hp:1≤p):T.getD (p-1) 0=V false U D A (2 ^ p-1):=by
 have:=h.2 0 (p-1) y_ o_;rw [Nat.zero_mul,Nat.zero_add] at this;rw [this,if_pos o_,qys p hp]
end
theorem qo4 (n:Nat):(madeCells #[Value.int .i64 0] n).toList=ivs (nats (List.replicate n 0)):=by
 simp [madeCells,ivs,nats,Nat.mod_one,List.map_const']
theorem qtc {U:List Nat}(hU:Lim U)(D:List (List Int×Int))(A:List Nat)(i j k:Nat):qdo U D A i j k<2 ^ U.length:=qnm _ _ _ fun _ _=>qiw hU _
theorem qcz (w:World)(x y:Nat):Has (w.alloc (.cells #[.int .i64 (x:Int),.int .i64 (y:Int)] 3)) (.slice (some ⟨w.heap.size,0,none⟩) 2 2) (ivs (nats [x,y])):=by
 refine ⟨_,2,rfl,by simp [ivs,nats],by unfold maxLen;omega,fun j v hv=>⟨w.heap.size,0,rfl,by simp,?_⟩⟩;match j,hv with
 | 0,hv=>simp [ivs,nats] at hv;subst hv;simp
 | 1,hv=>simp [ivs,nats] at hv;subst hv;simp
abbrev SChn (x g o gt k1 k2:Nat)(v0 v1 v2 vd:Value)(c1 c2:Nat)(w:World):Prop:=((w.cell? ⟨x,0,none⟩=some v0∧w.cell? ⟨x,1,none⟩=some v1∧w.cell? ⟨x,2,none⟩=some v2)∧w.cell? ⟨g,o+1,none⟩=some vd)∧w.cell? ⟨gt,k1,none⟩=some (.int .i64 (c1:Int))∧w.cell? ⟨gt,k2,none⟩=some (.int .i64 (c2:Int))
theorem SChn.below {x g o gt k1 k2:Nat}{v0 v1 v2 vd:Value}{c1 c2:Nat}{W w:World}(h:SChn x g o gt k1 k2 v0 v1 v2 vd c1 c2 W)(hb:Below W.heap.size W w):SChn x g o gt k1 k2 v0 v1 v2 vd c1 c2 w:=by
 have k:∀ {a:Addr} {v:Value},W.cell? a=some v→w.cell? a=some v:=fun {a v} h=>(hb.cell (p:=a) (l_ h)).trans h
 exact ⟨⟨⟨k h.1.1.1,k h.1.1.2.1,k h.1.1.2.2⟩,k h.1.2⟩,k h.2.1,k h.2.2⟩
theorem SChn.set {x g o gt k1 k2:Nat}{v0 v1 v2 vd:Value}{c1 c2:Nat}{w:World}(h:SChn x g o gt k1 k2 v0 v1 v2 vd c1 c2 w)(hx:x≠gt)(hg:g≠gt){j:Nat}(h1:j≠k1)(h2:j≠k2)(u:Value):SChn x g o gt k1 k2 v0 v1 v2 vd c1 c2 (w.setCell ⟨gt,j,none⟩ u):=by
 have k:∀ b y,b≠gt→(w.setCell ⟨gt,j,none⟩ u).cell? ⟨b,y,none⟩=w.cell? ⟨b,y,none⟩:=fun b y hb=>World.cell?_setCell_other w ⟨gt,j,none⟩ ⟨b,y,none⟩ u (fun e=>hb (by injection e with e _ _;exact e.symm))
 have aa:∀ y,j≠y→(w.setCell ⟨gt,j,none⟩ u).cell? ⟨gt,y,none⟩=w.cell? ⟨gt,y,none⟩:=fun y hy=>World.cell?_setCell_other w ⟨gt,j,none⟩ ⟨gt,y,none⟩ u (fun e=>hy (by injection e))
 unfold SChn;rw [k x _ hx,k x _ hx,k x _ hx,k g _ hg,aa k1 h1,aa k2 h2];exact h
theorem c95_ {p:Prop}(h:p:=by
 (try dsimp only);first|exact SChn.below HS.out (by first|exact b_.drew|exact aa.out _|exact ab.out)|exact ad.out _
):p:=h
set_option maxRecDepth 50000 in
set_option maxHeartbeats 8000000 in
theorem qpt (P:List (List UInt8))(Q:List (Int×Int))(O:List OpM)(aT:qad P Q O=true)(k:Nat)(hk:k<O.length)(A:List Nat)(bs:ar (O.getD k default)=2)(h2:2≤A.length)(h7:A.length≤7)(hA:∀ i,A.getD i 0<2 ^ P.length)(va vb vc vs:Value)(w:World)(h:HasG w va vb vc P Q O)(h1:Has w vs (ivs (nats A))):
  Calls Tryz.prog 181 #[.agg #[va,vb,vc],.int .i64 (k:Int),vs] w fun e w'=>e=.returned (.int .i64 ((V false (clo P.length (prs Q)) (O.getD k default).decls A (2 ^ A.length-1):Nat):Int))∧Below w.heap.size w w':=by
 have am:=(qa9 aT).1;obtain ⟨p1,p2,p3,p4,_⟩:=qax am;have ag:=qgx am;have aN:=qc3 P.length (prs Q);have bt:=pow8 p2;have aU:=z_ (fun W (hW:Below w.heap.size w W)=>qg5 P Q p1 p2 o_ p3 va vb W (h.s.below n_ hW));obtain ⟨A1,c1,A2,c2,A3,c3,rfl,rfl,rfl,_,_,_,h'⟩:=h.shape;obtain ⟨g,o,Ad,cd,rfl,_,hg,_,e1,_,_,_,hD,_,_⟩:=qcg h'.o hk;have bu:DeclN (clo P.length (prs Q)).length 2 (O.getD k default).decls:=by rw [aN,← bs];exact qz6 aT hk
 have aO:=z_ (fun W vu (x y:Nat) (hx:x<65536) (hy:y<65536) va (hW:Below w.heap.size w W) (hu:Has W vu (ivs (nats (clo P.length (prs Q))))) (h1:Has W va (ivs (nats [x,y])))=>qgy (clo P.length (prs Q)) ag (O.getD k default).decls [x,y] bu (fun i=>by
  match i with
  | 0=>exact hx
  | 1=>exact hy
  | i+2=>simp) vu _ va W hu (hD.below qa7 n_ hW) h1)
 have bv:∀ i,A.getD i 0<2 ^ (clo P.length (prs Q)).length:=fun i=>by rw [aN];exact hA i
 have ay:=z_ (fun g=>V_lt false (clo P.length (prs Q)) (O.getD k default).decls A ag bv g);have az:=z_ (fun i j k'=>qtc ag (O.getD k default).decls A i j k');have aV:=z_ (fun i (h:i<16)=>qvv false (clo P.length (prs Q)) (O.getD k default).decls A h);have aW:=z_ (fun i j k'=>qnq (clo P.length (prs Q)) (O.getD k default).decls A i j k');have aX:=z_ (fun i j (h:i<j) (hj:j<7)=>qpd (clo P.length (prs Q)) (O.getD k default).decls A h hj);rw [aN] at ay az;obtain ⟨U,hU⟩:=e_ (clo P.length (prs Q));rw [← hU] at aO ay az aV aW aX aU ⊢;obtain ⟨DD,bw⟩:=e_ ((O.getD k default).decls);rw [← bw] at aO ay az aV aW aX e1 ⊢;obtain ⟨p,hp⟩:=e_ (A.length);obtain ⟨As,cs,rfl,h1⟩:=h1.shape (n:=p) (by rw [qas,qac,hp]);have ct:=h1.len.2;have bT:=z_ h1;have HP:=z_ hp;have bU:=z_ hA;rw [← hp] at h2 h7 ⊢;have bx:Hid (∀ T i c,Tab U DD A p (p+1) i c T→T.getD (p-1) 0=V false U DD A (2 ^ p-1)):=z_ (fun T i c h=>h.final o_);obtain ⟨vr,bz⟩:=e_ (V false U DD A (2 ^ p-1));rw [← bz] at bx ⊢;obtain ⟨dl,bA⟩:=e_ (DD.length);rw [← bA] at aO e1;obtain ⟨m1,aP⟩:=e_ (P.length);obtain ⟨m2,aY⟩:=e_ (Q.length);obtain ⟨m3,bB⟩:=e_ (O.length);have i1:(0:Int)≤(k:Int):=o_;have i2:(k:Int)<(m3:Int):=o_;rw [← aP] at bt ay az bU;rw [← aP,← aY] at aU;rw [← aP,← aY,← bB];obtain ⟨W,hW⟩:=e_ (w.alloc (.cells #[.slice A1 m1 c1,.slice A2 m2 c2,.slice (some ⟨g,o,none⟩) m3 c3] 46));have aZ:=fr1_ hW;have a6:SApp w.heap.size g (o+k*5) (.slice A1 m1 c1) (.slice A2 m2 c2) (.slice (some ⟨g,o,none⟩) m3 c3) (.slice Ad dl cd) W W:=by
  refine ⟨⟨?_,(aZ.cell (p:=⟨g,o+k*5+1,none⟩) hg).trans e1⟩,Below.refl _ _⟩;rw [hW];exact tsl.box3 (termt.qa5 _ _ _ rfl)
 have bC:=fr3_ hW;have a7:=z_ aZ;have bV:=z_ a6;have HZ:=z_ bC;obtain ⟨j0,bW,bX,bY,bZ⟩:=info_parts qdf;have b0:p*p≤49:=Nat.mul_le_mul h7 h7;have a8:2*2≤p*p:=Nat.mul_le_mul h2 h2;obtain ⟨pp,ah⟩:=e_ (p*p);have ba:=z_ ah;have aC:(p:Int)*(p:Int)=(pp:Int):=by rw [ah];push_cast;rfl
 have aQ:IntKind.i64.wrap ((p:Int)*(p:Int))=(pp:Int):=by rw [aC,IntKind.wrap_i64];omega
 have bb:p≤p*p:=Nat.le_mul_of_pos_left p o_;rw [← ah] at b0 a8 bb;obtain ⟨⟨z0,z1,z2⟩,z3⟩:=a6.1;clear h h' h1 hA am p1 p2 p3 p4 ag aN e1 hD bu bv bz bA aP aY bB aZ a6 aT hk hU bw hp bC ah aC bs z3;go_enter Tryz.func181,Tryz.ntmps181
 go_wp2_with fail
 rw [← hW];clear hW
 go_wp2_with (first
  | (go_at_call 179;refine (aU.out W a7.out).mono ?_;rintro e w1 ⟨cv,rfl,hown,bD⟩;obtain ⟨Au,cu,rfl,_⟩:=qae hown;have HU:=z_ (Has.of_own hown);have bc:Hid (Below W.heap.size W w1):=z_ bD;have bd:Hid (Below w.heap.size w w1):=z_ (a7.out.trans (bc.out.mono a7.out.size));clear hown bD z0 z1 z2)
  | (at_make;refine wpList_make_full _ rfl _ _ 60 rfl w1.heap.size 3 j0 (.int .i64 0) 1 Tryz.underlying60 bW bX bY _ _ _ _ pp rfl rfl (by first|rfl|exact aQ|(simp;exact aQ)) (by first|rfl|exact aQ|(simp;exact aQ)) (by rw [bZ];omega) (by unfold maxLen;omega) n_ ?_))
 intro w2 hown ak;rw [qo4] at hown;obtain ⟨gt,hgt⟩:=e_ (w1.heap.size);rw [← hgt] at hown ⊢;have hb2:Below gt w1 w2:=by rw [hgt];exact (Below.refl w1.heap.size w1).grown ak n_ (by intro k hk;cases hk)
 have b1:=z_ hb2;have be:=z_ hown;have b2:=z_ hgt;have b3:w.heap.size+1≤gt:=by rw [hgt];have:=bc.out.size;rw [HZ.out] at this;exact this
 have bE:=z_ (bV.out.of bc.out);have b4:g<gt:=by rw [hgt];exact l_ bE.out.1.2
 have b5:Hid (∀ wr,Below gt w1 wr→(wr.cell? ⟨w.heap.size,0,none⟩=some (.slice A1 m1 c1)∧wr.cell? ⟨w.heap.size,1,none⟩=some (.slice A2 m2 c2)∧wr.cell? ⟨w.heap.size,2,none⟩=some (.slice (some ⟨g,o,none⟩) m3 c3))∧wr.cell? ⟨g,o+k*5+1,none⟩=some (.slice Ad dl cd)):=z_ (fun wr hb=>by
  have k1:∀ y,wr.cell? ⟨w.heap.size,y,none⟩=w1.cell? ⟨w.heap.size,y,none⟩:=fun y=>hb.cell (p:=⟨w.heap.size,y,none⟩) (by show w.heap.size<gt;omega)
  have k2:∀ y,wr.cell? ⟨g,y,none⟩=w1.cell? ⟨g,y,none⟩:=fun y=>hb.cell (p:=⟨g,y,none⟩) b4
  rw [k1,k1,k1,k2]
  exact bE.out.1)
 have bf:Hid (∀ wr,Below gt w1 wr→Below w.heap.size w wr):=z_ (fun wr hb=>bd.out.trans (hb.mono o_));have b6:Hid (∀ wr,Below gt w1 wr→Has wr (.slice Au m1 cu) (ivs (nats U))):=z_ (fun wr hb=>HU.out.below n_ (b2.out ▸ hb));clear hown ak hb2 hgt;go_wp2;go_loopw [10] (fun b7 wr=>∃ (s:Nat) (T:List Nat),b7=.int .i64 s∧1≤s∧s≤p+1∧Hid (Tab U DD A p s 0 0 T)∧Hid (wr.ownsRow gt 3 1 (.slice (some ⟨gt,0,none⟩) pp pp) pp (ivs (nats T)))∧Hid (Below gt w1 wr)) (fun v _=>p+1-(intOf v).toNat)
 case atStart=>exact ⟨1,List.replicate pp 0,rfl,Nat.le_refl _,by omega,z_ (by rw [ba.out];exact Tab.zero),be,b1⟩
 case round=>
  obtain ⟨s,T,rfl,aD,cw,HT,HO,HB⟩:=hrel;by_cases hlt:s≤p
  ·have d1:decide ((s:Int)≤(p:Int))=true:=d_
   go_wp2;go_loopw [11] (fun b8 wr=>∃ (i:Nat) (T:List Nat),b8=.int .i64 i∧i+s≤p+1∧Hid (Tab U DD A p s i 0 T)∧Hid (wr.ownsRow gt 3 1 (.slice (some ⟨gt,0,none⟩) pp pp) pp (ivs (nats T)))∧Hid (Below gt w1 wr)) (fun v _=>p+1-(intOf v).toNat)
   case atStart=>exact ⟨0,T,rfl,by omega,HT,HO,HB⟩
   case round=>
    clear HT HO HB;obtain ⟨i,T,rfl,cx,HT,HO,HB⟩:=hrel;obtain ⟨e,he⟩:=e_ (i+s);have bg:IntKind.i64.wrap ((i:Int)+(s:Int))=(e:Int):=by rw [IntKind.wrap_i64];omega
    by_cases b9:e≤p
    ·have d2:decide ((e:Int)≤(p:Int))=true:=d_
     have an:i*p+p≤p*p:=by
      have:=Nat.mul_le_mul_right p (show i+1≤p by omega);rw [Nat.add_mul,Nat.one_mul] at this;exact this
     rw [← ba.out] at an;obtain ⟨ip,ae⟩:=e_ (i*p);rw [← ae] at an;have bF:IntKind.i64.wrap ((i:Int)*(p:Int))=(ip:Int):=by
      have:(i:Int)*(p:Int)=(ip:Int):=by rw [ae];push_cast;rfl
      rw [this,IntKind.wrap_i64];omega
     by_cases hs:s=1
     ·obtain ⟨ga,oa,rfl,cy,bG⟩:=(bT.out.below n_ (bf.out _ HB.out)).cellAt (j:=i) o_
      rw [qz7 (by have:=HP.out;omega)] at bG;obtain ⟨x1,aA⟩:=e_ (ip+i);have aE:IntKind.i64.wrap ((ip:Int)+(i:Int))=(x1:Int):=by rw [IntKind.wrap_i64];omega
      have ca:x1<pp:=o_;obtain ⟨q1,q2⟩:=qbe HO.out ca;obtain ⟨av,bh⟩:=e_ (A.getD i 0);rw [← bh] at bG
      have ai:Hid (Tab U DD A p s (i+1) 0 (T.set x1 av)):=z_ (by
       have h9:=(HT.out.store aD o_ av).next aD (by
        rw [show i+s-1=i by omega,qCa,aV.out i o_,bh])
       rw [show i*p+(i+s-1)=x1 by rw [aA,ae,show i+s-1=i by omega]] at h9
       exact h9)
      have cc:Hid ((wr.setCell ⟨gt,x1,none⟩ (.int .i64 (av:Int))).ownsRow gt 3 1 (.slice (some ⟨gt,0,none⟩) pp pp) pp (ivs (nats (T.set x1 av)))):=z_ (by
       have h9:=qa4 HO.out x1 (.int .i64 (av:Int));rw [qcp,qbz] at h9
       exact h9)
      have ce:=z_ (HB.out.setCell (p:=⟨gt,x1,none⟩) n_ (.int .i64 (av:Int)));have j1:(0:Int)≤(i:Int):=o_;have j2:(i:Int)<(p:Int):=o_;have j3:(0:Int)≤(x1:Int):=o_;have j4:(x1:Int)<(pp:Int):=o_;subst hs;clear bh aA ae;go_wp2;go_roundw
      case rel=>exact ⟨i+1,_,by go_num,by omega,ai,cc,ce⟩
      case measure=>simp [intOf];omega
     ·have d3:((s:Int)==1)=false:=by simp;omega
      have d4:decide ((s:Int)=1)=false:=f_;obtain ⟨j,hj⟩:=e_ (i+s-1);have cf:IntKind.i64.wrap ((e:Int)-1)=(j:Int):=by rw [IntKind.wrap_i64];omega
      have cg:Hid (qdo U DD A i j 0=0):=z_ rfl;have HJ:=z_ (And.intro hj (And.intro he ae));have bi:i≤j:=o_;have cz:j<p:=o_;have ch:i+s≤p:=o_;clear hj he ae;go_wp2;go_loopw [13] (fun ci wr=>∃ (kx kk c:Nat) (T:List Nat),ci=.int .i64 kx∧Hid (kx=i+kk)∧kx≤j∧Hid (c=qdo U DD A i j kk)∧Hid (Tab U DD A p s i c T)∧Hid (wr.ownsRow gt 3 1 (.slice (some ⟨gt,0,none⟩) pp pp) pp (ivs (nats T)))∧Hid (Below gt w1 wr)) (fun v _=>j-(intOf v).toNat)
      case atStart=>exact ⟨i,0,0,T,rfl,z_ rfl,bi,z_ cg.out.symm,HT,HO,HB⟩
      case round=>
       clear HT HO HB;obtain ⟨kx,kk,c,T,rfl,aR,cA,HC,HT,HO,HB⟩:=hrel;obtain ⟨hj,he,ae⟩:=HJ.out;have bj:=aR.out;by_cases cB:kx<j
       ·obtain ⟨ky,bk⟩:=e_ (kx+1)
        have cC:IntKind.i64.wrap ((kx:Int)+1)=(ky:Int):=by rw [IntKind.wrap_i64];omega
        have ao:ky*p+p≤p*p:=by
         have:=Nat.mul_le_mul_right p (show ky+1≤p by omega);rw [Nat.add_mul,Nat.one_mul] at this;exact this
        rw [← ba.out] at ao;obtain ⟨kp,aF⟩:=e_ (ky*p);rw [← aF] at ao;have bH:IntKind.i64.wrap ((ky:Int)*(p:Int))=(kp:Int):=by
         have:(ky:Int)*(p:Int)=(kp:Int):=by rw [aF];push_cast;rfl
         rw [this,IntKind.wrap_i64];omega
        obtain ⟨x1,aA⟩:=e_ (ip+j);obtain ⟨x2,bI⟩:=e_ (ip+kx);obtain ⟨x3,bJ⟩:=e_ (kp+j);have aE:IntKind.i64.wrap ((ip:Int)+(j:Int))=(x1:Int):=by rw [IntKind.wrap_i64];omega
        have bK:IntKind.i64.wrap ((ip:Int)+(kx:Int))=(x2:Int):=by rw [IntKind.wrap_i64];omega
        have bL:IntKind.i64.wrap ((kp:Int)+(j:Int))=(x3:Int):=by rw [IntKind.wrap_i64];omega
        obtain ⟨q1,f1⟩:=qbe HO.out (show x1<pp by omega);obtain ⟨q2,_⟩:=qbe HO.out (show x2<pp by omega);obtain ⟨q3,_⟩:=qbe HO.out (show x3<pp by omega);have ap:x1≠x2:=o_
        have aq:x1≠x3:=fun e=>by
         have:=qwx (p:=p) (a:=i) (b:=j) (x:=ky) (y:=j) o_ o_ (by rw [← ae,← aF];omega);omega
        have e1:T.getD x1 0=c:=by
         have:=HT.out.here aD o_;rw [← ae,← hj,← aA] at this;exact this
        have e2:T.getD x2 0=V false U DD A (iv i kx):=by
         have:=HT.out.read (a:=i) (b:=kx) o_ o_ o_;rw [← ae,← bI] at this;exact this
        have e3:T.getD x3 0=V false U DD A (iv ky j):=by
         have:=HT.out.read (a:=ky) (b:=j) o_ o_ o_;rw [← aF,← bJ] at this;exact this
        rw [e1] at q1;rw [e2] at q2;rw [e3] at q3;have cj:c<256:=by rw [HC.out];exact w_ (az.out i j kk) bt
        have bM:=ay.out (iv i kx);have bN:=ay.out (iv ky j);have aj:=z_ (aW.out i j kk);rw [← HC.out,← bj,← bk] at aj;have ck:=az.out i j (kk+1);obtain ⟨a2,bO⟩:=e_ (V false U DD A (iv i kx));obtain ⟨a3,bP⟩:=e_ (V false U DD A (iv ky j));rw [← bO] at q2 bM aj;rw [← bP] at q3 bN aj;have aS:=z_ (fun W vu va hW hu h1=>aO.out W vu a2 a3 o_ o_ va hW hu h1);have bQ:upC U (giveR DD [a2,a3])<256:=by
         have h9:upC U (giveR DD [a2,a3])≤qdo U DD A i j (kk+1):=by rw [aj.out];exact Nat.right_le_or
         omega
        obtain ⟨gv,bR⟩:=e_ (upC U (giveR DD [a2,a3]));rw [← bR] at aS aj bQ;have cl:=qjf c gv o_ o_;obtain ⟨cn,aG⟩:=e_ (c ||| gv);rw [← aG] at cl aj
        have ai:Hid (Tab U DD A p s i cn (T.set x1 cn)):=z_ (by
         have h9:=HT.out.store aD o_ cn;rw [← ae,← hj,← aA] at h9
         exact h9)
        have HS:Hid (SChn w.heap.size g (o+k*5) gt x2 x3 (.slice A1 m1 c1) (.slice A2 m2 c2) (.slice (some ⟨g,o,none⟩) m3 c3) (.slice Ad dl cd) a2 a3 wr):=z_ ⟨b5.out wr HB.out,q2,q3⟩;have aB:=z_ (bf.out wr HB.out);have bl:=z_ (b6.out wr HB.out);have af:gt<wr.heap.size:=l_ q1;have j1:(0:Int)≤(x1:Int):=o_;have j2:(x1:Int)<(pp:Int):=o_;have j3:(0:Int)≤(x2:Int):=o_;have j4:(x2:Int)<(pp:Int):=o_;have j5:(0:Int)≤(x3:Int):=o_;have j6:(x3:Int)<(pp:Int):=o_;have cm:x3≤49:=o_;have d5:decide ((kx:Int)<(j:Int))=true:=d_;have au:∀ ob,Below wr.heap.size wr (wr.alloc ob).drew:=fun ob=>(b_.alloc n_ ob).drew
        have aa:=z_ au;have cD:∀ ob,(wr.alloc ob).drew.cell? ⟨gt,x1,none⟩=some (.int .i64 (c:Int)):=fun ob=>((au ob).cell (p:=⟨gt,x1,none⟩) af).trans q1
        have aw:w.heap.size≠gt:=o_;have ax:g≠gt:=o_;have aH:kx+1=ky:=bk.symm;have ac:=z_ aH;clear aH bj bk au bO bP bR aG e1 e2 e3 aA bI bJ ae aF ao an bg he b9 hj ck bM bN bQ;go_wp2_with fail
        refine wp_region_noPanic ?_;refine wp_region_held_drew (S:=(SChn w.heap.size g (o+k*5) gt x2 x3 (.slice A1 m1 c1) (.slice A2 m2 c2) (.slice (some ⟨g,o,none⟩) m3 c3) (.slice Ad dl cd) a2 a3)) k_ ?_ (fun aI=>?_)
        ·first|exact SChn.below HS.out (by first|exact b_.drew|exact aa.out _|exact ab.out)|exact ad.out _
        refine t_k 0 ?_;refine t_k 1 ?_;refine t_k 2 ?_;refine t_k 3 ?_;refine t_k 4 ?_;refine t_k 5 ?_;refine t_k 6 ?_;refine t_k 7 ?_;refine t_k 8 ?_;refine t_k 9 ?_;refine t_k 10 ?_;refine t_k 11 ?_;refine t_k 12 ?_;refine t_k 14 ?_;refine t_k 15 ?_;refine t_k 16 ?_;refine t_k 17 ?_;refine t_k 18 ?_;refine t_k 19 ?_;refine t_k 20 ?_;refine t_k 21 ?_;refine t_k 22 ?_;refine t_k 23 ?_;refine t_k 24 ?_;refine t_k 25 ?_;refine t_k 26 ?_;refine t_k 27 ?_;refine t_k 28 ?_;refine t_k 29 ?_;refine t_k 30 ?_;refine t_k 31 ?_;refine t_k 32 ?_;refine t_k 33 ?_;refine t_k 34 ?_;refine t_k 35 ?_;refine t_k 36 ?_;refine t_k 37 ?_;refine r_d [13,38] ?_;refine c_s (fun K hK=>?_) ?_
        ·go_simp
         refine k_o hK ?_ (fun bm=>?_)
         ·exact c95_
         clear hK K aI;refine r_d [38] ?_;refine c_s (fun K hK=>?_) ?_
         ·go_simp
          refine k_o hK ?_ (fun bn=>?_)
          ·exact c95_
          clear hK K bm;refine r_d [39] ?_;refine c_s (fun K hK=>?_) ?_
          ·(go_simp;refine (aS.out _ _ _ (aB.out.trans ((aa.out _).mono aB.out.size)) (bl.out.below n_ (aa.out _)) (qcz _ a2 a3)).mono ?_;rintro e w5 ⟨rfl,al⟩;have ab:Hid (Below wr.heap.size wr w5):=z_ ((aa.out (.cells #[.int .i64 (a2:Int),.int .i64 (a3:Int)] 3)).trans (al.mono (aa.out _).size));have q5:=(ab.out.cell (p:=⟨gt,x1,none⟩) af).trans q1;have f5:=(ab.out.frozen (p:=⟨gt,x1,none⟩) af).trans f1;have ad:Hid (∀ u,SChn w.heap.size g (o+k*5) gt x2 x3 (.slice A1 m1 c1) (.slice A2 m2 c2) (.slice (some ⟨g,o,none⟩) m3 c3) (.slice Ad dl cd) a2 a3 (w5.setCell ⟨gt,x1,none⟩ u)):=z_ (fun u=>(SChn.below HS.out ab.out).set aw ax ap aq u);clear al;(try dsimp only))
           refine k_o hK ?_ (fun bo=>?_)
           ·exact c95_
           clear hK K bn;refine t_k 40 ?_;refine t_k 41 ?_;refine r_d [42] ?_;refine c_s (fun K hK=>?_) ?_
           ·go_simp
            refine k_o hK ?_ (fun co=>?_)
            ·exact c95_
            clear hK K bo;refine wpAnyH_done k_ ?_ _;refine NoPanic.normal ?_
            have aJ:Hid ((w5.setCell ⟨gt,x1,none⟩ (.int .i64 (cn:Int))).ownsRow gt 3 1 (.slice (some ⟨gt,0,none⟩) pp pp) pp (ivs (nats (T.set x1 cn)))):=z_ (by
             have h9:=qa4 (qa2 HO.out ab.out) x1 (.int .i64 (cn:Int));rw [qcp,qbz] at h9
             exact h9)
            have aK:=z_ ((HB.out.trans (ab.out.mono (Nat.le_of_lt af))).setCell (p:=⟨gt,x1,none⟩) n_ (.int .i64 (cn:Int)));clear q5 f5;go_wp2;go_roundw
            case rel=>exact ⟨ky,kk+1,cn,_,by first|rfl|(rw [← ac.out];go_num),z_ (by have:=aR.out;have:=ac.out;omega),by have:=ac.out;omega,z_ aj.out.symm,ai,aJ,aK⟩
            case measure=>have:=ac.out;simp [intOf];omega
           exact a_l
          exact a_l
         exact a_l
        refine c_s (fun K hK=>?_) ?_
        ·go_simp
         refine k_o hK ?_ (fun aL=>?_)
         ·exact c95_
         clear hK K aI;refine r_d [13,39] ?_;refine c_s (fun K hK=>?_) ?_
         ·go_simp
          refine k_o hK ?_ (fun bp=>?_)
          ·exact c95_
          clear hK K aL;refine r_d [39] ?_;refine c_s (fun K hK=>?_) ?_
          ·(go_simp;refine (aS.out _ _ _ (aB.out.trans ((aa.out _).mono aB.out.size)) (bl.out.below n_ (aa.out _)) (qcz _ a2 a3)).mono ?_;rintro e w5 ⟨rfl,al⟩;have ab:Hid (Below wr.heap.size wr w5):=z_ ((aa.out (.cells #[.int .i64 (a2:Int),.int .i64 (a3:Int)] 3)).trans (al.mono (aa.out _).size));have q5:=(ab.out.cell (p:=⟨gt,x1,none⟩) af).trans q1;have f5:=(ab.out.frozen (p:=⟨gt,x1,none⟩) af).trans f1;have ad:Hid (∀ u,SChn w.heap.size g (o+k*5) gt x2 x3 (.slice A1 m1 c1) (.slice A2 m2 c2) (.slice (some ⟨g,o,none⟩) m3 c3) (.slice Ad dl cd) a2 a3 (w5.setCell ⟨gt,x1,none⟩ u)):=z_ (fun u=>(SChn.below HS.out ab.out).set aw ax ap aq u);clear al;(try dsimp only))
           refine k_o hK ?_ (fun bq=>?_)
           ·exact c95_
           clear hK K bp;refine t_k 40 ?_;refine t_k 41 ?_;refine r_d [42] ?_;refine c_s (fun K hK=>?_) ?_
           ·go_simp
            refine k_o hK ?_ (fun cp=>?_)
            ·exact c95_
            clear hK K bq;refine wpAnyH_done k_ ?_ _;refine NoPanic.normal ?_
            have aJ:Hid ((w5.setCell ⟨gt,x1,none⟩ (.int .i64 (cn:Int))).ownsRow gt 3 1 (.slice (some ⟨gt,0,none⟩) pp pp) pp (ivs (nats (T.set x1 cn)))):=z_ (by
             have h9:=qa4 (qa2 HO.out ab.out) x1 (.int .i64 (cn:Int));rw [qcp,qbz] at h9
             exact h9)
            have aK:=z_ ((HB.out.trans (ab.out.mono (Nat.le_of_lt af))).setCell (p:=⟨gt,x1,none⟩) n_ (.int .i64 (cn:Int)));clear q5 f5;go_wp2;go_roundw
            case rel=>exact ⟨ky,kk+1,cn,_,by first|rfl|(rw [← ac.out];go_num),z_ (by have:=aR.out;have:=ac.out;omega),by have:=ac.out;omega,z_ aj.out.symm,ai,aJ,aK⟩
            case measure=>have:=ac.out;simp [intOf];omega
           exact a_l
          exact a_l
         refine c_s (fun K hK=>?_) ?_
         ·(go_simp;refine (aS.out _ _ _ (aB.out.trans ((aa.out _).mono aB.out.size)) (bl.out.below n_ (aa.out _)) (qcz _ a2 a3)).mono ?_;rintro e w5 ⟨rfl,al⟩;have ab:Hid (Below wr.heap.size wr w5):=z_ ((aa.out (.cells #[.int .i64 (a2:Int),.int .i64 (a3:Int)] 3)).trans (al.mono (aa.out _).size));have q5:=(ab.out.cell (p:=⟨gt,x1,none⟩) af).trans q1;have f5:=(ab.out.frozen (p:=⟨gt,x1,none⟩) af).trans f1;have ad:Hid (∀ u,SChn w.heap.size g (o+k*5) gt x2 x3 (.slice A1 m1 c1) (.slice A2 m2 c2) (.slice (some ⟨g,o,none⟩) m3 c3) (.slice Ad dl cd) a2 a3 (w5.setCell ⟨gt,x1,none⟩ u)):=z_ (fun u=>(SChn.below HS.out ab.out).set aw ax ap aq u);clear al;(try dsimp only))
          refine k_o hK ?_ (fun br=>?_)
          ·exact c95_
          clear hK K aL;refine r_d [13] ?_;refine c_s (fun K hK=>?_) ?_
          ·go_simp
           refine k_o hK ?_ (fun aM=>?_)
           ·exact c95_
           clear hK K br;refine t_k 40 ?_;refine t_k 41 ?_;refine r_d [42] ?_;refine c_s (fun K hK=>?_) ?_
           ·go_simp
            refine k_o hK ?_ (fun bS=>?_)
            ·exact c95_
            clear hK K aM;refine wpAnyH_done k_ ?_ _;refine NoPanic.normal ?_
            have aJ:Hid ((w5.setCell ⟨gt,x1,none⟩ (.int .i64 (cn:Int))).ownsRow gt 3 1 (.slice (some ⟨gt,0,none⟩) pp pp) pp (ivs (nats (T.set x1 cn)))):=z_ (by
             have h9:=qa4 (qa2 HO.out ab.out) x1 (.int .i64 (cn:Int));rw [qcp,qbz] at h9
             exact h9)
            have aK:=z_ ((HB.out.trans (ab.out.mono (Nat.le_of_lt af))).setCell (p:=⟨gt,x1,none⟩) n_ (.int .i64 (cn:Int)));clear q5 f5;go_wp2;go_roundw
            case rel=>exact ⟨ky,kk+1,cn,_,by first|rfl|(rw [← ac.out];go_num),z_ (by have:=aR.out;have:=ac.out;omega),by have:=ac.out;omega,z_ aj.out.symm,ai,aJ,aK⟩
            case measure=>have:=ac.out;simp [intOf];omega
           exact a_l
          exact a_l
         exact a_l
        exact a_l
       ·obtain rfl:kx=j:=o_
        have ai:Hid (Tab U DD A p s (i+1) 0 T):=z_ (HT.out.next aD (by
         rw [HC.out,show kk=kx-i by omega,aX.out i kx o_ o_,hj]))
        clear hj he ae bj;go_wp2;go_roundw
        case rel=>exact ⟨i+1,T,by go_num,by omega,ai,HO,HB⟩
        case measure=>simp [intOf];omega
    ·have d2:decide ((e:Int)≤(p:Int))=false:=f_
     have ai:Hid (Tab U DD A p (s+1) 0 0 T):=z_ (HT.out.up o_);go_wp2;go_roundw
     case rel=>exact ⟨s+1,T,by go_num,by omega,by omega,ai,HO,HB⟩
     case measure=>simp [intOf];omega
  ·obtain rfl:s=p+1:=o_
   have d1:decide (((p+1:Nat):Int)≤(p:Int))=false:=f_;obtain ⟨x,hx⟩:=e_ (p-1);have cE:IntKind.i64.wrap ((p:Int)-1)=(x:Int):=by rw [IntKind.wrap_i64];omega
   have HQ:=z_ (bx.out T 0 0 HT.out);rw [← hx] at HQ;obtain ⟨q1,_⟩:=qbe HO.out (show x<pp by omega);rw [HQ.out] at q1;have j3:(0:Int)≤(x:Int):=o_;have j4:(x:Int)<(pp:Int):=o_;have cq:=z_ (bf.out _ HB.out);clear hx;go_wp2;go_ret;exact ⟨rfl,cq.out⟩
end Go.Proofs.YtiilamngcoegiaaGreat.tsq
