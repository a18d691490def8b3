/- parts -/
import Derived.Test.YtiilamngcoegiaaGreatQPk12
import Derived.BigQuiet
namespace Go.Proofs.YtiilamngcoegiaaGreat
open Go.ChangeShapes Go.WideShapes Go.ChangeAt Go.RowKit
theorem Bf_{p:Prop}(h:p:=by first|exact b_.drew|exact aa.out _|exact ab.out):p:=h
variable {x m a b y i g o gt k1 k2 c1 c2 j N lo:Nat}{v0 v1 v2 vd u0 u1 u2 u3:Value}{w W:World}{U:List Nat}
namespace tsq
open mem split subs setm sets sortm sortp sorti sortu rowl sigm sigs sigk trm tsa tsm tsj tsn tsp
def Tab (U:List Nat)(D:List (List Int×Int))(A:List Nat)(p s i c:Nat)(T:List Nat):Prop:=
 T.length=p*p∧∀ a b,a≤b→b<p→T.getD (a*p+b) 0=if b+1-a<s∨(b+1-a=s∧a<i) then V false U D A (iv a b) else if b+1-a=s∧a=i then c else 0
section
variable {U:List Nat} {D:List (List Int×Int)} {A:List Nat} {p s i c:Nat} {T:List Nat}
theorem qx7 (hb:b<p)(hy:y<p)(h:a*p+b=x*p+y):a=x∧b=y:=by
 rcases Nat.lt_trichotomy a x with h1|h1|h1
 ·have:=Nat.mul_le_mul_right p (show a+1≤x from h1);rw [Nat.add_mul,Nat.one_mul] at this;omega
 ·subst h1;exact ⟨rfl,by omega⟩
 ·have:=Nat.mul_le_mul_right p (show x+1≤a from h1);rw [Nat.add_mul,Nat.one_mul] at this;omega
theorem qCp (ha:a<p)(hb:b<p):a*p+b<p*p:=by
 have:=Nat.mul_le_mul_right p (show a+1≤p from ha);rw [Nat.add_mul,Nat.one_mul] at this;omega
theorem Tab.zero:Tab U D A p 1 0 0 (List.replicate (p*p) 0):=by
 refine ⟨by simp,fun a b aa hb=>?_⟩;rw [if_neg o_];have:(List.replicate (p*p) 0).getD (a*p+b) 0=0:=by
  rw [List.getD_eq_getElem?_getD,List.getElem?_replicate];split<;>rfl
 rw [this];split<;>rfl
theorem Tab.store (h:Tab U D A p s i c T)(hs:1≤s)(hi:i+s≤p)(c':Nat):Tab U D A p s i c' (T.set (i*p+(i+s-1)) c'):=by
 have hx:i*p+(i+s-1)<T.length:=by rw [h.1];exact qCp o_ o_
 refine ⟨by rw [List.length_set];exact h.1,fun a b aa hb=>?_⟩;rw [qd6 _ _ hx,h.2 a b aa hb];by_cases e:a*p+b=i*p+(i+s-1)
 ·obtain ⟨e1,e2⟩:=qx7 hb o_ e
  rw [if_pos e,if_neg o_,if_pos o_]
 ·rw [if_neg e]
  by_cases h1:b+1-a<s∨(b+1-a=s∧a<i)
  ·rw [if_pos h1,if_pos h1]
  ·rw [if_neg h1,if_neg h1,if_neg,if_neg]
   ·rintro ⟨h2,h3⟩;subst h3;apply e;rw [show b=a+s-1 by omega]
   ·rintro ⟨h2,h3⟩;subst h3;apply e;rw [show b=a+s-1 by omega]
theorem Tab.here (h:Tab U D A p s i c T)(hs:1≤s)(hi:i+s≤p):T.getD (i*p+(i+s-1)) 0=c:=by
 rw [h.2 i (i+s-1) o_ o_,if_neg o_,if_pos o_]
theorem Tab.next (h:Tab U D A p s i c T)(hs:1≤s)(hc:c=V false U D A (iv i (i+s-1))):Tab U D A p s (i+1) 0 T:=by
 refine ⟨h.1,fun a b aa hb=>?_⟩;rw [h.2 a b aa hb];by_cases h1:b+1-a<s∨(b+1-a=s∧a<i)
 ·rw [if_pos h1,if_pos o_]
 ·rw [if_neg h1]
  by_cases h2:b+1-a=s∧a=i
  ·rw [if_pos h2,if_pos o_,hc,h2.2,show b=i+s-1 by omega]
  ·rw [if_neg h2,if_neg o_]
   split<;>rfl
theorem Tab.up (h:Tab U D A p s i 0 T)(hi:p<i+s):Tab U D A p (s+1) 0 0 T:=by
 refine ⟨h.1,fun a b aa hb=>?_⟩;rw [h.2 a b aa hb];by_cases h1:b+1-a<s∨(b+1-a=s∧a<i)
 ·rw [if_pos h1,if_pos o_]
 ·have hn:¬ (b+1-a<s+1∨(b+1-a=s+1∧a<0)):=o_
  rw [if_neg h1,if_neg hn];split<;>split<;>rfl
theorem Tab.read (h:Tab U D A p s i c T)(aa:a≤b)(hb:b<p)(hl:b+1-a<s):T.getD (a*p+b) 0=V false U D A (iv a b):=by
 rw [h.2 a b aa hb,if_pos (.inl hl)]
theorem Tab.final (h:Tab U D A p (p+1) i c T)(hp:1≤p):T.getD (p-1) 0=V false U D A (2 ^ p-1):=by
 have:=h.2 0 (p-1) y_ o_;rw [Nat.zero_mul,Nat.zero_add] at this;rw [this,if_pos o_,qz4 p hp]
end
theorem qoc (n:Nat):(madeCells #[Value.int .i64 0] n).toList=ivs (nats (List.replicate n 0)):=by
 simp [madeCells,ivs,nats,Nat.mod_one,List.map_const']
theorem qtn (hU:Lim U)(D:List (List Int×Int))(A:List Nat)(i j k:Nat):qe1 U D A i j k<2 ^ U.length:=qnv _ _ _ fun _ _=>qjd hU _
theorem qdb (w:World)(x y:Nat):Has (w.alloc (.cells #[.int .i64 (x:Int),.int .i64 (y:Int)] 3)) (.slice (some ⟨w.heap.size,0,none⟩) 2 2) (ivs (nats [x,y])):=by
 refine ⟨_,2,rfl,by simp [ivs,nats],by unfold maxLen;omega,fun j v hv=>⟨w.heap.size,0,rfl,by simp,?_⟩⟩;match j,hv with
 | 0,hv=>simp [ivs,nats] at hv;subst hv;simp
 | 1,hv=>simp [ivs,nats] at hv;subst hv;simp
abbrev SChn (x g o gt k1 k2:Nat)(v0 v1 v2 vd:Value)(c1 c2:Nat)(w:World):Prop:=((w.cell? ⟨x,0,none⟩=some v0∧w.cell? ⟨x,1,none⟩=some v1∧w.cell? ⟨x,2,none⟩=some v2)∧w.cell? ⟨g,o+1,none⟩=some vd)∧w.cell? ⟨gt,k1,none⟩=some (.int .i64 (c1:Int))∧w.cell? ⟨gt,k2,none⟩=some (.int .i64 (c2:Int))
theorem SChn.below (h:SChn x g o gt k1 k2 v0 v1 v2 vd c1 c2 W)(hb:Below W.heap.size W w):SChn x g o gt k1 k2 v0 v1 v2 vd c1 c2 w:=by
 have k:∀ {a:Addr} {v:Value},W.cell? a=some v→w.cell? a=some v:=fun {a v} h=>(hb.cell (p:=a) (l_ h)).trans h
 exact ⟨⟨⟨k h.1.1.1,k h.1.1.2.1,k h.1.1.2.2⟩,k h.1.2⟩,k h.2.1,k h.2.2⟩
theorem SChn.set (h:SChn x g o gt k1 k2 v0 v1 v2 vd c1 c2 w)(hx:x≠gt)(hg:g≠gt)(h1:j≠k1)(h2:j≠k2)(u:Value):SChn x g o gt k1 k2 v0 v1 v2 vd c1 c2 (w.setCell ⟨gt,j,none⟩ u):=by
 have k:∀ b y,b≠gt→(w.setCell ⟨gt,j,none⟩ u).cell? ⟨b,y,none⟩=w.cell? ⟨b,y,none⟩:=fun b y hb=>World.cell?_setCell_other w ⟨gt,j,none⟩ ⟨b,y,none⟩ u (fun e=>hb (by injection e with e _ _;exact e.symm))
 have aa:∀ y,j≠y→(w.setCell ⟨gt,j,none⟩ u).cell? ⟨gt,y,none⟩=w.cell? ⟨gt,y,none⟩:=fun y hy=>World.cell?_setCell_other w ⟨gt,j,none⟩ ⟨gt,y,none⟩ u (fun e=>hy (by injection e))
 unfold SChn;rw [k x _ hx,k x _ hx,k x _ hx,k g _ hg,aa k1 h1,aa k2 h2];exact h
theorem c102_{p:Prop}(h:p:=by
 (try dsimp only);first|exact SChn.below HS.out Bf_|exact ad.out _
):p:=h
set_option maxRecDepth 50000 in
set_option maxHeartbeats 8000000 in
theorem qq3 (P:List (List UInt8))(Q:List (Int×Int))(O:List OpM)(aT:qah P Q O=true)(k:Nat)(hk:k<O.length)(A:List Nat)(bs:ar (O.getD k default)=2)(h2:2≤A.length)(h7:A.length≤7)(hA:∀ i,A.getD i 0<2 ^ P.length)(va vb vc vs:Value)(w:World)(h:HasG w va vb vc P Q O)(h1:Has w vs (ivs (nats A))):
  Calls Tryz.prog 181 #[.agg #[va,vb,vc],.int .i64 (k:Int),vs] w fun e w'=>e=.returned (.int .i64 ((V false (clo P.length (prs Q)) (O.getD k default).decls A (2 ^ A.length-1):Nat):Int))∧Below w.heap.size w w':=by
 have am:=(qa8 aT).1;obtain ⟨p1,p2,p3,p4,_⟩:=qb2 am;have ag:=qh7 am;have aN:=qc9 P.length (prs Q);have bt:=pow8 p2;have aU:=z_ (fun W (hW:Below w.heap.size w W)=>qgd P Q p1 p2 o_ p3 va vb W (h.s.below n_ hW));obtain ⟨A1,c1,A2,c2,A3,c3,rfl,rfl,rfl,_,_,_,h'⟩:=h.shape;obtain ⟨g,o,Ad,cd,rfl,_,hg,_,e1,_,_,_,hD,_,_⟩:=qcm h'.o hk;have bu:DeclN (clo P.length (prs Q)).length 2 (O.getD k default).decls:=by rw [aN,← bs];exact qzk aT hk
 have aO:=z_ (fun W vu (x y:Nat) (hx:x<65536) (hy:y<65536) va (hW:Below w.heap.size w W) (hu:Has W vu (ivs (nats (clo P.length (prs Q))))) (h1:Has W va (ivs (nats [x,y])))=>qh8 (clo P.length (prs Q)) ag (O.getD k default).decls [x,y] bu (fun i=>by
  match i with
  | 0=>exact hx
  | 1=>exact hy
  | i+2=>simp) vu _ va W hu (hD.below qa6 n_ hW) h1)
 have bv:∀ i,A.getD i 0<2 ^ (clo P.length (prs Q)).length:=fun i=>by rw [aN];exact hA i
 have ay:=z_ (fun g=>V_lt false (clo P.length (prs Q)) (O.getD k default).decls A ag bv g);have az:=z_ (fun i j k'=>qtn ag (O.getD k default).decls A i j k');have aV:=z_ (fun i (h:i<16)=>qw5 false (clo P.length (prs Q)) (O.getD k default).decls A h);have aW:=z_ (fun i j k'=>qnz (clo P.length (prs Q)) (O.getD k default).decls A i j k');have aX:=z_ (fun i j (h:i<j) (hj:j<7)=>qpl (clo P.length (prs Q)) (O.getD k default).decls A h hj);rw [aN] at ay az;obtain ⟨U,hU⟩:=e_ (clo P.length (prs Q));rw [← hU] at aO ay az aV aW aX aU ⊢;obtain ⟨DD,bw⟩:=e_ ((O.getD k default).decls);rw [← bw] at aO ay az aV aW aX e1 ⊢;obtain ⟨p,hp⟩:=e_ (A.length);obtain ⟨As,cs,rfl,h1⟩:=h1.shape (n:=p) (by rw [qau,qag,hp]);have cv:=h1.len.2;have bU:=z_ h1;have HP:=z_ hp;have bV:=z_ hA;rw [← hp] at h2 h7 ⊢;have bx:Hid (∀ T i c,Tab U DD A p (p+1) i c T→T.getD (p-1) 0=V false U DD A (2 ^ p-1)):=z_ (fun T i c h=>h.final o_);obtain ⟨vr,bz⟩:=e_ (V false U DD A (2 ^ p-1));rw [← bz] at bx ⊢;obtain ⟨dl,bA⟩:=e_ (DD.length);rw [← bA] at aO e1;obtain ⟨m1,aP⟩:=e_ (P.length);obtain ⟨m2,aY⟩:=e_ (Q.length);obtain ⟨m3,bB⟩:=e_ (O.length);have i1:(0:Int)≤(k:Int):=o_;have i2:(k:Int)<(m3:Int):=o_;rw [← aP] at bt ay az bV;rw [← aP,← aY] at aU;rw [← aP,← aY,← bB];obtain ⟨W,hW⟩:=e_ (w.alloc (.cells #[.slice A1 m1 c1,.slice A2 m2 c2,.slice (some ⟨g,o,none⟩) m3 c3] 46));have aZ:=fr1_ hW;have a6:SApp w.heap.size g (o+k*5) (.slice A1 m1 c1) (.slice A2 m2 c2) (.slice (some ⟨g,o,none⟩) m3 c3) (.slice Ad dl cd) W W:=by
  refine ⟨⟨?_,(aZ.cell (p:=⟨g,o+k*5+1,none⟩) hg).trans e1⟩,Below.refl _ _⟩;rw [hW];exact tsl.box3 (termt.qa5 _ _ _ rfl)
 have bC:=fr3_ hW;have a7:=z_ aZ;have bW:=z_ a6;have HZ:=z_ bC;obtain ⟨j0,bX,bY,bZ,b0⟩:=info_parts qdt;have b1:p*p≤49:=Nat.mul_le_mul h7 h7;have a8:2*2≤p*p:=Nat.mul_le_mul h2 h2;obtain ⟨pp,ah⟩:=e_ (p*p);have ba:=z_ ah;have aC:(p:Int)*(p:Int)=(pp:Int):=by rw [ah];push_cast;rfl
 have aQ:IntKind.i64.wrap ((p:Int)*(p:Int))=(pp:Int):=by rw [aC,IntKind.wrap_i64];omega
 have bb:p≤p*p:=Nat.le_mul_of_pos_left p o_;rw [← ah] at b1 a8 bb;obtain ⟨⟨z0,z1,z2⟩,z3⟩:=a6.1;clear h h' h1 hA am p1 p2 p3 p4 ag aN e1 hD bu bv bz bA aP aY bB aZ a6 aT hk hU bw hp bC ah aC bs z3;go_enter Tryz.func181,Tryz.ntmps181
 go_wp2_with fail
 rw [← hW];clear hW
 go_wp2_with (first
  | (go_at_call 179;refine (aU.out W a7.out).mono ?_;rintro e w1 ⟨cw,rfl,hown,bD⟩;obtain ⟨Au,cu,rfl,_⟩:=qaz hown;have HU:=z_ (Has.of_own hown);have bc:Hid (Below W.heap.size W w1):=z_ bD;have bd:Hid (Below w.heap.size w w1):=z_ (a7.out.trans (bc.out.mono a7.out.size));clear hown bD z0 z1 z2)
  | (at_make;refine wpList_make_full _ rfl _ _ 60 rfl w1.heap.size 3 j0 (.int .i64 0) 1 Tryz.underlying60 bX bY bZ _ _ _ _ pp rfl rfl (by first|rfl|exact aQ|(simp;exact aQ)) (by first|rfl|exact aQ|(simp;exact aQ)) (by rw [b0];omega) Aa_ n_ ?_))
 intro w2 hown ak;rw [qoc] at hown;obtain ⟨gt,hgt⟩:=e_ (w1.heap.size);rw [← hgt] at hown ⊢;have bE:Below gt w1 w2:=by rw [hgt];exact (Below.refl w1.heap.size w1).grown ak n_ Be_
 have b2:=z_ bE;have be:=z_ hown;have b3:=z_ hgt;have b4:w.heap.size+1≤gt:=by rw [hgt];have:=bc.out.size;rw [HZ.out] at this;exact this
 have bF:=z_ (bW.out.of bc.out);have b5:g<gt:=by rw [hgt];exact l_ bF.out.1.2
 have b6:Hid (∀ wr,Below gt w1 wr→(wr.cell? ⟨w.heap.size,0,none⟩=some (.slice A1 m1 c1)∧wr.cell? ⟨w.heap.size,1,none⟩=some (.slice A2 m2 c2)∧wr.cell? ⟨w.heap.size,2,none⟩=some (.slice (some ⟨g,o,none⟩) m3 c3))∧wr.cell? ⟨g,o+k*5+1,none⟩=some (.slice Ad dl cd)):=z_ (fun wr hb=>by
  have k1:∀ y,wr.cell? ⟨w.heap.size,y,none⟩=w1.cell? ⟨w.heap.size,y,none⟩:=fun y=>hb.cell (p:=⟨w.heap.size,y,none⟩) (by show w.heap.size<gt;omega)
  have k2:∀ y,wr.cell? ⟨g,y,none⟩=w1.cell? ⟨g,y,none⟩:=fun y=>hb.cell (p:=⟨g,y,none⟩) b5
  rw [k1,k1,k1,k2]
  exact bF.out.1)
 have bf:Hid (∀ wr,Below gt w1 wr→Below w.heap.size w wr):=z_ (fun wr hb=>bd.out.trans (hb.mono o_));have b7:Hid (∀ wr,Below gt w1 wr→Has wr (.slice Au m1 cu) (ivs (nats U))):=z_ (fun wr hb=>HU.out.below n_ (b3.out ▸ hb));clear hown ak bE hgt;go_wp2;go_loopw [10] (fun b8 wr=>∃ (s:Nat) (T:List Nat),b8=.int .i64 s∧1≤s∧s≤p+1∧Hid (Tab U DD A p s 0 0 T)∧Hid (wr.ownsRow gt 3 1 (.slice (some ⟨gt,0,none⟩) pp pp) pp (ivs (nats T)))∧Hid (Below gt w1 wr)) (fun v _=>p+1-(intOf v).toNat)
 case atStart=>exact ⟨1,List.replicate pp 0,rfl,Nat.le_refl _,by omega,z_ (by rw [ba.out];exact Tab.zero),be,b2⟩
 case round=>
  obtain ⟨s,T,rfl,aD,cx,HT,HO,HB⟩:=hrel;by_cases cy:s≤p
  ·have d1:decide ((s:Int)≤(p:Int))=true:=d_
   go_wp2;go_loopw [11] (fun b9 wr=>∃ (i:Nat) (T:List Nat),b9=.int .i64 i∧i+s≤p+1∧Hid (Tab U DD A p s i 0 T)∧Hid (wr.ownsRow gt 3 1 (.slice (some ⟨gt,0,none⟩) pp pp) pp (ivs (nats T)))∧Hid (Below gt w1 wr)) (fun v _=>p+1-(intOf v).toNat)
   case atStart=>exact ⟨0,T,rfl,by omega,HT,HO,HB⟩
   case round=>
    clear HT HO HB;obtain ⟨i,T,rfl,cz,HT,HO,HB⟩:=hrel;obtain ⟨e,he⟩:=e_ (i+s);have bg:IntKind.i64.wrap ((i:Int)+(s:Int))=(e:Int):=by rw [IntKind.wrap_i64];omega
    by_cases ca:e≤p
    ·have d2:decide ((e:Int)≤(p:Int))=true:=d_
     have an:i*p+p≤p*p:=by
      have:=Nat.mul_le_mul_right p (show i+1≤p by omega);rw [Nat.add_mul,Nat.one_mul] at this;exact this
     rw [← ba.out] at an;obtain ⟨ip,ae⟩:=e_ (i*p);rw [← ae] at an;have bG:IntKind.i64.wrap ((i:Int)*(p:Int))=(ip:Int):=by
      have:(i:Int)*(p:Int)=(ip:Int):=by rw [ae];push_cast;rfl
      rw [this,IntKind.wrap_i64];omega
     by_cases hs:s=1
     ·obtain ⟨ga,oa,rfl,cA,bH⟩:=(bU.out.below n_ (bf.out _ HB.out)).cellAt (j:=i) o_
      rw [qzl Bc_] at bH;obtain ⟨x1,aA⟩:=e_ (ip+i);have aE:IntKind.i64.wrap ((ip:Int)+(i:Int))=(x1:Int):=by rw [IntKind.wrap_i64];omega
      have cc:x1<pp:=o_;obtain ⟨q1,q2⟩:=qbg HO.out cc;obtain ⟨av,bh⟩:=e_ (A.getD i 0);rw [← bh] at bH
      have ai:Hid (Tab U DD A p s (i+1) 0 (T.set x1 av)):=z_ (by
       have h9:=(HT.out.store aD o_ av).next aD (by
        rw [show i+s-1=i by omega,qCj,aV.out i o_,bh])
       rw [show i*p+(i+s-1)=x1 by rw [aA,ae,show i+s-1=i by omega]] at h9
       exact h9)
      have ce:Hid ((wr.setCell ⟨gt,x1,none⟩ (.int .i64 (av:Int))).ownsRow gt 3 1 (.slice (some ⟨gt,0,none⟩) pp pp) pp (ivs (nats (T.set x1 av)))):=z_ (by
       have h9:=qa4 HO.out x1 (.int .i64 (av:Int));rw [qd0,qc3] at h9
       exact h9)
      have cf:=z_ (HB.out.setCell (p:=⟨gt,x1,none⟩) n_ (.int .i64 (av:Int)));have j1:(0:Int)≤(i:Int):=o_;have j2:(i:Int)<(p:Int):=o_;have j3:(0:Int)≤(x1:Int):=o_;have j4:(x1:Int)<(pp:Int):=o_;subst hs;clear bh aA ae;go_wp2;go_roundw
      case rel=>exact ⟨i+1,_,by go_num,by omega,ai,ce,cf⟩
      case measure=>simp [intOf];omega
     ·have d3:((s:Int)==1)=false:=by simp;omega
      have d4:decide ((s:Int)=1)=false:=f_;obtain ⟨j,hj⟩:=e_ (i+s-1);have cg:IntKind.i64.wrap ((e:Int)-1)=(j:Int):=by rw [IntKind.wrap_i64];omega
      have ch:Hid (qe1 U DD A i j 0=0):=z_ rfl;have HJ:=z_ (And.intro hj (And.intro he ae));have bi:i≤j:=o_;have cB:j<p:=o_;have ci:i+s≤p:=o_;clear hj he ae;go_wp2;go_loopw [13] (fun cj wr=>∃ (kx kk c:Nat) (T:List Nat),cj=.int .i64 kx∧Hid (kx=i+kk)∧kx≤j∧Hid (c=qe1 U DD A i j kk)∧Hid (Tab U DD A p s i c T)∧Hid (wr.ownsRow gt 3 1 (.slice (some ⟨gt,0,none⟩) pp pp) pp (ivs (nats T)))∧Hid (Below gt w1 wr)) (fun v _=>j-(intOf v).toNat)
      case atStart=>exact ⟨i,0,0,T,rfl,z_ rfl,bi,z_ ch.out.symm,HT,HO,HB⟩
      case round=>
       clear HT HO HB;obtain ⟨kx,kk,c,T,rfl,aR,cC,HC,HT,HO,HB⟩:=hrel;obtain ⟨hj,he,ae⟩:=HJ.out;have bj:=aR.out;by_cases cD:kx<j
       ·obtain ⟨ky,bk⟩:=e_ (kx+1)
        have cE:IntKind.i64.wrap ((kx:Int)+1)=(ky:Int):=by rw [IntKind.wrap_i64];omega
        have ao:ky*p+p≤p*p:=by
         have:=Nat.mul_le_mul_right p (show ky+1≤p by omega);rw [Nat.add_mul,Nat.one_mul] at this;exact this
        rw [← ba.out] at ao;obtain ⟨kp,aF⟩:=e_ (ky*p);rw [← aF] at ao;have bI:IntKind.i64.wrap ((ky:Int)*(p:Int))=(kp:Int):=by
         have:(ky:Int)*(p:Int)=(kp:Int):=by rw [aF];push_cast;rfl
         rw [this,IntKind.wrap_i64];omega
        obtain ⟨x1,aA⟩:=e_ (ip+j);obtain ⟨x2,bJ⟩:=e_ (ip+kx);obtain ⟨x3,bK⟩:=e_ (kp+j);have aE:IntKind.i64.wrap ((ip:Int)+(j:Int))=(x1:Int):=by rw [IntKind.wrap_i64];omega
        have bL:IntKind.i64.wrap ((ip:Int)+(kx:Int))=(x2:Int):=by rw [IntKind.wrap_i64];omega
        have bM:IntKind.i64.wrap ((kp:Int)+(j:Int))=(x3:Int):=by rw [IntKind.wrap_i64];omega
        obtain ⟨q1,f1⟩:=qbg HO.out (show x1<pp by omega);obtain ⟨q2,_⟩:=qbg HO.out (show x2<pp by omega);obtain ⟨q3,_⟩:=qbg HO.out (show x3<pp by omega);have ap:x1≠x2:=o_
        have aq:x1≠x3:=fun e=>by
         have:=qx7 (p:=p) (a:=i) (b:=j) (x:=ky) (y:=j) o_ o_ (by rw [← ae,← aF];omega);omega
        have e1:T.getD x1 0=c:=by
         have:=HT.out.here aD o_;rw [← ae,← hj,← aA] at this;exact this
        have e2:T.getD x2 0=V false U DD A (iv i kx):=by
         have:=HT.out.read (a:=i) (b:=kx) o_ o_ o_;rw [← ae,← bJ] at this;exact this
        have e3:T.getD x3 0=V false U DD A (iv ky j):=by
         have:=HT.out.read (a:=ky) (b:=j) o_ o_ o_;rw [← aF,← bK] at this;exact this
        rw [e1] at q1;rw [e2] at q2;rw [e3] at q3;have ck:c<256:=by rw [HC.out];exact w_ (az.out i j kk) bt
        have bN:=ay.out (iv i kx);have bO:=ay.out (iv ky j);have aj:=z_ (aW.out i j kk);rw [← HC.out,← bj,← bk] at aj;have cl:=az.out i j (kk+1);obtain ⟨a2,bP⟩:=e_ (V false U DD A (iv i kx));obtain ⟨a3,bQ⟩:=e_ (V false U DD A (iv ky j));rw [← bP] at q2 bN aj;rw [← bQ] at q3 bO aj;have aS:=z_ (fun W vu va hW hu h1=>aO.out W vu a2 a3 o_ o_ va hW hu h1);have bR:upC U (giveR DD [a2,a3])<256:=by
         have h9:upC U (giveR DD [a2,a3])≤qe1 U DD A i j (kk+1):=by rw [aj.out];exact Nat.right_le_or
         omega
        obtain ⟨gv,bS⟩:=e_ (upC U (giveR DD [a2,a3]));rw [← bS] at aS aj bR;have cm:=qjw c gv o_ o_;obtain ⟨cn,aG⟩:=e_ (c ||| gv);rw [← aG] at cm aj
        have ai:Hid (Tab U DD A p s i cn (T.set x1 cn)):=z_ (by
         have h9:=HT.out.store aD o_ cn;rw [← ae,← hj,← aA] at h9
         exact h9)
        have HS:Hid (SChn w.heap.size g (o+k*5) gt x2 x3 (.slice A1 m1 c1) (.slice A2 m2 c2) (.slice (some ⟨g,o,none⟩) m3 c3) (.slice Ad dl cd) a2 a3 wr):=z_ ⟨b6.out wr HB.out,q2,q3⟩;have aB:=z_ (bf.out wr HB.out);have bl:=z_ (b7.out wr HB.out);have af:gt<wr.heap.size:=l_ q1;have j1:(0:Int)≤(x1:Int):=o_;have j2:(x1:Int)<(pp:Int):=o_;have j3:(0:Int)≤(x2:Int):=o_;have j4:(x2:Int)<(pp:Int):=o_;have j5:(0:Int)≤(x3:Int):=o_;have j6:(x3:Int)<(pp:Int):=o_;have co:x3≤49:=o_;have d5:decide ((kx:Int)<(j:Int))=true:=d_;have au:∀ ob,Below wr.heap.size wr (wr.alloc ob).drew:=fun ob=>(b_.alloc n_ ob).drew
        have aa:=z_ au;have cF:∀ ob,(wr.alloc ob).drew.cell? ⟨gt,x1,none⟩=some (.int .i64 (c:Int)):=fun ob=>((au ob).cell (p:=⟨gt,x1,none⟩) af).trans q1
        have aw:w.heap.size≠gt:=o_;have ax:g≠gt:=o_;have aH:kx+1=ky:=bk.symm;have ac:=z_ aH;clear aH bj bk au bP bQ bS aG e1 e2 e3 aA bJ bK ae aF ao an bg he ca hj cl bN bO bR;go_wp2_with fail
        refine wp_region_noPanic ?_;refine wp_region_held_drew (S:=(SChn w.heap.size g (o+k*5) gt x2 x3 (.slice A1 m1 c1) (.slice A2 m2 c2) (.slice (some ⟨g,o,none⟩) m3 c3) (.slice Ad dl cd) a2 a3)) k_ ?_ (fun aI=>?_)
        ·first|exact SChn.below HS.out Bf_|exact ad.out _
        refine t_k 0 ?_;refine t_k 1 ?_;refine t_k 2 ?_;refine t_k 3 ?_;refine t_k 4 ?_;refine t_k 5 ?_;refine t_k 6 ?_;refine t_k 7 ?_;refine t_k 8 ?_;refine t_k 9 ?_;refine t_k 10 ?_;refine t_k 11 ?_;refine t_k 12 ?_;refine t_k 14 ?_;refine t_k 15 ?_;refine t_k 16 ?_;refine t_k 17 ?_;refine t_k 18 ?_;refine t_k 19 ?_;refine t_k 20 ?_;refine t_k 21 ?_;refine t_k 22 ?_;refine t_k 23 ?_;refine t_k 24 ?_;refine t_k 25 ?_;refine t_k 26 ?_;refine t_k 27 ?_;refine t_k 28 ?_;refine t_k 29 ?_;refine t_k 30 ?_;refine t_k 31 ?_;refine t_k 32 ?_;refine t_k 33 ?_;refine t_k 34 ?_;refine t_k 35 ?_;refine t_k 36 ?_;refine t_k 37 ?_;refine r_d [13,38] ?_;refine c_s (fun K hK=>?_) ?_
        ·go_simp
         refine k_o hK ?_ (fun bm=>?_)
         ·exact c102_
         clear hK K aI;refine r_d [38] ?_;refine c_s (fun K hK=>?_) ?_
         ·go_simp
          refine k_o hK ?_ (fun bn=>?_)
          ·exact c102_
          clear hK K bm;refine r_d [39] ?_;refine c_s (fun K hK=>?_) ?_
          ·(go_simp;refine (aS.out _ _ _ (aB.out.trans ((aa.out _).mono aB.out.size)) (bl.out.below n_ (aa.out _)) (qdb _ a2 a3)).mono ?_;rintro e w5 ⟨rfl,al⟩;have ab:Hid (Below wr.heap.size wr w5):=z_ ((aa.out (.cells #[.int .i64 (a2:Int),.int .i64 (a3:Int)] 3)).trans (al.mono (aa.out _).size));have q5:=(ab.out.cell (p:=⟨gt,x1,none⟩) af).trans q1;have f5:=(ab.out.frozen (p:=⟨gt,x1,none⟩) af).trans f1;have ad:Hid (∀ u,SChn w.heap.size g (o+k*5) gt x2 x3 (.slice A1 m1 c1) (.slice A2 m2 c2) (.slice (some ⟨g,o,none⟩) m3 c3) (.slice Ad dl cd) a2 a3 (w5.setCell ⟨gt,x1,none⟩ u)):=z_ (fun u=>(SChn.below HS.out ab.out).set aw ax ap aq u);clear al;(try dsimp only))
           refine k_o hK ?_ (fun bo=>?_)
           ·exact c102_
           clear hK K bn;refine t_k 40 ?_;refine t_k 41 ?_;refine r_d [42] ?_;refine c_s (fun K hK=>?_) ?_
           ·go_simp
            refine k_o hK ?_ (fun cp=>?_)
            ·exact c102_
            clear hK K bo;refine wpAnyH_done k_ ?_ _;refine NoPanic.normal ?_
            have aJ:Hid ((w5.setCell ⟨gt,x1,none⟩ (.int .i64 (cn:Int))).ownsRow gt 3 1 (.slice (some ⟨gt,0,none⟩) pp pp) pp (ivs (nats (T.set x1 cn)))):=z_ (by
             have h9:=qa4 (own_below HO.out ab.out) x1 (.int .i64 (cn:Int));rw [qd0,qc3] at h9
             exact h9)
            have aK:=z_ ((HB.out.trans (ab.out.mono (Nat.le_of_lt af))).setCell (p:=⟨gt,x1,none⟩) n_ (.int .i64 (cn:Int)));clear q5 f5;go_wp2;go_roundw
            case rel=>exact ⟨ky,kk+1,cn,_,by first|rfl|(rw [← ac.out];go_num),z_ (by have:=aR.out;have:=ac.out;omega),by have:=ac.out;omega,z_ aj.out.symm,ai,aJ,aK⟩
            case measure=>have:=ac.out;simp [intOf];omega
           exact a_l
          exact a_l
         exact a_l
        refine c_s (fun K hK=>?_) ?_
        ·go_simp
         refine k_o hK ?_ (fun aL=>?_)
         ·exact c102_
         clear hK K aI;refine r_d [13,39] ?_;refine c_s (fun K hK=>?_) ?_
         ·go_simp
          refine k_o hK ?_ (fun bp=>?_)
          ·exact c102_
          clear hK K aL;refine r_d [39] ?_;refine c_s (fun K hK=>?_) ?_
          ·(go_simp;refine (aS.out _ _ _ (aB.out.trans ((aa.out _).mono aB.out.size)) (bl.out.below n_ (aa.out _)) (qdb _ a2 a3)).mono ?_;rintro e w5 ⟨rfl,al⟩;have ab:Hid (Below wr.heap.size wr w5):=z_ ((aa.out (.cells #[.int .i64 (a2:Int),.int .i64 (a3:Int)] 3)).trans (al.mono (aa.out _).size));have q5:=(ab.out.cell (p:=⟨gt,x1,none⟩) af).trans q1;have f5:=(ab.out.frozen (p:=⟨gt,x1,none⟩) af).trans f1;have ad:Hid (∀ u,SChn w.heap.size g (o+k*5) gt x2 x3 (.slice A1 m1 c1) (.slice A2 m2 c2) (.slice (some ⟨g,o,none⟩) m3 c3) (.slice Ad dl cd) a2 a3 (w5.setCell ⟨gt,x1,none⟩ u)):=z_ (fun u=>(SChn.below HS.out ab.out).set aw ax ap aq u);clear al;(try dsimp only))
           refine k_o hK ?_ (fun bq=>?_)
           ·exact c102_
           clear hK K bp;refine t_k 40 ?_;refine t_k 41 ?_;refine r_d [42] ?_;refine c_s (fun K hK=>?_) ?_
           ·go_simp
            refine k_o hK ?_ (fun cq=>?_)
            ·exact c102_
            clear hK K bq;refine wpAnyH_done k_ ?_ _;refine NoPanic.normal ?_
            have aJ:Hid ((w5.setCell ⟨gt,x1,none⟩ (.int .i64 (cn:Int))).ownsRow gt 3 1 (.slice (some ⟨gt,0,none⟩) pp pp) pp (ivs (nats (T.set x1 cn)))):=z_ (by
             have h9:=qa4 (own_below HO.out ab.out) x1 (.int .i64 (cn:Int));rw [qd0,qc3] at h9
             exact h9)
            have aK:=z_ ((HB.out.trans (ab.out.mono (Nat.le_of_lt af))).setCell (p:=⟨gt,x1,none⟩) n_ (.int .i64 (cn:Int)));clear q5 f5;go_wp2;go_roundw
            case rel=>exact ⟨ky,kk+1,cn,_,by first|rfl|(rw [← ac.out];go_num),z_ (by have:=aR.out;have:=ac.out;omega),by have:=ac.out;omega,z_ aj.out.symm,ai,aJ,aK⟩
            case measure=>have:=ac.out;simp [intOf];omega
           exact a_l
          exact a_l
         refine c_s (fun K hK=>?_) ?_
         ·(go_simp;refine (aS.out _ _ _ (aB.out.trans ((aa.out _).mono aB.out.size)) (bl.out.below n_ (aa.out _)) (qdb _ a2 a3)).mono ?_;rintro e w5 ⟨rfl,al⟩;have ab:Hid (Below wr.heap.size wr w5):=z_ ((aa.out (.cells #[.int .i64 (a2:Int),.int .i64 (a3:Int)] 3)).trans (al.mono (aa.out _).size));have q5:=(ab.out.cell (p:=⟨gt,x1,none⟩) af).trans q1;have f5:=(ab.out.frozen (p:=⟨gt,x1,none⟩) af).trans f1;have ad:Hid (∀ u,SChn w.heap.size g (o+k*5) gt x2 x3 (.slice A1 m1 c1) (.slice A2 m2 c2) (.slice (some ⟨g,o,none⟩) m3 c3) (.slice Ad dl cd) a2 a3 (w5.setCell ⟨gt,x1,none⟩ u)):=z_ (fun u=>(SChn.below HS.out ab.out).set aw ax ap aq u);clear al;(try dsimp only))
          refine k_o hK ?_ (fun br=>?_)
          ·exact c102_
          clear hK K aL;refine r_d [13] ?_;refine c_s (fun K hK=>?_) ?_
          ·go_simp
           refine k_o hK ?_ (fun aM=>?_)
           ·exact c102_
           clear hK K br;refine t_k 40 ?_;refine t_k 41 ?_;refine r_d [42] ?_;refine c_s (fun K hK=>?_) ?_
           ·go_simp
            refine k_o hK ?_ (fun bT=>?_)
            ·exact c102_
            clear hK K aM;refine wpAnyH_done k_ ?_ _;refine NoPanic.normal ?_
            have aJ:Hid ((w5.setCell ⟨gt,x1,none⟩ (.int .i64 (cn:Int))).ownsRow gt 3 1 (.slice (some ⟨gt,0,none⟩) pp pp) pp (ivs (nats (T.set x1 cn)))):=z_ (by
             have h9:=qa4 (own_below HO.out ab.out) x1 (.int .i64 (cn:Int));rw [qd0,qc3] at h9
             exact h9)
            have aK:=z_ ((HB.out.trans (ab.out.mono (Nat.le_of_lt af))).setCell (p:=⟨gt,x1,none⟩) n_ (.int .i64 (cn:Int)));clear q5 f5;go_wp2;go_roundw
            case rel=>exact ⟨ky,kk+1,cn,_,by first|rfl|(rw [← ac.out];go_num),z_ (by have:=aR.out;have:=ac.out;omega),by have:=ac.out;omega,z_ aj.out.symm,ai,aJ,aK⟩
            case measure=>have:=ac.out;simp [intOf];omega
           exact a_l
          exact a_l
         exact a_l
        exact a_l
       ·obtain rfl:kx=j:=o_
        have ai:Hid (Tab U DD A p s (i+1) 0 T):=z_ (HT.out.next aD (by
         rw [HC.out,show kk=kx-i by omega,aX.out i kx o_ o_,hj]))
        clear hj he ae bj;go_wp2;go_roundw
        case rel=>exact ⟨i+1,T,by go_num,by omega,ai,HO,HB⟩
        case measure=>simp [intOf];omega
    ·have d2:decide ((e:Int)≤(p:Int))=false:=f_
     have ai:Hid (Tab U DD A p (s+1) 0 0 T):=z_ (HT.out.up o_);go_wp2;go_roundw
     case rel=>exact ⟨s+1,T,by go_num,by omega,by omega,ai,HO,HB⟩
     case measure=>simp [intOf];omega
  ·obtain rfl:s=p+1:=o_
   have d1:decide (((p+1:Nat):Int)≤(p:Int))=false:=f_;obtain ⟨x,hx⟩:=e_ (p-1);have cG:IntKind.i64.wrap ((p:Int)-1)=(x:Int):=by rw [IntKind.wrap_i64];omega
   have HQ:=z_ (bx.out T 0 0 HT.out);rw [← hx] at HQ;obtain ⟨q1,_⟩:=qbg HO.out (show x<pp by omega);rw [HQ.out] at q1;have j3:(0:Int)≤(x:Int):=o_;have j4:(x:Int)<(pp:Int):=o_;have ct:=z_ (bf.out _ HB.out);clear hx;go_wp2;go_ret;exact ⟨rfl,ct.out⟩
end tsq

namespace tsr
open mem split subs setm sets sortm sortp sorti sortu rowl sigm sigs sigk trm tsa tsm tsj tsk tsn tsp tsq
theorem qBu (a b:Nat)(ha:a<65536)(hb:b<65536):bits .xor .i64 (a:Int) (b:Int)=((a ^^^ b:Nat):Int):=by
 have hx:a ^^^ b<2 ^ 16:=Nat.xor_lt_two_pow ha hb;show IntKind.i64.wrap ((BitVec.ofInt 64 (a:Int) ^^^ BitVec.ofInt 64 (b:Int)).toNat:Nat)=_;simp only [BitVec.ofInt_natCast,BitVec.toNat_xor,BitVec.toNat_ofNat];rw [Nat.mod_eq_of_lt (show a<2 ^ 64 by omega),Nat.mod_eq_of_lt (show b<2 ^ 64 by omega)]
 exact qcf _ (Int.natCast_nonneg _) (by
                                              have:((a ^^^ b:Nat):Int)<2 ^ 16:=by exact_mod_cast hx
                                              omega)
def BagT (U:List Nat)(D:List (List Int×Int))(A:List Nat)(z m c:Nat)(T:List Nat):Prop:=
 T.length=z∧(∀ x,0<x→x<m→T.getD x 0=V true U D A x)∧T.getD m 0=c∧∀ x,m<x→T.getD x 0=0
section
variable {U:List Nat} {D:List (List Int×Int)} {A:List Nat} {z m c:Nat} {T:List Nat}
theorem BagT.zero (z:Nat):BagT U D A z 1 0 (List.replicate z 0):=by
 have h:∀ x,(List.replicate z 0).getD x 0=0:=fun x=>by
  rw [List.getD_eq_getElem?_getD,List.getElem?_replicate];split<;>rfl
 exact ⟨by simp,fun x h0 h1=>by omega,h 1,fun x _=>h x⟩
theorem BagT.store (h:BagT U D A z m c T)(hm:m<z)(c':Nat):BagT U D A z m c' (T.set m c'):=by
 have hx:m<T.length:=by rw [h.1];exact hm
 refine ⟨by rw [List.length_set];exact h.1,fun x h0 h1=>?_,?_,fun x h1=>?_⟩
 ·rw [qd6 _ _ hx,if_neg o_];exact h.2.1 x h0 h1
 ·rw [qd6 _ _ hx,if_pos rfl]
 ·rw [qd6 _ _ hx,if_neg o_];exact h.2.2.2 x h1
theorem BagT.next (h:BagT U D A z m c T)(hc:c=V true U D A m):BagT U D A z (m+1) 0 T:=by
 refine ⟨h.1,fun x h0 h1=>?_,h.2.2.2 _ o_,fun x h1=>h.2.2.2 x o_⟩;by_cases e:x=m
 ·subst e;rw [h.2.2.1,hc]
 ·exact h.2.1 x h0 o_
end
def sgl (A:List Nat)(m i:Nat):Nat:=match qe7 m with|some j=>if j<i then A.getD j 0 else 0|none=>0
theorem qod (h:qe7 m=some j):m=2 ^ j∧j<16:=by
 unfold qe7 at h;rw [List.find?_range_eq_some] at h;exact ⟨by simpa using h.1,List.mem_range.1 h.2.1⟩
theorem qzm (h:i<16):qe7 (2 ^ i)=some i:=by
 unfold qe7;rw [List.find?_range_eq_some];refine ⟨by simp,List.mem_range.2 h,fun j hj=>?_⟩;have:=Nat.pow_lt_pow_right (a:=2) (by decide) hj;simp;omega
theorem qBv (A:List Nat)(h:i<16)(e:m=2 ^ i):sgl A m (i+1)=A.getD i 0:=by
 rw [e,sgl,qzm h];simp
theorem qzn (A:List Nat)(e:m≠2 ^ i):sgl A m (i+1)=sgl A m i:=by
 unfold sgl;cases ho:qe7 m with
 | none=>rfl
 | some j=>
  obtain ⟨h1,_⟩:=qod ho;have:j≠i:=fun h=>e (h ▸ h1)
  by_cases hj:j<i
  ·simp only [if_pos hj,if_pos (show j<i+1 by omega)]
  ·simp only [if_neg hj,if_neg (show ¬ j<i+1 by omega)]
theorem qzo (A:List Nat)(m:Nat):sgl A m 0=0:=by
 unfold sgl;cases qe7 m<;>simp
def bagF (U:List Nat)(D:List (List Int×Int))(A:List Nat)(m l:Nat):Nat:=upC U (giveR D [V true U D A l,V true U D A (rest m l)])
theorem qq4 (m:Nat):qd9 true m=lefts m:=by simp [qd9]
theorem qBw{D:List (List Int×Int)}{A:List Nat}{p:Nat}(hp:∀ j,m=2 ^ j→j<p)(h1:∀ i,i<16→V true U D A (2 ^ i)=A.getD i 0)(hm:∀ g,qe7 g=none→V true U D A g=upC U (orL (fun l=>giveR D [V true U D A l,V true U D A (rest g l)]) (qd9 true g))):
  sgl A m p ||| orL (bagF U D A m) (lefts m)=V true U D A m:=by
 cases ho:qe7 m with
 | none=>
  have e:sgl A m p=0:=by unfold sgl;rw [ho]
  rw [e,Nat.zero_or,hm m ho,qpj,qq4];rfl
 | some j=>
  obtain ⟨h2,h3⟩:=qod ho;have e:sgl A m p=A.getD j 0:=by unfold sgl;rw [ho];simp only [if_pos (hp j h2)]
  rw [e,h2,qw7 h3,h1 j h3];simp [orL]
theorem c103_{p:Prop}(h:p:=by
 (try dsimp only);first|exact SChn.below HS.out Bf_|exact ac.out _
):p:=h
set_option maxRecDepth 50000 in
set_option maxHeartbeats 8000000 in
theorem qx8 (P:List (List UInt8))(Q:List (Int×Int))(O:List OpM)(aN:qah P Q O=true)(k:Nat)(hk:k<O.length)(A:List Nat)(bk:ar (O.getD k default)=2)(h2:2≤A.length)(h7:A.length≤7)(hA:∀ i,A.getD i 0<2 ^ P.length)(va vb vc vs:Value)(w:World)(h:HasG w va vb vc P Q O)(h1:Has w vs (ivs (nats A))):
  Calls Tryz.prog 180 #[.agg #[va,vb,vc],.int .i64 (k:Int),vs] w fun e w'=>e=.returned (.int .i64 ((V true (clo P.length (prs Q)) (O.getD k default).decls A (2 ^ A.length-1):Nat):Int))∧Below w.heap.size w w':=by
 have ah:=(qa8 aN).1;obtain ⟨p1,p2,p3,p4,_⟩:=qb2 ah;have ad:=qh7 ah;have aI:=qc9 P.length (prs Q);have bN:=pow8 p2;have aO:=z_ (fun W (hW:Below w.heap.size w W)=>qgd P Q p1 p2 o_ p3 va vb W (h.s.below n_ hW));obtain ⟨A1,c1,A2,c2,A3,c3,rfl,rfl,rfl,_,_,_,h'⟩:=h.shape;obtain ⟨g,o,Ad,cd,rfl,_,hg,_,e1,_,_,_,hD,_,_⟩:=qcm h'.o hk;have bl:DeclN (clo P.length (prs Q)).length 2 (O.getD k default).decls:=by rw [aI,← bk];exact qzk aN hk
 have aJ:=z_ (fun W vu (x y:Nat) (hx:x<65536) (hy:y<65536) va (hW:Below w.heap.size w W) (hu:Has W vu (ivs (nats (clo P.length (prs Q))))) (h1:Has W va (ivs (nats [x,y])))=>qh8 (clo P.length (prs Q)) ad (O.getD k default).decls [x,y] bl (fun i=>by
  match i with
  | 0=>exact hx
  | 1=>exact hy
  | i+2=>simp) vu _ va W hu (hD.below qa6 n_ hW) h1)
 have bm:∀ i,A.getD i 0<2 ^ (clo P.length (prs Q)).length:=fun i=>by rw [aI];exact hA i
 have ai:=z_ (fun g=>V_lt true (clo P.length (prs Q)) (O.getD k default).decls A ad bm g);have aP:=z_ (fun i (h:i<16)=>qw5 true (clo P.length (prs Q)) (O.getD k default).decls A h);have aQ:=z_ (fun g (h:qe7 g=none)=>qru true (clo P.length (prs Q)) (O.getD k default).decls A h);have aR:=z_ (fun x y=>w_ (qjd ad (giveR (O.getD k default).decls [x,y])) (pow8 ad.1));rw [aI] at ai;obtain ⟨U,hU⟩:=e_ (clo P.length (prs Q));rw [← hU] at aJ ai aP aQ aR aO ⊢;obtain ⟨DD,bn⟩:=e_ ((O.getD k default).decls);rw [← bn] at aJ ai aP aQ aR e1 ⊢;obtain ⟨p,hp⟩:=e_ (A.length);obtain ⟨As,cs,rfl,h1⟩:=h1.shape (n:=p) (by rw [qau,qag,hp]);have cm:=h1.len.2;have bO:=z_ h1;have HP:=z_ hp;have bP:=z_ hA;rw [← hp] at h2 h7 ⊢;have bQ:2 ^ p≤128:=Nat.pow_le_pow_right (n:=2) (j:=7) (by decide) h7;have bR:2 ^ 2≤2 ^ p:=Nat.pow_le_pow_right (by decide) h2;have aK:=z_ (fun W=>qfo p o_ W);have bo:Hid (∀ m j,m=2 ^ j→m<2 ^ p→j<p):=z_ (fun m j e h=>by rw [e] at h;exact (Nat.pow_lt_pow_iff_right (by decide)).1 h);obtain ⟨z,hz⟩:=e_ (2 ^ p);rw [← hz] at bQ bR aK bo ⊢;obtain ⟨vr,aS⟩:=e_ (V true U DD A (z-1));have bS:=z_ aS;rw [← aS];obtain ⟨dl,bp⟩:=e_ (DD.length);rw [← bp] at aJ e1;obtain ⟨m1,aw⟩:=e_ (P.length);obtain ⟨m2,aT⟩:=e_ (Q.length);obtain ⟨m3,bq⟩:=e_ (O.length);have i1:(0:Int)≤(k:Int):=o_;have i2:(k:Int)<(m3:Int):=o_;rw [← aw] at bN ai bP;rw [← aw,← aT] at aO;rw [← aw,← aT,← bq];obtain ⟨W,hW⟩:=e_ (w.alloc (.cells #[.slice A1 m1 c1,.slice A2 m2 c2,.slice (some ⟨g,o,none⟩) m3 c3] 46));have aU:=fr1_ hW;have aV:SApp w.heap.size g (o+k*5) (.slice A1 m1 c1) (.slice A2 m2 c2) (.slice (some ⟨g,o,none⟩) m3 c3) (.slice Ad dl cd) W W:=by
  refine ⟨⟨?_,(aU.cell (p:=⟨g,o+k*5+1,none⟩) hg).trans e1⟩,Below.refl _ _⟩;rw [hW];exact tsl.box3 (termt.qa5 _ _ _ rfl)
 have br:=fr3_ hW;have aW:=z_ aU;have bT:=z_ aV;have HZ:=z_ br;obtain ⟨j0,bU,bV,bW,bX⟩:=info_parts qdt;obtain ⟨⟨z0,z1,z2⟩,z3⟩:=aV.1;clear h h' h1 hA ah p1 p2 p3 p4 ad aI e1 hD bl bm aS bp aw aT bq aU aV aN hk hU bn hp br hz bk z3;go_enter Tryz.func180,Tryz.ntmps180
 go_wp2_with fail
 rw [← hW];clear hW
 go_wp2_with (first
  | (go_at_call 179;refine (aO.out W aW.out).mono ?_;rintro e w1 ⟨co,rfl,hown,bs⟩;obtain ⟨Au,cu,rfl,_⟩:=qaz hown;have HU:=z_ (Has.of_own hown);have aX:Hid (Below W.heap.size W w1):=z_ bs;have aY:Hid (Below w.heap.size w w1):=z_ (aW.out.trans (aX.out.mono aW.out.size));clear hown bs z0 z1 z2)
  | (go_at_call 221;refine (aK.out _).mono ?_;rintro e w0 ⟨rfl,rfl⟩)
  | (at_make;refine wpList_make_full _ rfl _ _ 60 rfl w1.heap.size 3 j0 (.int .i64 0) 1 Tryz.underlying60 bU bV bW _ _ _ _ z rfl rfl rfl rfl (by rw [bX];omega) Aa_ n_ ?_))
 intro w2 hown af;rw [qoc] at hown;obtain ⟨gt,hgt⟩:=e_ (w1.heap.size);rw [← hgt] at hown ⊢;have bt:Below gt w1 w2:=by rw [hgt];exact (Below.refl w1.heap.size w1).grown af n_ Be_
 have bY:=z_ bt;have aZ:=z_ hown;have bZ:=z_ hgt;have b0:w.heap.size+1≤gt:=by rw [hgt];have:=aX.out.size;rw [HZ.out] at this;exact this
 have bu:=z_ (bT.out.of aX.out);have b1:g<gt:=by rw [hgt];exact l_ bu.out.1.2
 have b2:Hid (∀ wr,Below gt w1 wr→(wr.cell? ⟨w.heap.size,0,none⟩=some (.slice A1 m1 c1)∧wr.cell? ⟨w.heap.size,1,none⟩=some (.slice A2 m2 c2)∧wr.cell? ⟨w.heap.size,2,none⟩=some (.slice (some ⟨g,o,none⟩) m3 c3))∧wr.cell? ⟨g,o+k*5+1,none⟩=some (.slice Ad dl cd)):=z_ (fun wr hb=>by
  have k1:∀ y,wr.cell? ⟨w.heap.size,y,none⟩=w1.cell? ⟨w.heap.size,y,none⟩:=fun y=>hb.cell (p:=⟨w.heap.size,y,none⟩) (by show w.heap.size<gt;omega)
  have k2:∀ y,wr.cell? ⟨g,y,none⟩=w1.cell? ⟨g,y,none⟩:=fun y=>hb.cell (p:=⟨g,y,none⟩) b1
  rw [k1,k1,k1,k2]
  exact bu.out.1)
 have a6:Hid (∀ wr,Below gt w1 wr→Below w.heap.size w wr):=z_ (fun wr hb=>aY.out.trans (hb.mono o_));have b3:Hid (∀ wr,Below gt w1 wr→Has wr (.slice Au m1 cu) (ivs (nats U))):=z_ (fun wr hb=>HU.out.below n_ (bZ.out ▸ hb));clear hown af bt hgt;go_wp2;go_loopw [10] (fun b4 wr=>∃ (m:Nat) (T:List Nat),b4=.int .i64 m∧1≤m∧m≤z∧Hid (BagT U DD A z m 0 T)∧Hid (wr.ownsRow gt 3 1 (.slice (some ⟨gt,0,none⟩) z z) z (ivs (nats T)))∧Hid (Below gt w1 wr)) (fun v _=>z-(intOf v).toNat)
 case atStart=>exact ⟨1,List.replicate z 0,rfl,Nat.le_refl _,by omega,z_ (BagT.zero z),aZ,bY⟩
 case round=>
  obtain ⟨m,T,rfl,aw,cp,HT,HO,HB⟩:=hrel;by_cases ax:m<z
  ·have d1:decide ((m:Int)<(z:Int))=true:=d_
   have b5:m<128:=o_;go_wp2_with (go_at_call 221;refine (aK.out _).mono ?_;rintro e w0 ⟨rfl,rfl⟩)
   go_loopw [11] (fun b6 wr=>∃ (i c:Nat) (T:List Nat),b6=.int .i64 i∧i≤p∧Hid (c=sgl A m i)∧Hid (BagT U DD A z m c T)∧Hid (wr.ownsRow gt 3 1 (.slice (some ⟨gt,0,none⟩) z z) z (ivs (nats T)))∧Hid (Below gt w1 wr)) (fun v _=>p-(intOf v).toNat)
   case atStart=>exact ⟨0,0,T,rfl,y_,z_ (qzo A m).symm,HT,HO,HB⟩
   case round=>
    clear HT HO HB;obtain ⟨i,c,T,rfl,cq,HC,HT,HO,HB⟩:=hrel;by_cases bv:i<p
    ·have a7:=z_ (fun W=>qfo i o_ W)
     have bw:=z_ (fun e=>qBv A (m:=m) (i:=i) o_ e);have bx:=z_ (fun e=>qzn A (m:=m) (i:=i) e);obtain ⟨y,hy⟩:=e_ (2 ^ i);rw [← hy] at a7 bw bx;clear hy;by_cases a8:m=y
     ·obtain ⟨ga,oa,rfl,ct,bz⟩:=(bO.out.below n_ (a6.out _ HB.out)).cellAt (j:=i) bv
      rw [qzl Bc_] at bz;obtain ⟨q1,q2⟩:=qbg HO.out ax;have aL:=z_ (bw.out a8);obtain ⟨av,bA⟩:=e_ (A.getD i 0);rw [← bA] at bz aL;have aj:=z_ (HT.out.store ax av)
      have b7:Hid ((wr.setCell ⟨gt,m,none⟩ (.int .i64 (av:Int))).ownsRow gt 3 1 (.slice (some ⟨gt,0,none⟩) z z) z (ivs (nats (T.set m av)))):=z_ (by
       have h9:=qa4 HO.out m (.int .i64 (av:Int));rw [qd0,qc3] at h9
       exact h9)
      have b8:=z_ (HB.out.setCell (p:=⟨gt,m,none⟩) n_ (.int .i64 (av:Int)));have j1:(0:Int)≤(i:Int):=o_;have j2:(i:Int)<(p:Int):=o_;have j3:(0:Int)≤(m:Int):=o_;have j4:(m:Int)<(z:Int):=o_;subst a8;clear bA;go_wp2_with (go_at_call 221;refine (a7.out _).mono ?_;rintro e w0 ⟨rfl,rfl⟩)
      go_roundw
      case rel=>exact ⟨i+1,av,_,by go_num,by omega,z_ aL.out.symm,aj,b7,b8⟩
      case measure=>simp [intOf];omega
     ·have aL:=z_ (HC.out.trans (bx.out a8).symm)
      have d3:((m:Int)==(y:Int))=false:=by simp;omega
      have d4:decide ((m:Int)=(y:Int))=false:=f_;go_wp2_with (go_at_call 221;refine (a7.out _).mono ?_;rintro e w0 ⟨rfl,rfl⟩)
      go_roundw
      case rel=>exact ⟨i+1,c,T,by go_num,by omega,aL,HT,HO,HB⟩
      case measure=>simp [intOf];omega
    ·obtain rfl:i=p:=o_
     have ay:m &&& ((m-1) &&& m)=(m-1) &&& m:=by rw [Nat.and_comm (m-1) m,← Nat.and_assoc,Nat.and_self]
     have b9:(m-1) &&& m≤m-1:=Nat.and_le_left;have ba:=qBw (U:=U) (D:=DD) (A:=A) (p:=i) (m:=m) (fun j e=>bo.out m j e ax) aP.out aQ.out;rw [← HC.out,qkn] at ba;have ca:bits .and .i64 ((m:Int)-1) (m:Int)=(((m-1) &&& m:Nat):Int):=by
      have:=qtz (m-1) m o_ o_;rw [show (((m-1:Nat)):Int)=(m:Int)-1 by omega] at this;exact this
     have cv:IntKind.i64.wrap ((m:Int)-1)=(m:Int)-1:=qcf _ o_ o_;have ak:=z_ (And.intro ay ba);obtain ⟨l0,az⟩:=e_ ((m-1) &&& m);rw [← az] at ca ak b9;clear az ay ba bv;have bb:l0<m:=o_;go_wp2;go_loopw [12] (fun cc wr=>∃ (l c:Nat) (T:List Nat),cc=.int .i64 l∧l<m∧Hid (m &&& l=l∧c ||| orL (bagF U DD A m) (leftsFrom m l)=V true U DD A m)∧Hid (BagT U DD A z m c T)∧Hid (wr.ownsRow gt 3 1 (.slice (some ⟨gt,0,none⟩) z z) z (ivs (nats T)))∧Hid (Below gt w1 wr)) (fun v _=>(intOf v).toNat)
     case atStart=>exact ⟨l0,c,T,rfl,bb,ak,HT,HO,HB⟩
     case round=>
      clear HT HO HB ak;obtain ⟨l,c,T,rfl,bB,HI,HT,HO,HB⟩:=hrel;by_cases az:l=0
      ·subst az
       have aj:Hid (BagT U DD A z (m+1) 0 T):=z_ (HT.out.next (by have:=HI.out.2;rw [qf8] at this;simpa [orL] using this));go_wp2;go_roundw
       case rel=>exact ⟨m+1,T,by go_num,by omega,by omega,aj,HO,HB⟩
       case measure=>simp [intOf];omega
      ·have bC:=qm6 HI.out.1 o_
       have bD:=qm7 HI.out.1 bB;have ce:bits .xor .i64 (m:Int) (l:Int)=((rest m l:Nat):Int):=qBu m l o_ o_;have cf:bits .and .i64 ((l:Int)-1) (m:Int)=(((l-1) &&& m:Nat):Int):=by
        have:=qtz (l-1) m o_ o_;rw [show (((l-1:Nat)):Int)=(l:Int)-1 by omega] at this;exact this
       have cw:IntKind.i64.wrap ((l:Int)-1)=(l:Int)-1:=qcf _ o_ o_;have aA:(l-1) &&& m≤l-1:=Nat.and_le_left;have bc:m &&& ((l-1) &&& m)=(l-1) &&& m:=by rw [Nat.and_comm (l-1) m,← Nat.and_assoc,Nat.and_self]
       have aB:(c ||| bagF U DD A m l) ||| orL (bagF U DD A m) (leftsFrom m ((l-1) &&& m))=V true U DD A m:=by
        have:=HI.out.2;rw [qf9 m l az,qrw] at this;rw [Nat.or_assoc];exact this
       have aq:bagF U DD A m l=upC U (giveR DD [V true U DD A l,V true U DD A (rest m l)]):=rfl;obtain ⟨l2,bE⟩:=e_ ((l-1) &&& m);rw [← bE] at cf aA bc aB;obtain ⟨rr,bF⟩:=e_ (rest m l);rw [← bF] at bC bD ce aq;obtain ⟨q1,f1⟩:=qbg HO.out ax;obtain ⟨q2,_⟩:=qbg HO.out (show l<z by omega);obtain ⟨q3,_⟩:=qbg HO.out (show rr<z by omega);rw [HT.out.2.2.1] at q1;rw [HT.out.2.1 l o_ bB] at q2;rw [HT.out.2.1 rr bD bC] at q3;have bG:=ai.out l;have bH:=ai.out rr;have hcm:c≤V true U DD A m:=by rw [← HI.out.2];exact Nat.left_le_or
       have cg:=ai.out m;obtain ⟨a2,bI⟩:=e_ (V true U DD A l);obtain ⟨a3,bJ⟩:=e_ (V true U DD A rr);rw [← bI] at q2 bG aq;rw [← bJ] at q3 bH aq;have aM:=z_ (fun W vu va hW hu h1=>aJ.out W vu a2 a3 o_ o_ va hW hu h1);have bK:=aR.out a2 a3;obtain ⟨gv,bL⟩:=e_ (upC U (giveR DD [a2,a3]));rw [← bL] at aM aq bK;rw [aq] at aB;have ch:=qjw c gv o_ o_;obtain ⟨cn,aC⟩:=e_ (c ||| gv);rw [← aC] at ch aB;have HN:=z_ (And.intro bc aB);have aj:=z_ (HT.out.store ax cn);have HS:Hid (SChn w.heap.size g (o+k*5) gt l rr (.slice A1 m1 c1) (.slice A2 m2 c2) (.slice (some ⟨g,o,none⟩) m3 c3) (.slice Ad dl cd) a2 a3 wr):=z_ ⟨b2.out wr HB.out,q2,q3⟩;have au:=z_ (a6.out wr HB.out);have bd:=z_ (b3.out wr HB.out);have ae:gt<wr.heap.size:=l_ q1;have j1:(0:Int)≤(m:Int):=o_;have j2:(m:Int)<(z:Int):=o_;have j3:(0:Int)≤(l:Int):=o_;have j4:(l:Int)<(z:Int):=o_;have j5:(0:Int)≤(rr:Int):=o_;have j6:(rr:Int)<(z:Int):=o_;have al:m≠l:=o_;have am:m≠rr:=o_;have d5:decide ((l:Int) > 0)=true:=d_;have an:∀ ob,Below wr.heap.size wr (wr.alloc ob).drew:=fun ob=>(b_.alloc n_ ob).drew
       have aa:=z_ an;have cx:∀ ob,(wr.alloc ob).drew.cell? ⟨gt,m,none⟩=some (.int .i64 (c:Int)):=fun ob=>((an ob).cell (p:=⟨gt,m,none⟩) ae).trans q1
       have ao:w.heap.size≠gt:=o_;have ap:g≠gt:=o_;have ci:l2<l:=o_;clear an bI bJ bL aC bE bF bc aB aq hcm cg bG bH bK aA;go_wp2_with fail
       refine wp_region_noPanic ?_;refine wp_region_held_drew (S:=(SChn w.heap.size g (o+k*5) gt l rr (.slice A1 m1 c1) (.slice A2 m2 c2) (.slice (some ⟨g,o,none⟩) m3 c3) (.slice Ad dl cd) a2 a3)) k_ ?_ (fun aD=>?_)
       ·first|exact SChn.below HS.out Bf_|exact ac.out _
       refine t_k 0 ?_;refine t_k 1 ?_;refine t_k 2 ?_;refine t_k 3 ?_;refine t_k 4 ?_;refine t_k 6 ?_;refine t_k 7 ?_;refine t_k 8 ?_;refine t_k 9 ?_;refine t_k 10 ?_;refine t_k 11 ?_;refine t_k 12 ?_;refine t_k 13 ?_;refine t_k 14 ?_;refine t_k 15 ?_;refine t_k 16 ?_;refine t_k 17 ?_;refine t_k 18 ?_;refine t_k 19 ?_;refine t_k 20 ?_;refine t_k 21 ?_;refine t_k 22 ?_;refine r_d [5,23] ?_;refine c_s (fun K hK=>?_) ?_
       ·go_simp
        refine k_o hK ?_ (fun be=>?_)
        ·exact c103_
        clear hK K aD;refine r_d [23] ?_;refine c_s (fun K hK=>?_) ?_
        ·go_simp
         refine k_o hK ?_ (fun bf=>?_)
         ·exact c103_
         clear hK K be;refine r_d [24] ?_;refine c_s (fun K hK=>?_) ?_
         ·(go_simp;refine (aM.out _ _ _ (au.out.trans ((aa.out _).mono au.out.size)) (bd.out.below n_ (aa.out _)) (qdb _ a2 a3)).mono ?_;rintro e w5 ⟨rfl,ag⟩;have ab:Hid (Below wr.heap.size wr w5):=z_ ((aa.out (.cells #[.int .i64 (a2:Int),.int .i64 (a3:Int)] 3)).trans (ag.mono (aa.out _).size));have q5:=(ab.out.cell (p:=⟨gt,m,none⟩) ae).trans q1;have f5:=(ab.out.frozen (p:=⟨gt,m,none⟩) ae).trans f1;have ac:Hid (∀ u,SChn w.heap.size g (o+k*5) gt l rr (.slice A1 m1 c1) (.slice A2 m2 c2) (.slice (some ⟨g,o,none⟩) m3 c3) (.slice Ad dl cd) a2 a3 (w5.setCell ⟨gt,m,none⟩ u)):=z_ (fun u=>(SChn.below HS.out ab.out).set ao ap al am u);clear ag;(try dsimp only))
          refine k_o hK ?_ (fun bg=>?_)
          ·exact c103_
          clear hK K bf;refine t_k 25 ?_;refine t_k 26 ?_;refine r_d [27] ?_;refine c_s (fun K hK=>?_) ?_
          ·go_simp
           refine k_o hK ?_ (fun cj=>?_)
           ·exact c103_
           clear hK K bg;refine wpAnyH_done k_ ?_ _;refine NoPanic.normal ?_
           have aE:Hid ((w5.setCell ⟨gt,m,none⟩ (.int .i64 (cn:Int))).ownsRow gt 3 1 (.slice (some ⟨gt,0,none⟩) z z) z (ivs (nats (T.set m cn)))):=z_ (by
            have h9:=qa4 (own_below HO.out ab.out) m (.int .i64 (cn:Int));rw [qd0,qc3] at h9
            exact h9)
           have aF:=z_ ((HB.out.trans (ab.out.mono (Nat.le_of_lt ae))).setCell (p:=⟨gt,m,none⟩) n_ (.int .i64 (cn:Int)));clear q5 f5;go_wp2;go_roundw
           case rel=>exact ⟨l2,cn,_,rfl,by omega,HN,aj,aE,aF⟩
           case measure=>simp [intOf];omega
          exact a_l
         exact a_l
        exact a_l
       refine c_s (fun K hK=>?_) ?_
       ·go_simp
        refine k_o hK ?_ (fun aG=>?_)
        ·exact c103_
        clear hK K aD;refine r_d [5,24] ?_;refine c_s (fun K hK=>?_) ?_
        ·go_simp
         refine k_o hK ?_ (fun bh=>?_)
         ·exact c103_
         clear hK K aG;refine r_d [24] ?_;refine c_s (fun K hK=>?_) ?_
         ·(go_simp;refine (aM.out _ _ _ (au.out.trans ((aa.out _).mono au.out.size)) (bd.out.below n_ (aa.out _)) (qdb _ a2 a3)).mono ?_;rintro e w5 ⟨rfl,ag⟩;have ab:Hid (Below wr.heap.size wr w5):=z_ ((aa.out (.cells #[.int .i64 (a2:Int),.int .i64 (a3:Int)] 3)).trans (ag.mono (aa.out _).size));have q5:=(ab.out.cell (p:=⟨gt,m,none⟩) ae).trans q1;have f5:=(ab.out.frozen (p:=⟨gt,m,none⟩) ae).trans f1;have ac:Hid (∀ u,SChn w.heap.size g (o+k*5) gt l rr (.slice A1 m1 c1) (.slice A2 m2 c2) (.slice (some ⟨g,o,none⟩) m3 c3) (.slice Ad dl cd) a2 a3 (w5.setCell ⟨gt,m,none⟩ u)):=z_ (fun u=>(SChn.below HS.out ab.out).set ao ap al am u);clear ag;(try dsimp only))
          refine k_o hK ?_ (fun bi=>?_)
          ·exact c103_
          clear hK K bh;refine t_k 25 ?_;refine t_k 26 ?_;refine r_d [27] ?_;refine c_s (fun K hK=>?_) ?_
          ·go_simp
           refine k_o hK ?_ (fun ck=>?_)
           ·exact c103_
           clear hK K bi;refine wpAnyH_done k_ ?_ _;refine NoPanic.normal ?_
           have aE:Hid ((w5.setCell ⟨gt,m,none⟩ (.int .i64 (cn:Int))).ownsRow gt 3 1 (.slice (some ⟨gt,0,none⟩) z z) z (ivs (nats (T.set m cn)))):=z_ (by
            have h9:=qa4 (own_below HO.out ab.out) m (.int .i64 (cn:Int));rw [qd0,qc3] at h9
            exact h9)
           have aF:=z_ ((HB.out.trans (ab.out.mono (Nat.le_of_lt ae))).setCell (p:=⟨gt,m,none⟩) n_ (.int .i64 (cn:Int)));clear q5 f5;go_wp2;go_roundw
           case rel=>exact ⟨l2,cn,_,rfl,by omega,HN,aj,aE,aF⟩
           case measure=>simp [intOf];omega
          exact a_l
         exact a_l
        refine c_s (fun K hK=>?_) ?_
        ·(go_simp;refine (aM.out _ _ _ (au.out.trans ((aa.out _).mono au.out.size)) (bd.out.below n_ (aa.out _)) (qdb _ a2 a3)).mono ?_;rintro e w5 ⟨rfl,ag⟩;have ab:Hid (Below wr.heap.size wr w5):=z_ ((aa.out (.cells #[.int .i64 (a2:Int),.int .i64 (a3:Int)] 3)).trans (ag.mono (aa.out _).size));have q5:=(ab.out.cell (p:=⟨gt,m,none⟩) ae).trans q1;have f5:=(ab.out.frozen (p:=⟨gt,m,none⟩) ae).trans f1;have ac:Hid (∀ u,SChn w.heap.size g (o+k*5) gt l rr (.slice A1 m1 c1) (.slice A2 m2 c2) (.slice (some ⟨g,o,none⟩) m3 c3) (.slice Ad dl cd) a2 a3 (w5.setCell ⟨gt,m,none⟩ u)):=z_ (fun u=>(SChn.below HS.out ab.out).set ao ap al am u);clear ag;(try dsimp only))
         refine k_o hK ?_ (fun bj=>?_)
         ·exact c103_
         clear hK K aG;refine r_d [5] ?_;refine c_s (fun K hK=>?_) ?_
         ·go_simp
          refine k_o hK ?_ (fun aH=>?_)
          ·exact c103_
          clear hK K bj;refine t_k 25 ?_;refine t_k 26 ?_;refine r_d [27] ?_;refine c_s (fun K hK=>?_) ?_
          ·go_simp
           refine k_o hK ?_ (fun bM=>?_)
           ·exact c103_
           clear hK K aH;refine wpAnyH_done k_ ?_ _;refine NoPanic.normal ?_
           have aE:Hid ((w5.setCell ⟨gt,m,none⟩ (.int .i64 (cn:Int))).ownsRow gt 3 1 (.slice (some ⟨gt,0,none⟩) z z) z (ivs (nats (T.set m cn)))):=z_ (by
            have h9:=qa4 (own_below HO.out ab.out) m (.int .i64 (cn:Int));rw [qd0,qc3] at h9
            exact h9)
           have aF:=z_ ((HB.out.trans (ab.out.mono (Nat.le_of_lt ae))).setCell (p:=⟨gt,m,none⟩) n_ (.int .i64 (cn:Int)));clear q5 f5;go_wp2;go_roundw
           case rel=>exact ⟨l2,cn,_,rfl,by omega,HN,aj,aE,aF⟩
           case measure=>simp [intOf];omega
          exact a_l
         exact a_l
        exact a_l
       exact a_l
  ·obtain rfl:m=z:=o_
   have d1:decide ((m:Int)<(m:Int))=false:=f_;obtain ⟨x,hx⟩:=e_ (m-1);have cy:IntKind.i64.wrap ((m:Int)-1)=(x:Int):=by rw [qcf _ o_ o_];omega
   obtain ⟨q1,_⟩:=qbg HO.out (show x<m by omega);rw [HT.out.2.1 x o_ o_] at q1;have HQ:Hid (V true U DD A x=vr):=z_ (by rw [bS.out,hx]);rw [HQ.out] at q1;have j3:(0:Int)≤(x:Int):=o_;have j4:(x:Int)<(m:Int):=o_;have cl:=z_ (a6.out _ HB.out);clear hx;go_wp2_with (go_at_call 221;refine (aK.out _).mono ?_;rintro e w0 ⟨rfl,rfl⟩)
   go_ret;exact ⟨rfl,cl.out⟩
end tsr

namespace tss
open mem dec subs setm sets sortm sortp sorti sortu rowl sigm sigs sigk trm terml termb termt termx rowg gram gramn grami formnd formf tsa tsm tsj tsk tsn tso tsp tsq tsr
abbrev STrm (x y gx ox:Nat)(v0 v1 v2 u0 u1 u2 u3 a0 a1 a2 a3:Value)(W w:World):Prop:=(Box34 x y v0 v1 v2 u0 u1 u2 u3 w∧w.cell? ⟨gx,ox,none⟩=some a0∧w.cell? ⟨gx,ox+1,none⟩=some a1∧w.cell? ⟨gx,ox+2,none⟩=some a2∧w.cell? ⟨gx,ox+3,none⟩=some a3)∧Below W.heap.size W w
theorem STrm.of{gx ox:Nat}{a0 a1 a2 a3:Value}(h:STrm x y gx ox v0 v1 v2 u0 u1 u2 u3 a0 a1 a2 a3 W W)(hb:Below W.heap.size W w):STrm x y gx ox v0 v1 v2 u0 u1 u2 u3 a0 a1 a2 a3 W w:=by
 have k:∀ {a:Addr} {v:Value},W.cell? a=some v→w.cell? a=some v:=fun {a v} h=>(hb.cell (p:=a) (l_ h)).trans h
 exact ⟨⟨Box34.below h.1.1 hb,k h.1.2.1,k h.1.2.2.1,k h.1.2.2.2.1,k h.1.2.2.2.2⟩,hb⟩
abbrev STwo (x y:Nat)(v0 v1 v2 u0 u1 u2 u3:Value)(gr:Nat)(a0 a1:Nat)(W w:World):Prop:=(Box34 x y v0 v1 v2 u0 u1 u2 u3 w∧w.cell? ⟨gr,0,none⟩=some (.int .i64 (a0:Int))∧w.cell? ⟨gr,1,none⟩=some (.int .i64 (a1:Int)))∧Below W.heap.size W w
theorem STwo.of{gr a0 a1:Nat}(h:STwo x y v0 v1 v2 u0 u1 u2 u3 gr a0 a1 W W)(hb:Below W.heap.size W w):STwo x y v0 v1 v2 u0 u1 u2 u3 gr a0 a1 W w:=by
 have k:∀ {a:Addr} {v:Value},W.cell? a=some v→w.cell? a=some v:=fun {a v} h=>(hb.cell (p:=a) (l_ h)).trans h
 exact ⟨⟨Box34.below h.1.1 hb,k h.1.2.1,k h.1.2.2⟩,hb⟩
theorem qBx{l:List Nat}(h:l.length=2):∃ a b,l=[a,b]:=by
 match l,h with
 | [a,b],_=>exact ⟨a,b,rfl⟩
theorem qto (L:List Nat)(x:Nat):ivs (nats (L++[x]))=ivs (nats L)++[.int .i64 (x:Int)]:=by rw [qvc,qsd];rfl
def SrtC (P:List (List UInt8))(Q:List (Int×Int))(O:List OpM)(n:Nat):Prop:=∀ (va vb vc:Value) (t:TermM) (v:Value) (w:World) (lo:Nat),HasG w va vb vc P Q O→HasTs n lo w v t.args→Bnd t→qay P Q O t→
 Calls Tryz.prog 135 #[.agg #[va,vb,vc],aggT t v] w fun e w'=>e=.returned (.int .i64 ((sortsT (clo P.length (prs Q)) O t:Nat):Int))∧Below w.heap.size w w'
theorem c104_{p:Prop}(h:p:=by
 (try dsimp only);exact HS.out.of (by first|exact b_.drew|exact aa.out _|exact ad.out|exact ab.out _|exact ak.out)
):p:=h
theorem c105_{p:Prop}(h:p:=by
 rintro e w5 ⟨rfl,af⟩;have aZ:=z_ (ae.out.trans (af.mono ae.out.size));clear af;go_wp2;go_ret;exact ⟨rfl,aZ.out⟩
):p:=h
theorem c106_{p:Prop}(h:p:=by
 (try dsimp only);exact bi.out _ (by first|exact HB.out.drew|exact ai.out|exact aO.out _|exact ad.out)
):p:=h
theorem c107_{p:Prop}(h:p:=by
 (try dsimp only);first|(with_reducible assumption)|(exact bh)
):p:=h
set_option maxRecDepth 50000 in
set_option maxHeartbeats 16000000 in
theorem qoe (P:List (List UInt8))(Q:List (Int×Int))(O:List OpM)(an:qah P Q O=true)(hS:∀ k,N=k+1→SrtC P Q O k):SrtC P Q O N:=by
 intro va vb vc t v w lo h ht hB hF;have aC:=(qa8 an).1;obtain ⟨p1,p2,p3,p4,_⟩:=qb2 aC;have aD:=qh7 aC;have bN:=qc9 P.length (prs Q);have b9:=pow8 p2;obtain ⟨ac,ay,_⟩:=(qar P Q O t).1 hF;have aq:=z_ (qky (clo P.length (prs Q)) O t);have aL:=z_ (qem aD O);rw [bN] at aL;obtain ⟨sv,aM⟩:=e_ (sortsT (clo P.length (prs Q)) O t);rw [← aM] at aq ⊢;have bp:=z_ (fun W (hW:Below w.heap.size w W)=>qgd P Q p1 p2 o_ p3 va vb W (h.s.below n_ hW));have bq:Hid (∀ kn,N=kn+1→∀ (x:TermM) (vx:Value) (W:World),Below w.heap.size w W→HasTs kn lo W vx x.args→Bnd x→qay P Q O x→Calls Tryz.prog 135 #[.agg #[va,vb,vc],aggT x vx] W fun e w'=>e=.returned (.int .i64 ((sortsT (clo P.length (prs Q)) O x:Nat):Int))∧Below W.heap.size W w'):=z_ (fun kn e x vx W hW hx ca cc=>hS kn e va vb vc x vx W lo (h.below n_ hW) hx ca cc);obtain ⟨B,cb,rfl,_⟩:=HasR.shape ht rfl
 have aE:Hid (∀ k:Nat,t.op=(k:Int)→(O.getD k default).ass=true→(O.getD k default).com=true→∀ W vs,Below w.heap.size w W→Has W vs (ivs (nats (t.args.map (sortsT (clo P.length (prs Q)) O))))→Calls Tryz.prog 180 #[.agg #[va,vb,vc],.int .i64 (k:Int),vs] W fun e w'=>e=.returned (.int .i64 (sv:Int))∧Below W.heap.size W w'):=z_ (fun k hk ha hc W vs hW hv=>by
  have ao:t.op≠-1:=o_;obtain ⟨n1,_,n3,_,n5,_⟩:=qf5 an ac ao;rw [hk,Int.toNat_natCast] at n1 n5;have n6:=n5 (by rw [ha];rfl);have hr:=qx8 P Q O an k n1 (t.args.map (sortsT (clo P.length (prs Q)) O)) n6.1 (by rw [List.length_map];exact n6.2) (by rw [List.length_map];exact n3) (qd4 (_U:=[]) (fun a _=>aL.out a)) va vb vc vs W (h.below n_ hW) hv;have e:sv=V true (clo P.length (prs Q)) (O.getD k default).decls (t.args.map (sortsT (clo P.length (prs Q)) O)) (2 ^ (t.args.map (sortsT (clo P.length (prs Q)) O)).length-1):=by
   rw [aq.out,if_neg ao,hk,Int.toNat_natCast,sortsA,ha,hc];rfl
  rw [← e] at hr
  exact hr)
 have aF:Hid (∀ k:Nat,t.op=(k:Int)→(O.getD k default).ass=true→(O.getD k default).com=false→∀ W vs,Below w.heap.size w W→Has W vs (ivs (nats (t.args.map (sortsT (clo P.length (prs Q)) O))))→Calls Tryz.prog 181 #[.agg #[va,vb,vc],.int .i64 (k:Int),vs] W fun e w'=>e=.returned (.int .i64 (sv:Int))∧Below W.heap.size W w'):=z_ (fun k hk ha hc W vs hW hv=>by
  have ao:t.op≠-1:=o_;obtain ⟨n1,_,n3,_,n5,_⟩:=qf5 an ac ao;rw [hk,Int.toNat_natCast] at n1 n5;have n6:=n5 (by rw [ha];rfl);have hr:=qq3 P Q O an k n1 (t.args.map (sortsT (clo P.length (prs Q)) O)) n6.1 (by rw [List.length_map];exact n6.2) (by rw [List.length_map];exact n3) (qd4 (_U:=[]) (fun a _=>aL.out a)) va vb vc vs W (h.below n_ hW) hv;have e:sv=V false (clo P.length (prs Q)) (O.getD k default).decls (t.args.map (sortsT (clo P.length (prs Q)) O)) (2 ^ (t.args.map (sortsT (clo P.length (prs Q)) O)).length-1):=by
   rw [aq.out,if_neg ao,hk,Int.toNat_natCast,sortsA,ha,hc];rfl
  rw [← e] at hr
  exact hr)
 have aG:Hid (∀ k:Nat,t.op=(k:Int)→(O.getD k default).ass=false→∀ (A:List Nat),A.length=t.args.length→(∀ i,A.getD i 0<2 ^ P.length)→∀ W vs,Below w.heap.size w W→Has W vs (ivs (nats A))→Calls Tryz.prog 182 #[.agg #[va,vb,vc],.int .i64 (k:Int),vs] W fun e w'=>e=.returned (.int .i64 ((upC (clo P.length (prs Q)) (giveR (O.getD k default).decls A):Nat):Int))∧Below W.heap.size W w'):=z_ (fun k hk ha A hA au W vs hW hv=>by
  have ao:t.op≠-1:=o_;obtain ⟨n1,_,_,_,_,n6⟩:=qf5 an ac ao;rw [hk,Int.toNat_natCast] at n1 n6
  exact qq2 P Q O an k n1 A (by rw [hA];exact n6 ha) (fun i=>w_ (au i) o_) va vb vc vs W (h.below n_ hW) hv)
 have br:Hid (∀ k:Nat,t.op=(k:Int)→(O.getD k default).ass=false→(O.getD k default).com=false→sv=upC (clo P.length (prs Q)) (giveR (O.getD k default).decls (t.args.map (sortsT (clo P.length (prs Q)) O)))):=z_ (fun k hk ha hc=>by
  rw [aq.out,if_neg o_,hk,Int.toNat_natCast,sortsA,ha,hc]
  rfl)
 have bs:Hid (∀ k:Nat,t.op=(k:Int)→(O.getD k default).ass=false→(O.getD k default).com=true→t.args.length=2∧∀ a b,t.args.map (sortsT (clo P.length (prs Q)) O)=[a,b]→sv=upC (clo P.length (prs Q)) (giveR (O.getD k default).decls [a,b]) ||| upC (clo P.length (prs Q)) (giveR (O.getD k default).decls [b,a])):=z_ (fun k hk ha hc=>by
  have ao:t.op≠-1:=o_;obtain ⟨_,_,_,_,n5,n6⟩:=qf5 an ac ao;rw [hk,Int.toNat_natCast] at n5 n6;refine ⟨by rw [n6 ha];exact (n5 (by rw [hc];simp)).1,fun a b e=>?_⟩;rw [aq.out,if_neg ao,hk,Int.toNat_natCast,sortsA,ha,hc,e]
  exact qCy _ _ a b)
 obtain ⟨A1,c1,A2,c2,A3,c3,rfl,rfl,rfl,_,_,_,h'⟩:=h.shape;have bO:=z_ ht;have bP:=z_ ay;have be:=z_ (qCo (clo P.length (prs Q)) O t.args);have bt:=z_ h'.o
 have aR:Hid (t.op=-1→(0≤t.sort∧t.sort<P.length)∧sv=(clo P.length (prs Q)).getD t.sort.toNat 0):=z_ (fun e=>by
  have h9:=ac;unfold qby at h9;rw [if_pos e] at h9
  exact ⟨h9.2.1,by rw [aq.out,if_pos e]⟩)
 have bf:Hid (t.op≠-1→∃ k:Nat,t.op=(k:Int)∧k<O.length∧t.args.length≤7):=z_ (fun e=>by
  obtain ⟨n1,n2,n3,_⟩:=qf5 an ac e
  exact ⟨t.op.toNat,by omega,n1,n3⟩)
 obtain ⟨L,hL⟩:=e_ (t.args);obtain ⟨q,hq⟩:=e_ (t.args.length);have bg:Hid (q=L.length):=z_ (by rw [hq,hL]);obtain ⟨to,az⟩:=e_ (t.op);obtain ⟨tn,bQ⟩:=e_ (t.name);obtain ⟨ts,bu⟩:=e_ (t.sort);obtain ⟨m1,aj⟩:=e_ (P.length);obtain ⟨m2,aN⟩:=e_ (Q.length);obtain ⟨m3,aH⟩:=e_ (O.length);unfold aggT;rw [← hq,← az,← bQ,← bu,← aj,← aN,← aH];rw [← aj] at aL b9;rw [← aj,← aN] at bp;rw [← aj,← aN,← aH] at bq;rw [← az,← aj,← aN,← aH,← hL] at aE aF;rw [← az,← aj,← aN,← aH,← hq] at aG;rw [← az,← aj,← hL] at br;rw [← az,← aj,← hq,← hL] at bs;rw [← az,← bu,← aj] at aR;rw [← az,← aH,← hq] at bf;rw [← hq,← hL] at bO;rw [← hL] at bP be;rw [← aj] at be;rw [← aH] at bt;obtain ⟨U,hU⟩:=e_ (clo m1 (prs Q));have bR:Hid (U.length=m1):=z_ (by rw [hU];exact qc9 _ _);have bS:Hid (Lim U):=z_ (by rw [hU,aj];exact aD);rw [← hU] at aL bp bq aE aF aG br bs aR be;clear h h' ht hB hF ac ay aC p1 p2 p3 p4 aD bN aq aM hq hL az bQ bu aj aN aH hS an hU;obtain ⟨W,hW⟩:=e_ ((w.alloc (.cells #[.slice A1 m1 c1,.slice A2 m2 c2,.slice A3 m3 c3] 46)).alloc (.cells #[.int .i64 to,.string (bstr tn),.int .i64 ts,.slice B q cb] 38));have bT:Below w.heap.size w W:=by
  rw [hW];exact v_
 have bU:Box34 w.heap.size (w.heap.size+1) (.slice A1 m1 c1) (.slice A2 m2 c2) (.slice A3 m3 c3) (.int .i64 to) (.string (bstr tn)) (.int .i64 ts) (.slice B q cb) W:=by
  rw [hW];exact ⟨tsl.box3 (tsl.qbd _ _ _),box4 (termt.qa5 _ _ _ (by simp))⟩
 have HX:=z_ bU;have aI:=z_ bT;have HZ:Hid (W.heap.size=w.heap.size+1+1):=z_ (by rw [hW];simp);obtain ⟨⟨x0,x1,x2⟩,y0,y1,y2,y3⟩:=bU;clear bT;obtain ⟨j0,ce,cf,cg,ch⟩:=info_parts qdt;by_cases hv:to=-1
 ·obtain ⟨⟨cN,cO⟩,aM⟩:=aR.out hv
  obtain ⟨s,rfl⟩:∃ s:Nat,ts=(s:Int):=⟨ts.toNat,by omega⟩;rw [Int.toNat_natCast] at aM;have ci:s<m1:=o_;have aq:=z_ aM;subst hv;clear aM aR bf;go_enter Tryz.func135,Tryz.ntmps135
  go_wp2_with fail
  rw [← hW];clear hW;go_wp2_with fail
  refine wp_region_noPanic ?_;refine wp_region_held_drew (S:=(Box34 w.heap.size (w.heap.size+1) (.slice A1 m1 c1) (.slice A2 m2 c2) (.slice A3 m3 c3) (.int .i64 (-1)) (.string (bstr tn)) (.int .i64 (s:Int)) (.slice B q cb))) k_ ?_ (fun ah=>?_)
  ·exact HX.out
  refine t_k 0 ?_;refine t_k 1 ?_;refine t_k 3 ?_;refine t_k 4 ?_;refine r_d [2] ?_;refine c_s (fun K hK=>?_) ?_
  ·(go_simp;refine (bp.out W.drew aI.out.drew).mono ?_;rintro e w1 ⟨cP,rfl,hown,bv⟩;obtain ⟨gu,cu,rfl,cQ,cR⟩:=qce hown Bd_;obtain ⟨d0,_⟩:=qbg hown ci;rw [← aq.out] at d0;have bh:=Box34.below (w:=W.drew) HX.out bv;have cj:Hid (Below w.heap.size w w1):=z_ (aI.out.drew.trans (bv.mono aI.out.size));have j1:(0:Int)≤(s:Int):=o_;have j2:(s:Int)<(m1:Int):=o_;clear hown bv;(try dsimp only))
   refine k_o hK ?_ (fun al=>?_)
   ·exact c107_
   clear hK K ah;refine r_d [5] ?_;refine c_s (fun K hK=>?_) ?_
   ·go_simp
    refine k_o hK ?_ (fun am=>?_)
    ·exact c107_
    clear hK K al;refine r_d [6] ?_;refine c_s (fun K hK=>?_) ?_
    ·go_simp
     refine k_o hK ?_ (fun av=>?_)
     ·exact c107_
     clear hK K am;refine r_d [7] ?_;refine c_s (fun K hK=>?_) ?_
     ·go_simp
      refine k_o hK ?_ (fun bw=>?_)
      ·exact c107_
      clear hK K av;refine wpAnyH_done k_ ?_ _;refine NoPanic.normal ?_;go_wp2;go_ret;exact ⟨rfl,cj.out⟩
     exact a_l
    exact a_l
   exact a_l
  exact a_l
 ·obtain ⟨k,hk,ck,cS⟩:=bf.out hv
  have v1:(to==-1)=false:=by simp [hv]
  have v2:decide (to=-1)=false:=decide_eq_false hv;have HV:=z_ hv;have HK:=z_ hk;obtain ⟨ap,oo,Ad,cd,cl,_,aS,e0,e1,e2,e3,e4,_,_,_⟩:=qcm bt.out ck;have cm:=z_ (And.intro e0 (And.intro e1 (And.intro e2 (And.intro e3 e4))));subst cl;clear aR bf hv hk e0 e1 e2 e3 e4 bt;go_enter Tryz.func135,Tryz.ntmps135
  go_wp2_with fail
  rw [← hW];clear hW;go_wp2
  have aT:Hid ((W.alloc (.cells #[] 3)).ownsRow W.heap.size 3 1 (.slice (some ⟨w.heap.size+1+1,0,none⟩) 0 0) 0 (ivs (nats ([]:List Nat)))):=z_ (by
   rw [← HZ.out];have:=World.ownsRow_lit (e:=3) (size:=1) W #[] 0 n_ Aa_ rfl
   simpa [ivs,nats] using this)
  clear x0 x1 x2 y0 y1 y2 y3;go_loopw [5,6] (fun v5 v6 wr=>∃ p:Nat,v6=.int .i64 p∧p≤q∧Hid (wr.ownsRow W.heap.size 3 1 v5 p (ivs (nats ((L.take p).map (sortsT U O)))))∧Hid (Below W.heap.size W wr)) (fun _ i _=>q-(intOf i).toNat)
  case atStart=>exact ⟨0,rfl,y_,z_ (by simpa using aT.out),z_ (b_.alloc n_ _)⟩
  case round=>
   obtain ⟨p,rfl,hp,HO,HB⟩:=hrel;clear aT;have hsz:=HB.out.size;have bV:=Box34.below HX.out HB.out;have cn:=z_ bV;obtain ⟨⟨x0,x1,x2⟩,y0,y1,y2,y3⟩:=bV;have aw:=z_ (aI.out.trans (HB.out.mono aI.out.size));by_cases co:p<q
   ·obtain ⟨kn,gx,ox,B2,cx,cp,rfl,_,aA,f0,f1,f2,f3,bx,bz⟩:=qal bO.out co
    have aU:=aw.out;have aV:L.getD p default∈L:=by rw [List.getD_eq_getElem?_getD,List.getElem?_eq_getElem (by have:=bg.out;omega)];exact List.getElem_mem _
    have bA:=bP.out _ aV;have aJ:=z_ (be.out p (by have:=bg.out;omega));have g0:=(aU.cell (p:=⟨gx,ox+p*4,none⟩) aA).trans f0;have g1:=(aU.cell (p:=⟨gx,ox+p*4+1,none⟩) aA).trans f1;have g2:=(aU.cell (p:=⟨gx,ox+p*4+2,none⟩) aA).trans f2;have g3:=(aU.cell (p:=⟨gx,ox+p*4+3,none⟩) aA).trans f3;obtain ⟨x,hx⟩:=e_ (L.getD p default);rw [← hx] at g0 g1 g2 g3 bx bz bA aJ;have bW:Hid (∀ W',Below w.heap.size w W'→Calls Tryz.prog 135 #[.agg #[.slice A1 m1 c1,.slice A2 m2 c2,.slice (some ⟨ap,oo,none⟩) m3 c3],.agg #[.int .i64 x.op,.string (bstr x.name),.int .i64 x.sort,.slice B2 x.args.length cx]] W' fun e w'=>e=.returned (.int .i64 ((sortsT U O x:Nat):Int))∧Below W'.heap.size W' w'):=z_ (fun W' bX=>bq.out kn cp x (.slice B2 x.args.length cx) W' bX (bx.below n_ bX) bz bA);obtain ⟨xv,bY⟩:=e_ (sortsT U O x);rw [← bY] at bW aJ
    have bi:Hid (∀ w',Below W.heap.size W w'→(Box34 w.heap.size (w.heap.size+1) (.slice A1 m1 c1) (.slice A2 m2 c2) (.slice (some ⟨ap,oo,none⟩) m3 c3) (.int .i64 to) (.string (bstr tn)) (.int .i64 ts) (.slice (some ⟨gx,ox,none⟩) q cb) w'∧w'.cell? ⟨gx,ox+p*4,none⟩=some (.int .i64 x.op)∧w'.cell? ⟨gx,ox+p*4+1,none⟩=some (.string (bstr x.name))∧w'.cell? ⟨gx,ox+p*4+2,none⟩=some (.int .i64 x.sort)∧w'.cell? ⟨gx,ox+p*4+3,none⟩=some (.slice B2 x.args.length cx))∧Below W.heap.size W w'):=z_ (fun w' bB=>by
     have bj:=aI.out.trans (bB.mono aI.out.size);rw [hx]
     exact ⟨⟨Box34.below HX.out bB,(bj.cell (p:=⟨gx,ox+p*4,none⟩) aA).trans f0,(bj.cell (p:=⟨gx,ox+p*4+1,none⟩) aA).trans f1,(bj.cell (p:=⟨gx,ox+p*4+2,none⟩) aA).trans f2,(bj.cell (p:=⟨gx,ox+p*4+3,none⟩) aA).trans f3⟩,bB⟩)
    have i1:(0:Int)≤(p:Int):=o_;have i2:(p:Int)<(q:Int):=o_;have d1:decide ((p:Int)<(q:Int))=true:=d_;obtain ⟨wo,rfl⟩:∃ wo,wo=wr:=⟨wr,rfl⟩;clear f0 f1 f2 f3 bx bz bA aV hx bY aU;go_wp2_with fail
    refine wp_region_noPanic ?_;refine wp_region_held_drew (S:=(fun w'=>(Box34 w.heap.size (w.heap.size+1) (.slice A1 m1 c1) (.slice A2 m2 c2) (.slice (some ⟨ap,oo,none⟩) m3 c3) (.int .i64 to) (.string (bstr tn)) (.int .i64 ts) (.slice (some ⟨gx,ox,none⟩) q cb) w'∧w'.cell? ⟨gx,ox+p*4,none⟩=some (.int .i64 x.op)∧w'.cell? ⟨gx,ox+p*4+1,none⟩=some (.string (bstr x.name))∧w'.cell? ⟨gx,ox+p*4+2,none⟩=some (.int .i64 x.sort)∧w'.cell? ⟨gx,ox+p*4+3,none⟩=some (.slice B2 x.args.length cx))∧Below W.heap.size W w')) k_ ?_ (fun ah=>?_)
    ·exact bi.out _ (by first|exact HB.out.drew|exact ai.out|exact aO.out _|exact ad.out)
    refine t_k 0 ?_;refine t_k 1 ?_;refine t_k 2 ?_;refine t_k 3 ?_;refine t_k 4 ?_;refine t_k 5 ?_;refine t_k 6 ?_;refine r_d [7] ?_;refine c_s (fun K hK=>?_) ?_
    ·(go_simp;refine (bW.out _ aw.out.drew).mono ?_;rintro e w2 ⟨rfl,bZ⟩;have bk:Hid (Below wo.heap.size wo w2):=z_ (b_.drew.trans bZ);have ai:Hid (Below W.heap.size W w2):=z_ (HB.out.trans (bk.out.mono hsz));have b0:=z_ (own_below HO.out bk.out);have aO:Hid (∀ ob,Below W.heap.size W (w2.alloc ob)):=z_ (fun ob=>ai.out.alloc ai.out.size ob);have cq:Hid (∀ ob,Below wo.heap.size wo (w2.alloc ob)):=z_ (fun ob=>bk.out.alloc bk.out.size ob);have ct:Hid (∀ ob,Below w2.heap.size w2 (w2.alloc ob)):=z_ (fun ob=>b_.alloc n_ ob);have b1:Hid (∀ ob,W.heap.size≤(w2.alloc ob).heap.size):=z_ (fun ob=>(aO.out ob).size);clear bZ;(try dsimp only))
     refine k_o hK ?_ (fun al=>?_)
     ·exact c106_
     clear hK K ah;refine r_d [8] ?_;refine c_s (fun K hK=>?_) ?_
     ·go_simp
      refine k_o hK ?_ (fun am=>?_)
      ·exact c106_
      clear hK K al;refine r_d [9] ?_;refine c_s (fun K hK=>?_) ?_
      ·(refine qbc (by rfl) _ _ _ (by rfl) W.heap.size 3 j0 (.int .i64 0) 1 8 Tryz.underlying60 ce cf cg ch rfl o_ _ p _ (by rfl) (own_below b0.out (ct.out _)) ⟨w2.heap.size,0,none⟩ 1 1 [.int .i64 (xv:Int)] (by rfl) o_ (by rfl) (qfn _ _ _) (qgn _ rfl) Aa_ o_ (b1.out _) ?_;intro g4 bC w5 aB aW cv bD;have ad:Hid (Below W.heap.size W w5):=z_ ((aO.out _).grown aW (b1.out _) (qb7 b0.out));clear aW cv bD)
       refine k_o hK ?_ (fun av=>?_)
       ·exact c106_
       clear hK K am;refine t_k 10 ?_;refine wpAnyH_done k_ ?_ _;refine NoPanic.normal ?_;have cw:Hid (w5.ownsRow W.heap.size 3 1 (.slice (some ⟨g4,0,none⟩) (p+1) bC) (p+1) (ivs (nats ((L.take (p+1)).map (sortsT U O))))):=z_ (by rw [aJ.out,qto];exact aB);clear aB;go_wp2;go_roundw
       case rel=>exact ⟨p+1,by go_num,by omega,cw,ad⟩
       case measure=>simp [intOf];omega
      exact a_l
     exact a_l
    exact a_l
   ·obtain rfl:p=q:=o_
    have d1:decide ((p:Int)<(p:Int))=false:=f_;have cy:Hid ((L.take p).map (sortsT U O)=L.map (sortsT U O)):=z_ (by rw [bg.out,List.take_length]);have ho:=HO.out;rw [cy.out] at ho;have cz:=z_ ho;obtain ⟨Ar,cr,rfl,_⟩:=qaz ho;have cA:=z_ (Has.of_own ho);obtain ⟨e0,e1,e2,e3,e4⟩:=cm.out;have c0:=(aw.out.cell (p:=⟨ap,oo+k*5,none⟩) aS).trans e0;have bE:=(aw.out.cell (p:=⟨ap,oo+k*5+1,none⟩) aS).trans e1;have b2:=(aw.out.cell (p:=⟨ap,oo+k*5+2,none⟩) aS).trans e2;have b3:=(aw.out.cell (p:=⟨ap,oo+k*5+3,none⟩) aS).trans e3;have c4:=(aw.out.cell (p:=⟨ap,oo+k*5+4,none⟩) aS).trans e4;have b4:=z_ (aE.out k HK.out);have b5:=z_ (aF.out k HK.out);have bl:=z_ (aG.out k HK.out);have aX:=z_ (br.out k HK.out);have aY:=z_ (bs.out k HK.out);obtain ⟨⟨nm,ds,ass,com,un⟩,b6⟩:∃ op,op=O.getD k default:=⟨_,rfl⟩;rw [← b6] at c0 bE b2 b3 c4 b4 b5 bl aX aY;simp only [] at c0 bE b2 b3 c4;obtain ⟨dl,b7⟩:=e_ (ds.length);rw [← b7] at bE;have i1:(0:Int)≤(k:Int):=o_;have i2:(k:Int)<(m3:Int):=o_;have hk:=HK.out;subst hk;clear e0 e1 e2 e3 e4 b6 b7 ho HO;obtain ⟨WA,aK⟩:=e_ (wr.alloc (.cells #[.string (bstr nm),.slice Ad dl cd,.bool ass,.bool com,.int .i64 un] 124));have aP:=fr1_ aK;have bF:=fr2_ aK;have cT:=z_ aP;have ae:=z_ (aw.out.trans (aP.mono aw.out.size));have bG:=z_ (Box34.below cn.out aP);have ax:=z_ (cA.out.below n_ aP);have bH:=z_ (own_below cz.out aP);have kA:∀ {g y:Nat} {v:Value},wr.cell? ⟨g,y,none⟩=some v→∀ ob,(wr.alloc ob).cell? ⟨g,y,none⟩=some v:=fun {g y v} h ob=>(((Below.refl wr.heap.size wr).alloc n_ ob).cell (p:=⟨g,y,none⟩) (l_ h)).trans h
    have cB:=kA x0;have cC:=kA x1;have cD:=kA x2;have cE:=kA y0;have cF:=kA y1;have cG:=kA y2;have cH:=kA y3;clear aP bF kA;cases ass with
    | true=>
     cases com with
     | true=>
      go_wp2_with fail
      rw [← aK];refine (b4.out Bb_ Bb_ WA _ ae.out ax.out).mono ?_;exact c105_
     | false=>
      go_wp2_with fail
      rw [← aK];refine (b5.out Bb_ Bb_ WA _ ae.out ax.out).mono ?_;exact c105_
    | false=>
     have au:∀ i,(L.map (sortsT U O)).getD i 0<2 ^ m1:=qd4 (_U:=[]) (fun a _=>aL.out a);have bm:(L.map (sortsT U O)).length=p:=by rw [List.length_map];exact bg.out.symm
     cases com with
     | true=>
      obtain ⟨bn,a6⟩:=aY.out Bb_ Bb_;obtain ⟨a,b,a7⟩:=qBx (bm.trans bn);rw [a7] at au;have ha:=au 0;have hb:=au 1;simp only [List.getD_cons_zero,List.getD_cons_succ] at ha hb;have hs:=a6 a b a7;have aQ:=z_ (bl.out Bb_ [a,b] (by rw [bn];rfl) au)
      have bo:=z_ (bl.out Bb_ [b,a] (by rw [bn];rfl) (fun i=>by
       match i with
       | 0=>exact hb
       | 1=>exact ha
       | i+2=>simp;exact Nat.two_pow_pos _))
      have a8:Hid (Has WA (.slice Ar p cr) (ivs (nats [a,b]))):=z_ (a7 ▸ ax.out);have ag:WA.ownsRow W.heap.size 3 1 (.slice Ar p cr) p (ivs (nats [a,b])):=a7 ▸ bH.out;obtain ⟨gr,cap,b8,bI,bJ⟩:=qce ag (by simp [ivs,nats]);simp only [Value.slice.injEq] at b8;obtain ⟨rfl,_,rfl⟩:=b8;obtain ⟨r0,_⟩:=qbg ag (show 0<p by omega);obtain ⟨r1,_⟩:=qbg ag (show 1<p by omega);simp only [List.getD_cons_zero,List.getD_cons_succ] at r0 r1;subst bn;have cI:upC U (giveR ds [a,b])<256:=by
       have:=qjd (U:=U) bS.out (giveR ds [a,b]);rw [bR.out] at this;omega
      have cJ:upC U (giveR ds [b,a])<256:=by
       have:=qjd (U:=U) bS.out (giveR ds [b,a]);rw [bR.out] at this;omega
      obtain ⟨u1,ba⟩:=e_ (upC U (giveR ds [a,b]));obtain ⟨u2,bb⟩:=e_ (upC U (giveR ds [b,a]));simp only [] at aQ bo hs;rw [← ba] at aQ hs cI;rw [← bb] at bo hs cJ;have cK:=qjw u1 u2 o_ o_;rw [← hs] at cK;have HS:Hid (STwo w.heap.size (w.heap.size+1) (.slice A1 m1 c1) (.slice A2 m2 c2) (.slice (some ⟨ap,oo,none⟩) m3 c3) (.int .i64 (k:Int)) (.string (bstr tn)) (.int .i64 ts) (.slice B 2 cb) gr a b WA WA):=z_ ⟨⟨bG.out,r0,r1⟩,Below.refl _ _⟩;have bc:∀ ob,Below WA.heap.size WA (WA.alloc ob).drew:=fun ob=>(b_.alloc n_ ob).drew
      have aa:=z_ bc;clear bc ba bb hs a6 a7 ha hb au bm ag bI bJ;go_wp2_with fail
      rw [← aK];clear aK cB cC cD cE cF cG cH x0 x1 x2 y0 y1 y2 y3;refine wp_region_noPanic ?_;refine wp_region_held_drew (S:=(STwo w.heap.size (w.heap.size+1) (.slice A1 m1 c1) (.slice A2 m2 c2) (.slice (some ⟨ap,oo,none⟩) m3 c3) (.int .i64 (k:Int)) (.string (bstr tn)) (.int .i64 ts) (.slice B 2 cb) gr a b WA)) k_ ?_ (fun ah=>?_)
      ·exact HS.out.of (by first|exact b_.drew|exact aa.out _|exact ad.out|exact ab.out _|exact ak.out)
      refine t_k 0 ?_;refine t_k 1 ?_;refine t_k 2 ?_;refine t_k 3 ?_;refine t_k 5 ?_;refine t_k 6 ?_;refine t_k 7 ?_;refine t_k 8 ?_;refine t_k 9 ?_;refine t_k 10 ?_;refine t_k 11 ?_;refine t_k 12 ?_;refine t_k 13 ?_;refine r_d [4,14] ?_;refine c_s (fun K hK=>?_) ?_
      ·(go_simp;refine (aQ.out WA.drew _ ae.out.drew a8.out).mono ?_;rintro e w5 ⟨rfl,af⟩;have ad:Hid (Below WA.heap.size WA w5):=z_ (b_.drew.trans af);have ab:Hid (∀ ob,Below WA.heap.size WA (w5.alloc ob)):=z_ (fun ob=>ad.out.alloc ad.out.size ob);clear af;(try dsimp only))
       refine k_o hK ?_ (fun al=>?_)
       ·exact c104_
       clear hK K ah;refine r_d [14] ?_;refine c_s (fun K hK=>?_) ?_
       ·go_simp
        refine k_o hK ?_ (fun am=>?_)
        ·exact c104_
        clear hK K al;refine r_d [15] ?_;refine c_s (fun K hK=>?_) ?_
        ·(go_simp;refine (bo.out _ _ (ae.out.trans ((ab.out _).mono ae.out.size)) (qdb _ b a)).mono ?_;rintro e w6 ⟨rfl,bd⟩;have ak:Hid (Below WA.heap.size WA w6):=z_ ((ab.out (.cells #[.int .i64 (b:Int),.int .i64 (a:Int)] 3)).trans (bd.mono (ab.out _).size));clear bd;(try dsimp only))
         refine k_o hK ?_ (fun av=>?_)
         ·exact c104_
         clear hK K am;refine t_k 16 ?_;refine r_d [17] ?_;refine c_s (fun K hK=>?_) ?_
         ·go_simp
          refine k_o hK ?_ (fun bw=>?_)
          ·exact c104_
          clear hK K av;refine wpAnyH_done k_ ?_ _;refine NoPanic.normal ?_;go_wp2;go_ret;exact ⟨rfl,ae.out.trans (ak.out.mono ae.out.size)⟩
         exact a_l
        exact a_l
       exact a_l
      refine c_s (fun K hK=>?_) ?_
      ·go_simp
       refine k_o hK ?_ (fun bK=>?_)
       ·exact c104_
       clear hK K ah;refine r_d [4] ?_;refine c_s (fun K hK=>?_) ?_
       ·(go_simp;refine (aQ.out _ _ (ae.out.trans ((aa.out _).mono ae.out.size)) (a8.out.below n_ (aa.out _))).mono ?_;rintro e w5 ⟨rfl,af⟩;have ad:Hid (Below WA.heap.size WA w5):=z_ ((aa.out (.cells #[.int .i64 (b:Int),.int .i64 (a:Int)] 3)).trans (af.mono (aa.out _).size));have cL:=z_ ((show Has (WA.alloc (.cells #[.int .i64 (b:Int),.int .i64 (a:Int)] 3)).drew _ _ from qdb WA.drew b a).below n_ af);clear af;(try dsimp only))
        refine k_o hK ?_ (fun bL=>?_)
        ·exact c104_
        clear hK K bK;refine r_d [15] ?_;refine c_s (fun K hK=>?_) ?_
        ·(go_simp;refine (bo.out w5 _ (ae.out.trans (ad.out.mono ae.out.size)) cL.out).mono ?_;rintro e w6 ⟨rfl,bd⟩;have ak:Hid (Below WA.heap.size WA w6):=z_ (ad.out.trans (bd.mono ad.out.size));clear bd;(try dsimp only))
         refine k_o hK ?_ (fun bM=>?_)
         ·exact c104_
         clear hK K bL;refine t_k 16 ?_;refine r_d [17] ?_;refine c_s (fun K hK=>?_) ?_
         ·go_simp
          refine k_o hK ?_ (fun cM=>?_)
          ·exact c104_
          clear hK K bM;refine wpAnyH_done k_ ?_ _;refine NoPanic.normal ?_;go_wp2;go_ret;exact ⟨rfl,ae.out.trans (ak.out.mono ae.out.size)⟩
         exact a_l
        exact a_l
       exact a_l
      exact a_l
     | false=>
      have HQ:=z_ (aX.out Bb_ Bb_);have aQ:=z_ (bl.out Bb_ (L.map (sortsT U O)) bm au);clear au bm;go_wp2_with fail
      rw [← aK];refine (aQ.out WA _ ae.out ax.out).mono ?_;rintro e w5 ⟨rfl,af⟩;have aZ:=z_ (ae.out.trans (af.mono ae.out.size));clear af;go_wp2;go_ret;exact ⟨qan (by rw [HQ.out]),aZ.out⟩
theorem qs8 (P:List (List UInt8))(Q:List (Int×Int))(O:List OpM)(aa:qah P Q O=true):∀ n,SrtC P Q O n
 | 0=>qoe P Q O aa (fun k h=>by omega)
 | n+1=>qoe P Q O aa (fun k h=>Nat.succ.inj h ▸ qs8 P Q O aa n)
end tss

namespace tst
open mem dec subs sortm sortp sorti rowl sigm sigs trm terml termb termt termx rowg gram gramn grami formt tsj tsn tso tss
set_option maxRecDepth 50000 in
set_option maxHeartbeats 8000000 in
theorem qof (P:List (List UInt8))(Q:List (Int×Int))(O:List OpM)(va vb vc:Value)(t:TermM)(ve:Value)(w:World)(h:HasG w va vb vc P Q O)(ht:HasTs N lo w ve t.args)(hB:Bnd t)(hsz:qa2 t.args≤1048576)(z:Bool)(hz:z=true↔qd3 P Q O t):
  Calls Tryz.prog 81 #[.agg #[va,vb,vc],aggT t ve] w fun e w'=>e=.returned (.int .i64 ((sortsZ P Q O t z:Nat):Int))∧Below w.heap.size w w':=by
 have af:=z_ (fun W (hW:Below w.heap.size w W)=>qe2 P Q O va vb vc t ve W (h.below n_ hW) (ht.below n_ hW) hB hsz z hz)
 have ad:Hid (z=true→∀ W,Below w.heap.size w W→Calls Tryz.prog 135 #[.agg #[va,vb,vc],aggT t ve] W fun e w'=>e=.returned (.int .i64 ((sortsT (clo P.length (prs Q)) O t:Nat):Int))∧Below W.heap.size W w'):=z_ (fun av W hW=>by
  have hs:=hz.1 av
  exact qs8 P Q O hs.1 N va vb vc t ve W lo (h.below n_ hW) (ht.below n_ hW) hB hs.2.2)
 have aa:Hid (z=true→sortsZ P Q O t z=sortsT (clo P.length (prs Q)) O t):=z_ (fun h=>by rw [sortsZ,if_pos h]);have ab:Hid (z=false→sortsZ P Q O t z=0):=z_ (fun h=>by rw [sortsZ,if_neg (by rw [h];simp)]);obtain ⟨sz,ac⟩:=e_ (sortsZ P Q O t z);rw [← ac] at aa ab ⊢;obtain ⟨sv,ai⟩:=e_ (sortsT (clo P.length (prs Q)) O t);rw [← ai] at aa ad;obtain ⟨B,cb,rfl,_⟩:=HasR.shape ht rfl;obtain ⟨A1,c1,A2,c2,A3,c3,rfl,rfl,rfl,_⟩:=h.shape;unfold aggT at af ad ⊢;obtain ⟨q,hq⟩:=e_ (t.args.length);obtain ⟨to,aj⟩:=e_ (t.op);obtain ⟨tn,ak⟩:=e_ (t.name);obtain ⟨ts,al⟩:=e_ (t.sort);obtain ⟨m1,am⟩:=e_ (P.length);obtain ⟨m2,an⟩:=e_ (Q.length);obtain ⟨m3,ao⟩:=e_ (O.length);rw [← hq,← aj,← ak,← al,← am,← an,← ao] at af ad ⊢;clear h ht hB hsz hz ac ai hq aj ak al am an ao;obtain ⟨W,hW⟩:=e_ ((w.alloc (.cells #[.slice A1 m1 c1,.slice A2 m2 c2,.slice A3 m3 c3] 46)).alloc (.cells #[.int .i64 to,.string (bstr tn),.int .i64 ts,.slice B q cb] 38));have ap:Below w.heap.size w W:=by
  rw [hW];exact v_
 have aq:Box34 w.heap.size (w.heap.size+1) (.slice A1 m1 c1) (.slice A2 m2 c2) (.slice A3 m3 c3) (.int .i64 to) (.string (bstr tn)) (.int .i64 ts) (.slice B q cb) W:=by
  rw [hW];exact ⟨tsl.box3 (tsl.qbd _ _ _),box4 (termt.qa5 _ _ _ (by simp))⟩
 have HX:=z_ aq;have ag:=z_ ap;clear ap aq;go_enter Tryz.func81,Tryz.ntmps81
 go_wp2_with fail
 rw [← hW];clear hW;refine (af.out _ ag.out).mono ?_;rintro e w1 ⟨rfl,ah⟩;have ae:=z_ (ag.out.trans (ah.mono ag.out.size));have aw:=z_ (Box34.below HX.out ah);clear ah;cases z with
 | false=>
  have HQ:Hid (sz=0):=z_ (ab.out (by trivial));go_wp2;go_ret;exact ⟨qan (by rw [HQ.out];rfl),ae.out⟩
 | true=>
  have HQ:Hid (sz=sv):=z_ (aa.out (by trivial));obtain ⟨⟨x0,x1,x2⟩,y0,y1,y2,y3⟩:=aw.out;go_wp2_with fail
  refine (ad.out (by trivial) _ ae.out).mono ?_;rintro e w2 ⟨rfl,au⟩;have ax:=z_ (ae.out.trans (au.mono ae.out.size));clear au x0 x1 x2 y0 y1 y2 y3;go_wp2;go_ret;exact ⟨qan (by rw [HQ.out]),ax.out⟩
end tst

namespace ssub
open mem dec subs setm sets sortp sorti sortf rowl sigm sigs sigb trm terml termb termt termx termro termv rowg gram gramk gramn gramt formt formm frm grami tsj tsl tso tst bndl bndc isub
section
variable {P:List (List UInt8)} {Q:List (Int×Int)} {O:List OpM}
theorem qog{G:GrM}{t:TermM}(h:t.op=-1):qca G t↔varB G t=true:=by
 constructor
 ·intro hg
  have h1:=((qbq _ t).1 hg.2).1;unfold qc4 at h1;rwa [if_pos h] at h1
 ·intro hv
  have h2:=hv;simp only [varB,Bool.and_eq_true,decide_eq_true_eq] at h2;have ha:t.args=[]:=List.eq_nil_of_length_eq_zero h2.2;refine ⟨⟨?_,?_,?_⟩,(qbq _ t).2 ⟨?_,fun a h=>by rw [ha] at h;cases h⟩⟩
  ·rw [termro.qao,ha];simp [qa2]
  ·rw [termro.qas,ha];simp [depths]
  ·exact (qbq _ t).2 ⟨by show t.args.length≤7;rw [ha];simp,fun a h=>by rw [ha] at h;cases h⟩
  ·unfold qc4
   rw [if_pos h];exact hv
theorem qx9 (aa:qah P Q O=true)(b:BindM)(z:Bool)(hz:z=true↔qd3 P Q O b.t):qe8 P Q O b↔b.v.op=-1∧qd3 P Q O b.v∧hasI ((sortsZ P Q O b.t z:Nat):Int) b.v.sort=true:=by
 have hU:(grM P Q O).U.length≤8:=by
  rw [qgg aa];show (qaq P Q).length≤8;rw [qlw aa];exact (qb2 (qa8 aa).1).2.1
 constructor
 ·rintro ⟨h1,h2,h3,h4⟩
  have h5:=h2;simp only [varB,Bool.and_eq_true,decide_eq_true_eq] at h5;obtain ⟨k,hk⟩:∃ k:Nat,b.v.sort=(k:Int):=⟨b.v.sort.toNat,by omega⟩;refine ⟨h1,(qbi b.v).1 ((qog h1).2 h2),?_⟩;rw [hk,Int.toNat_natCast] at h4;rw [hk,qeq _ _ o_,sortsZ,if_pos (hz.2 h3)];exact h4
 ·rintro ⟨h1,h2,h4⟩
  have h3:=(qog h1).1 ((qbi b.v).2 h2);have h5:=h3;simp only [varB,Bool.and_eq_true,decide_eq_true_eq] at h5;obtain ⟨k,hk⟩:∃ k:Nat,b.v.sort=(k:Int):=⟨b.v.sort.toNat,by omega⟩;rw [hk,qeq _ _ o_,sortsZ] at h4;cases z with
  | false=>
   rw [if_neg (by simp)] at h4;simp at h4
  | true=>
   rw [if_pos rfl] at h4;refine ⟨h1,h3,hz.1 rfl,?_⟩;rw [hk,Int.toNat_natCast];exact h4
end
theorem c108_{p:Prop}(h:p:=by
 go_wp2_with fail
 rw [← hX];clear hX;refine qa1 (C:=Below X.heap.size X) k_ k_ b_.drew ?_;repeat go_big_quiet_step ((first|(go_at_call 37;exact (aj.out _).mono (fun _ _ h=>⟨h.1,BoxC.step _ h.2⟩))|(go_at_call 81;exact (ak.out _).mono (fun _ _ h=>⟨h.1,BoxC.step _ h.2⟩))|(go_at_call 80;exact (al.out _).mono (fun _ _ h=>⟨h.1,BoxC.step _ h.2⟩))))
 refine wpQuiet_nil ?_;rintro w5 ⟨t5,rfl⟩;have ac:=z_ t5.h;clear s0 s1 s2 p0 p1 p2 p3 p4 p5 p6 p7 nb aj ak al;go_wp2;go_ret;exact ⟨qa0 HF.out.symm,ad.out.trans (ac.out.mono ad.out.size)⟩
):p:=h
theorem c109_{p:Prop}(h:p:=by
 go_wp2;go_roundw
 case rel=>exact ⟨j+1,by go_num,by omega,aU,z_ (az.out.trans (aA.out.mono az.out.size))⟩
 case measure=>simp [intOf];omega
):p:=h
theorem c110_{p:Prop}(h:p:=by
 go_wp2;go_ret;exact ⟨qa0 HF.out.symm,an.out.trans (aF.out.mono an.out.size)⟩
):p:=h
set_option maxRecDepth 50000 in
set_option maxHeartbeats 8000000 in
theorem qCq{n:Nat}(P:List (List UInt8))(Q:List (Int×Int))(O:List OpM)(va vb vc:Value)(σ:List BindM)(lv:Value)(w:World)(h:HasG w va vb vc P Q O)(hl:HasBs n lo w lv σ)(hsz:bsz σ≤1048576)(r:Bool)(hr:r=true↔qah P Q O=true∧SubP P Q O σ):
  Calls Tryz.prog 36 #[.agg #[va,vb,vc],lv] w fun e w'=>e=.returned (.bool r)∧Below w.heap.size w w':=by
 obtain ⟨sb,aB⟩:∃ b,qah P Q O=b:=⟨_,rfl⟩;have aC:=z_ (fun W (hW:Below w.heap.size w W)=>qkw P Q O va vb vc sb aB W (h.below n_ hW));obtain ⟨m,hm⟩:=e_ (σ.length);obtain ⟨L,cl,rfl,_⟩:=HasR.shape hl hm.symm
 have aD:Hid (∀ j,j<m→∃ (g o:Nat),L=some ⟨g,o,none⟩∧∃ (A1:Option Addr) (c1:Nat) (A2:Option Addr) (c2:Nat),HasTs n lo w (.slice A1 (σ.getD j default).v.args.length c1) (σ.getD j default).v.args∧(∀ w3,Below w.heap.size w w3→Cells8 w3 g (o+j*8) (σ.getD j default) A1 c1 A2 c2)∧
   (∀ (b:Bool),(b=true↔qd3 P Q O (σ.getD j default).v)→∀ w3,Below w.heap.size w w3→Calls Tryz.prog 37 #[.agg #[va,vb,vc],aggT (σ.getD j default).v (.slice A1 (σ.getD j default).v.args.length c1)] w3 fun e w'=>e=.returned (.bool b)∧Below w3.heap.size w3 w')∧
   (∀ (b:Bool),(b=true↔qd3 P Q O (σ.getD j default).t)→∀ w3,Below w.heap.size w w3→Calls Tryz.prog 81 #[.agg #[va,vb,vc],aggT (σ.getD j default).t (.slice A2 (σ.getD j default).t.args.length c2)] w3 fun e w'=>e=.returned (.int .i64 ((sortsZ P Q O (σ.getD j default).t b:Nat):Int))∧Below w3.heap.size w3 w')):=z_ (fun j hj=>by
  obtain ⟨g,o,A1,c1,A2,c2,e,hg,au,h1,h2,h3,h4⟩:=qdc hl hj;have bz:=qqf (L:=σ) (j:=j) o_;refine ⟨g,o,e,A1,c1,A2,c2,h1,fun w3 am=>au.below am,fun b hb w3 am=>?_,fun b hb w3 am=>?_⟩
  ·exact qe2 P Q O va vb vc _ _ w3 (h.below n_ am) (h1.below n_ am) h3 o_ b hb
  ·exact qof P Q O va vb vc _ _ w3 (h.below n_ am) (h2.below n_ am) h4 o_ b hb)
 obtain ⟨A1,c1,A2,c2,A3,c3,rfl,rfl,rfl,_⟩:=h.shape;have HM:=z_ hm;have bA:m≤1048576:=by have:=qoq σ;omega
 obtain ⟨m1,aV⟩:=e_ (P.length);obtain ⟨m2,aW⟩:=e_ (Q.length);obtain ⟨m3,aX⟩:=e_ (O.length);rw [← aV,← aW,← aX] at aC aD ⊢;have aE:=z_ aB;have HR:=z_ hr;obtain ⟨W,hW⟩:=e_ (w.alloc (.cells #[.slice A1 m1 c1,.slice A2 m2 c2,.slice A3 m3 c3] 46));have aY:=fr1_ hW;have hX:=fr2_ hW;have bB:=fr3_ hW;have an:=z_ aY;have HX:Hid (∀ w3,Below W.heap.size W w3→w3.cell? ⟨w.heap.size,0,none⟩=some (.slice A1 m1 c1)∧w3.cell? ⟨w.heap.size,1,none⟩=some (.slice A2 m2 c2)∧w3.cell? ⟨w.heap.size,2,none⟩=some (.slice A3 m3 c3)):=z_ (fun w3 h3=>tsl.box3 ((h3.block _ o_).trans hX));obtain ⟨x0,x1,x2⟩:=HX.out W b_;clear h hl hsz hr hX aY hm aV aW aX aB;go_enter Tryz.func36,Tryz.ntmps36
 go_wp2_with fail
 rw [← hW];clear hW;go_wp2_with fail
 refine (aC.out W an.out).mono ?_;rintro e w1 ⟨rfl,aZ⟩;have aF:=z_ aZ;clear aZ x0 x1 x2 aC;cases sb with
 | false=>
  have HF:Hid (r=false):=z_ (by
   cases r with
   | false=>rfl
   | true=>have h1:=(HR.out.1 rfl).1;rw [aE.out] at h1;cases h1)
  exact c110_
 | true=>
 have a8:Hid (qah P Q O=true):=z_ (by rw [aE.out]);clear aE;by_cases h8:8<m
 ·have d0:decide ((8:Int)<(m:Int))=true:=d_
  have HF:Hid (r=false):=z_ (by
   cases r with
   | false=>rfl
   | true=>have h1:=(HR.out.1 rfl).2.1;have:=HM.out;omega)
  exact c110_
 have d0:decide ((8:Int)<(m:Int))=false:=f_;go_wp2;go_loopw [5] (fun v5 wr=>∃ j:Nat,v5=.int .i64 j∧j≤m∧Hid (∀ i,i<j→qe8 P Q O (σ.getD i default)∧(0<i→cmp (σ.getD (i-1) default).v (σ.getD i default).v<0))∧Hid (Below W.heap.size W wr)) (fun i _=>m-(intOf i).toNat)
 case atStart=>exact ⟨0,rfl,y_,z_ (fun i hi=>absurd hi (Nat.not_lt_zero _)),aF⟩
 case round=>
  obtain ⟨j,rfl,hj,HQ,HB⟩:=hrel;have ay:=z_ (an.out.trans (HB.out.mono an.out.size));by_cases bm:j<m
  ·have d1:decide ((j:Int)<(m:Int))=true:=d_
   obtain ⟨g,o,rfl,B1,e1,B2,e2,hv,au,ba,bb⟩:=aD.out j bm;obtain ⟨tv,aG⟩:=x_ (qd3 P Q O (σ.getD j default).v);obtain ⟨tz,aH⟩:=x_ (qd3 P Q O (σ.getD j default).t);obtain ⟨hb,aI⟩:∃ b:Bool,hasI ((sortsZ P Q O (σ.getD j default).t tz:Nat):Int) (σ.getD j default).v.sort=b:=⟨_,rfl⟩;have aJ:=qx9 a8.out (σ.getD j default) tz aH;rw [aI] at aJ;have av:Hid (qe8 P Q O (σ.getD j default)↔(σ.getD j default).v.op=-1∧tv=true∧hb=true):=z_ (by rw [aJ,aG]);have ah:j<σ.length:=by have:=HM.out;omega
   have ao:Hid (¬ ((σ.getD j default).v.op=-1∧tv=true∧hb=true)→r=false):=z_ (fun hn=>by
    cases r with
    | false=>rfl
    | true=>exact absurd (av.out.1 (((HR.out.1 rfl).2.2 j ah).1)) hn)
   have ab:=z_ (ba tv aG);have aa:=z_ (bb tz aH);have bn:=z_ au;have HV:=z_ hv;have c8:=au wr ay.out;have aw:=z_ (fun W=>qcg _ _ hb aI W);clear ba bb au hv aG aH aJ aI ah;obtain ⟨x,hx⟩:=e_ (σ.getD j default);have bc:=z_ hx;rw [← hx] at ab aa bn HV c8 aw av ao;clear hx;obtain ⟨sz,hsz⟩:=e_ (sortsZ P Q O x.t tz);rw [← hsz] at aa aw;clear hsz;unfold aggT at ab aa;unfold Cells8 at c8;obtain ⟨y1,aK⟩:=e_ (x.v.op);have bo:=z_ aK;rw [← aK] at ab av ao c8;clear aK;obtain ⟨y2,aL⟩:=e_ (x.v.name);have bp:=z_ aL;rw [← aL] at ab c8;clear aL;obtain ⟨y3,aM⟩:=e_ (x.v.sort);have bq:=z_ aM;rw [← aM] at ab aw c8;clear aM;obtain ⟨y4,aN⟩:=e_ (x.v.args.length);have br:=z_ aN;rw [← aN] at ab c8;clear aN;obtain ⟨y5,aO⟩:=e_ (x.t.op);have bC:=z_ aO;rw [← aO] at aa c8;clear aO;obtain ⟨y6,aP⟩:=e_ (x.t.name);have bD:=z_ aP;rw [← aP] at aa c8;clear aP;obtain ⟨y7,aQ⟩:=e_ (x.t.sort);have bE:=z_ aQ;rw [← aQ] at aa c8;clear aQ;obtain ⟨y8,aR⟩:=e_ (x.t.args.length);have bF:=z_ aR;rw [← aR] at aa c8;clear aR;obtain ⟨⟨a0,a1,a2,a3⟩,a4,a5,a6,a7⟩:=c8;have i1:(0:Int)≤(j:Int):=o_;have i2:(j:Int)<(m:Int):=o_;obtain ⟨X,hX⟩:=e_ (wr.alloc (.cells #[.int .i64 y1,.string (bstr y2),.int .i64 y3,.slice B1 y4 e1,.int .i64 y5,.string (bstr y6),.int .i64 y7,.slice B2 y8 e2] 85));have aS:=fr1_ hX;have bd:=fr2_ hX;have bs:=fr3_ hX;have ai:=z_ (HB.out.trans (aS.mono HB.out.size));have ad:=z_ (ay.out.trans (aS.mono ay.out.size));have HE:Hid (∀ w3,Below X.heap.size X w3→_):=z_ (fun w3 (h3:Below X.heap.size X w3)=>bndc.qjo ((h3.block _ o_).trans bd));have s0:=fun t:BoxC (Below X.heap.size X)=>(HX.out t.W (ai.out.trans (t.h.mono ai.out.size))).1
   have s1:=fun t:BoxC (Below X.heap.size X)=>(HX.out t.W (ai.out.trans (t.h.mono ai.out.size))).2.1
   have s2:=fun t:BoxC (Below X.heap.size X)=>(HX.out t.W (ai.out.trans (t.h.mono ai.out.size))).2.2
   have p0:=fun t:BoxC (Below X.heap.size X)=>(HE.out t.W t.h).1.1
   have p1:=fun t:BoxC (Below X.heap.size X)=>(HE.out t.W t.h).1.2.1
   have p2:=fun t:BoxC (Below X.heap.size X)=>(HE.out t.W t.h).1.2.2.1
   have p3:=fun t:BoxC (Below X.heap.size X)=>(HE.out t.W t.h).1.2.2.2
   have p4:=fun t:BoxC (Below X.heap.size X)=>(HE.out t.W t.h).2.1
   have p5:=fun t:BoxC (Below X.heap.size X)=>(HE.out t.W t.h).2.2.1
   have p6:=fun t:BoxC (Below X.heap.size X)=>(HE.out t.W t.h).2.2.2.1
   have p7:=fun t:BoxC (Below X.heap.size X)=>(HE.out t.W t.h).2.2.2.2
   have nb:Nonempty (BoxC (Below X.heap.size X)):=⟨⟨_,Below.refl _ _⟩⟩;have aj:Hid (∀ t:BoxC (Below X.heap.size X),_):=z_ (fun t:BoxC (Below X.heap.size X)=>ab.out t.W (ad.out.trans (t.h.mono ad.out.size)));have ak:Hid (∀ t:BoxC (Below X.heap.size X),_):=z_ (fun t:BoxC (Below X.heap.size X)=>aa.out t.W (ad.out.trans (t.h.mono ad.out.size)));have al:Hid (∀ t:BoxC (Below X.heap.size X),Calls Tryz.prog 80 #[.int .i64 (sz:Int),.int .i64 y3] t.W fun e w'=>e=.returned (.bool hb)∧Below t.W.heap.size t.W w'):=z_ (fun t=>(aw.out t.W).mono (fun _ _ h=>⟨h.1,h.2 ▸ Below.refl _ _⟩));clear aS bd bs ab aa aw;by_cases af:y1=-1
   ·have o1:(y1 != -1)=false:=by simp [af]
    have o2:(y1==-1)=true:=by simp [af]
    have o3:decide (y1=-1)=true:=decide_eq_true af;have bt:=z_ af;clear af;cases tv with
    | false=>
     have HF:Hid (r=false):=z_ (ao.out (fun h=>by cases h.2.1));exact c108_
    | true=>
     cases hb with
     | false=>
      have HF:Hid (r=false):=z_ (ao.out (fun h=>by cases h.2.2));exact c108_
     | true=>
      have be:Hid (qe8 P Q O (σ.getD j default)):=z_ (by rw [← bc.out];exact av.out.2 ⟨bt.out,rfl,rfl⟩);clear av ao;go_wp2_with fail
      rw [← hX];clear hX;refine qa1 (C:=Below X.heap.size X) k_ k_ b_.drew ?_;repeat go_big_quiet_step ((first|(go_at_call 37;exact (aj.out _).mono (fun _ _ h=>⟨h.1,BoxC.step _ h.2⟩))|(go_at_call 81;exact (ak.out _).mono (fun _ _ h=>⟨h.1,BoxC.step _ h.2⟩))|(go_at_call 80;exact (al.out _).mono (fun _ _ h=>⟨h.1,BoxC.step _ h.2⟩))))
      refine wpQuiet_nil ?_;rintro w5 ⟨t5,rfl⟩;have ac:=z_ t5.h;obtain ⟨Y,hY⟩:=e_ (t5.W);rw [← hY] at ac ⊢;have ap:=z_ (ad.out.trans (ac.out.mono ad.out.size));have az:=z_ (ai.out.trans (ac.out.mono ai.out.size));clear s0 s1 s2 p0 p1 p2 p3 p4 p5 p6 p7 nb aj ak al hY;have p0:=fun t:BoxC (Below Y.heap.size Y)=>(HE.out t.W (ac.out.trans (t.h.mono ac.out.size))).1.1
      have p1:=fun t:BoxC (Below Y.heap.size Y)=>(HE.out t.W (ac.out.trans (t.h.mono ac.out.size))).1.2.1
      have p2:=fun t:BoxC (Below Y.heap.size Y)=>(HE.out t.W (ac.out.trans (t.h.mono ac.out.size))).1.2.2.1
      have p3:=fun t:BoxC (Below Y.heap.size Y)=>(HE.out t.W (ac.out.trans (t.h.mono ac.out.size))).1.2.2.2
      have nb:Nonempty (BoxC (Below Y.heap.size Y)):=⟨⟨_,Below.refl _ _⟩⟩;by_cases aT:j=0
      ·have d2:decide (0<j)=false:=f_
       have aU:Hid (∀ i,i<j+1→qe8 P Q O (σ.getD i default)∧(0<i→cmp (σ.getD (i-1) default).v (σ.getD i default).v<0)):=z_ (fun i hi=>by
        obtain rfl:i=j:=o_
        exact ⟨be.out,fun h=>by omega⟩)
       have bG:=z_ aT;clear aT;go_wp2_with fail
       refine qa1 (C:=Below Y.heap.size Y) k_ k_ b_.drew ?_;repeat go_big_quiet_step (fail)
       refine wpQuiet_nil ?_;rintro w6 ⟨t6,rfl⟩;have aA:=z_ t6.h;clear p0 p1 p2 p3 nb;exact c109_
      ·obtain ⟨k,hk⟩:∃ k,j=k+1:=⟨j-1,by omega⟩
       have d2:decide (0<j)=true:=d_;have i3:IntKind.i64.wrap ((j:Int)-1)=(k:Int):=by rw [qcf _ o_ o_];omega
       have i4:(0:Int)≤(k:Int):=o_;have i5:(k:Int)<(m:Int):=o_;obtain ⟨g',o',e',D1,f1,D2,f2,bf,ax,_,_⟩:=aD.out k o_;have bu:g=g'∧o=o':=by
        injection e' with e'
        injection e' with e1 e2 _
        exact ⟨e1,e2⟩
       obtain ⟨rfl,rfl⟩:=bu;obtain ⟨s,hs⟩:=e_ (cmp (σ.getD k default).v (σ.getD j default).v)
       have ag:Hid (∀ t:BoxC (Below Y.heap.size Y),Calls Tryz.prog 82 #[aggT (σ.getD k default).v (.slice D1 (σ.getD k default).v.args.length f1),aggT x.v (.slice B1 x.v.args.length e1)] t.W fun e w'=>e=.returned (.int .i64 s)∧Below t.W.heap.size t.W w'):=z_ (fun t=>by
        have bg:=ap.out.trans (t.h.mono ap.out.size);rw [hs,← bc.out]
        exact qgc _ _ _ _ t.W (bf.below n_ bg) (HV.out.below n_ bg))
       have ae:Hid (∀ t:BoxC (Below Y.heap.size Y),Cells8 t.W g (o+k*8) (σ.getD k default) D1 f1 D2 f2):=z_ (fun t=>ax t.W (ap.out.trans (t.h.mono ap.out.size)));have bh:Hid (s=cmp (σ.getD k default).v (σ.getD j default).v):=z_ hs;have HK:=z_ hk;obtain ⟨y,hy⟩:=e_ (σ.getD k default);rw [← hy] at ag ae;unfold aggT at ag;rw [← bo.out,← bp.out,← bq.out,← br.out] at ag;clear bf ax hs hk aT e' hy;unfold Cells8 at ae;obtain ⟨z1,bi⟩:=e_ (y.v.op);rw [← bi] at ag ae;clear bi;obtain ⟨z2,bj⟩:=e_ (y.v.name);rw [← bj] at ag ae;clear bj;obtain ⟨z3,bk⟩:=e_ (y.v.sort);rw [← bk] at ag ae;clear bk;obtain ⟨z4,bl⟩:=e_ (y.v.args.length);rw [← bl] at ag ae;clear bl;have c0:=fun t:BoxC (Below Y.heap.size Y)=>(ae.out t).1.1
       have bv:=fun t:BoxC (Below Y.heap.size Y)=>(ae.out t).1.2.1
       have bw:=fun t:BoxC (Below Y.heap.size Y)=>(ae.out t).1.2.2.1
       have bx:=fun t:BoxC (Below Y.heap.size Y)=>(ae.out t).1.2.2.2
       go_wp2_with fail
       refine qa1 (C:=Below Y.heap.size Y) k_ k_ b_.drew ?_;repeat go_big_quiet_step ((go_at_call 82;exact (ag.out _).mono (fun _ _ h=>⟨h.1,BoxC.step _ h.2⟩)))
       refine wpQuiet_nil ?_;rintro w6 ⟨t6,rfl⟩;have aA:=z_ t6.h;clear p0 p1 p2 p3 nb c0 bv bw bx ae ag;by_cases aq:s<0
       ·have d3:decide ((0:Int)≤s)=false:=f_
        have d4:decide (s<0)=true:=decide_eq_true aq;have d5:¬ (0≤s):=o_
        have aU:Hid (∀ i,i<j+1→qe8 P Q O (σ.getD i default)∧(0<i→cmp (σ.getD (i-1) default).v (σ.getD i default).v<0)):=z_ (fun i hi=>by
         by_cases e:i=j
         ·subst e
          refine ⟨be.out,fun _=>?_⟩;have e2:i-1=k:=by have:=HK.out;omega
          rw [e2,← bh.out];exact aq
         ·exact HQ.out i o_)
        clear aq;exact c109_
       ·have d3:decide ((0:Int)≤s)=true:=d_
        have d4:decide (s<0)=false:=decide_eq_false aq;have d5:0≤s:=o_
        have HF:Hid (r=false):=z_ (by
         cases r with
         | false=>rfl
         | true=>
          have h1:=((HR.out.1 rfl).2.2 j Af_).2 (by have:=HK.out;omega);have e2:j-1=k:=by have:=HK.out;omega
          rw [e2,← bh.out] at h1
          exact absurd h1 aq)
        clear aq;go_wp2;go_ret;exact ⟨qa0 HF.out.symm,ap.out.trans (aA.out.mono ap.out.size)⟩
   ·have o1:(y1 != -1)=true:=by simp [af]
    have o2:(y1==-1)=false:=by simp [af]
    have o3:decide (y1=-1)=false:=decide_eq_false af;have HF:Hid (r=false):=z_ (ao.out (fun h=>af h.1));clear af;exact c108_
  ·have d1:decide ((j:Int)<(m:Int))=false:=f_
   have HF:Hid (r=true):=z_ (HR.out.2 ⟨a8.out,by have:=HM.out;omega,fun i hi=>HQ.out i Af_⟩);go_wp2;go_ret;exact ⟨qa0 HF.out.symm,ay.out⟩
end ssub
end Go.Proofs.YtiilamngcoegiaaGreat
