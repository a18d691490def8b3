
import Derived.Test.YtiilamngcoegiaaGreatPk11
namespace Go.Proofs.YtiilamngcoegiaaGreat.tsl
set_option maxRecDepth 20000
set_option maxHeartbeats 4000000
open Go.ChangeShapes Go.WideShapes Go.ChangeAt Go.RowKit
open mem subs setm sets sortp sorti rowl sigs gramo tsm tsi tsj tsk
theorem ArrF.set {w:World}{b:Nat}{f:Nat→Nat}(h:ArrF w b f){x:Nat}(hx:x<128)(v:Nat):ArrF (w.setCell ⟨b,x,none⟩ (.int .u16 (v:Int))) b (fun y=>if y=x then v else f y):=by
 refine ⟨by rw [show (w.setCell ⟨b,x,none⟩ (.int .u16 (v:Int))).heap.size=w.heap.size by simp [World.setCell]];exact h.1,fun y hy=>⟨?_,?_⟩⟩
 ·by_cases e:y=x
  ·subst e
   simp only [if_pos];exact World.cell?_setCell_same _ _ _ (h.2 y hy).1
  ·simp only [if_neg e]
   rw [World.cell?_setCell_other w ⟨b,x,none⟩ ⟨b,y,none⟩ _ (fun e'=>e (by injection e' with _ h _;exact h.symm))];exact (h.2 y hy).1
 ·rw [World.frozen?_setCell]
  exact (h.2 y hy).2
theorem qB6:Tryz.zeroCells289=Array.replicate 128 (.int .u16 0):=by kernel_rfl
theorem ArrF.new (w:World):ArrF (w.alloc (.cells Tryz.zeroCells289 289)) w.heap.size (fun _=>0):=by
 rw [qB6];refine ⟨by simp,fun x hx=>⟨?_,?_⟩⟩
 ·refine (h_ _ _ x _ _ _ (termt.qa5 _ _ _ rfl)).trans ?_
  simp [hx]
 ·simp
theorem qjt (w:World)(o1 o2 o3:Obj):(((w.alloc o1).alloc o2).alloc o3).heap[w.heap.size]? =some o1:=by
 show (((w.heap.push o1).push o2).push o3)[w.heap.size]? =some o1;rw [Array.getElem?_push,if_neg (by simp;try omega),Array.getElem?_push,if_neg (by simp;try omega),Array.getElem?_push,if_pos rfl]
theorem quz (w:World)(o1 o2 o3:Obj):(((w.alloc o1).alloc o2).alloc o3).heap[w.heap.size+1]? =some o2:=by
 show (((w.heap.push o1).push o2).push o3)[w.heap.size+1]? =some o2;rw [Array.getElem?_push,if_neg (by simp;try omega),Array.getElem?_push,if_pos (by simp;try omega)]
theorem qbh (w:World)(o1 o2:Obj):((w.alloc o1).alloc o2).heap[w.heap.size]? =some o1:=by
 show ((w.heap.push o1).push o2)[w.heap.size]? =some o1;rw [Array.getElem?_push,if_neg (by simp;try omega),Array.getElem?_push,if_pos rfl]
theorem box3 {w:World}{x:Nat}{v0 v1 v2:Value}{t:TypeId}(h:w.heap[x]? =some (.cells #[v0,v1,v2] t (0,0))):w.cell? ⟨x,0,none⟩=some v0∧w.cell? ⟨x,1,none⟩=some v1∧w.cell? ⟨x,2,none⟩=some v2:=
 ⟨h_ w x 0 _ _ _ h,h_ w x 1 _ _ _ h,h_ w x 2 _ _ _ h⟩
theorem qoz {w:World}{x:Nat}{nm:List UInt8}{A:Option Addr}{n c:Nat}{a b:Bool}{u:Int}{i s0 s1 s2 s3 s4:Nat}{t:TypeId}(h:w.heap[x]? =some (.cells #[.string (bstr nm),.slice A n c,.bool a,.bool b,.int .i64 u,.int .i64 (i:Int),.int .i64 (s0:Int),.int .u16 (s1:Int),.int .u16 (s2:Int),.int .u16 (s3:Int),.int .u16 (s4:Int)] t (0,0))):C11 x nm A n c a b u i s0 s1 s2 s3 s4 w:=
 ⟨h_ w x 0 _ _ _ h,h_ w x 1 _ _ _ h,h_ w x 2 _ _ _ h,h_ w x 3 _ _ _ h,h_ w x 4 _ _ _ h,h_ w x 5 _ _ _ h,h_ w x 6 _ _ _ h,h_ w x 7 _ _ _ h,h_ w x 8 _ _ _ h,h_ w x 9 _ _ _ h,h_ w x 10 _ _ _ h⟩
abbrev SCmb (x y:Nat)(mm um:Option Nat)(Ao:Option Addr)(no co:Nat)(nm:List UInt8)(A:Option Addr)(n c:Nat)(a b:Bool)(u:Int)(i s0 s1 s2 s3 s4:Nat)(B:Nat)(W w:World):Prop:=
 ((w.cell? ⟨x,0,none⟩=some (.map mm)∧w.cell? ⟨x,1,none⟩=some (.slice Ao no co)∧w.cell? ⟨x,2,none⟩=some (.map um))∧C11 y nm A n c a b u i s0 s1 s2 s3 s4 w)∧Below B W w
theorem C11.belowB {x:Nat}{nm:List UInt8}{A:Option Addr}{n c:Nat}{a b:Bool}{u:Int}{i s0 s1 s2 s3 s4:Nat}{w w':World}{B:Nat}(h:C11 x nm A n c a b u i s0 s1 s2 s3 s4 w)(hx:x<B)(hb:Below B w w'):C11 x nm A n c a b u i s0 s1 s2 s3 s4 w':=by
 have k:∀ y,w'.cell? ⟨x,y,none⟩=w.cell? ⟨x,y,none⟩:=fun y=>hb.cell (p:=⟨x,y,none⟩) hx
 unfold C11;rw [k,k,k,k,k,k,k,k,k,k,k];exact h
theorem SCmb.of {x y:Nat}{mm um:Option Nat}{Ao:Option Addr}{no co:Nat}{nm:List UInt8}{A:Option Addr}{n c:Nat}{a b:Bool}{u:Int}{i s0 s1 s2 s3 s4 B:Nat}{W w:World}(h:SCmb x y mm um Ao no co nm A n c a b u i s0 s1 s2 s3 s4 B W W)(hx:x<B)(hy:y<B)(hb:Below B W w):SCmb x y mm um Ao no co nm A n c a b u i s0 s1 s2 s3 s4 B W w:=by
 have k:∀ z,w.cell? ⟨x,z,none⟩=W.cell? ⟨x,z,none⟩:=fun z=>hb.cell (p:=⟨x,z,none⟩) hx
 refine ⟨⟨?_,C11.belowB h.1.2 hy hb⟩,hb⟩;rw [k,k,k];exact h.1.1
theorem qnr (n:Nat)(hn:n≤15)(w:World):Calls Tryz.prog 239 #[.int .i64 (n:Int)] w fun e w'=>e=.returned (.int .u16 ((2 ^ n-1:Nat):Int))∧w'=w:=by
 have h1:2 ^ n≤32768:=Nat.pow_le_pow_right (n:=2) (j:=15) (by decide) hn;have h0:0<2 ^ n:=Nat.two_pow_pos n;have aa:IntKind.u16.wrap (2 ^ n)=((2 ^ n:Nat):Int):=by
  have e:(2:Int) ^ n=((2 ^ n:Nat):Int):=by simp
  rw [e];exact qbj _ o_ o_
 have ab:¬ (n:Int)<0:=o_;obtain ⟨z,hz⟩:=e_ (2 ^ n);rw [← hz] at h1 h0 aa ⊢;obtain ⟨m,hm⟩:=e_ (z-1);have ac:IntKind.u16.wrap ((z:Int)-1)=(m:Int):=by rw [qbj _ o_ o_];omega
 rw [← hm];clear hz hm h1 h0;go_enter Tryz.func239,Tryz.ntmps239
 go_wp2;go_ret;exact ⟨rfl,rfl⟩
theorem qyv (U:List Nat)(hU:Lim U)(mm um:Option Nat)(Ao:Option Addr)(no co:Nat)(nm:List UInt8)(Ad:Option Addr)(dn cd:Nat)(a com:Bool)(u:Int)(i s0 s1 s2 s3 s4:Nat)(D:List (List Int×Int))(A:List Nat)(h2:2≤A.length)(h7:A.length≤7)(hA:∀ i,A.getD i 0<2 ^ U.length)(va:Value)(w:World)(hM:MapU w (.map um) U)(hD:HasD 0 w (.slice Ad dn cd) D)(ao:DeclN U.length 2 D)(ai:Has w va (u16s A)):
  Calls Tryz.prog 238 #[.agg #[.map mm,.slice Ao no co,.map um],aggE nm Ad dn cd a com u i s0 s1 s2 s3 s4,va] w fun e w'=>∃ (b:Nat) (f:Nat→Nat),e=.returned (.pointer (some ⟨b,0,none⟩))∧w.heap.size≤b∧ArrF w' b f∧Done com U D A (A.length+1) 0 f∧(∀ x,f x<2 ^ U.length)∧Below w.heap.size w w':=by
 have bd:=pow8 hU.1;obtain ⟨p,hp⟩:=e_ (A.length);obtain ⟨Aa,ca,rfl,ai⟩:=ai.shape (n:=p) (by rw [qho,hp]);have aO:=z_ (fun S (hS:S<65536) W (hW:Below w.heap.size w W)=>qkb U hU S hS (.map um) W (hM.below hW));have aP:=z_ (fun g (g0:0<g) (gh:g<128) f (hf:∀ x,f x<65536) bl W (hW:Below w.heap.size w W) (aQ:ArrF W bl f)=>qjd hU.1 nm Ad dn cd a com u i s0 s1 s2 s3 s4 D g g0 gh f hf bl W aQ (hD.below qa7 n_ hW) ao);have aR:=z_ (fun W (hW:Below w.heap.size w W)=>ai.below n_ hW);have HP:=z_ hp;have aS:=z_ hA;have ap:=z_ hU;have aT:=z_ ao;have be:=ai.len.2;rw [← hp] at h2 h7 ⊢;have aU:2 ^ p≤128:=Nat.pow_le_pow_right (n:=2) (j:=7) (by decide) h7;have aV:2 ^ 2≤2 ^ p:=Nat.pow_le_pow_right (by decide) h2;have aq:=z_ (qnr p o_);have HZ:Hid (2 ^ A.length=2 ^ p):=z_ (by rw [HP.out]);obtain ⟨z,hz⟩:=e_ (2 ^ p);rw [← hz] at aU aV aq HZ;obtain ⟨m,hm⟩:=e_ (z-1);have bf:IntKind.u16.wrap ((m:Int)+1)=(z:Int):=by rw [qbj _ o_ o_];omega
 have bg:m+1=z:=o_;rw [← hm] at aq;clear hz hm;obtain ⟨W,hW⟩:=e_ (((w.alloc (.cells #[.map mm,.slice Ao no co,.map um] 94)).alloc (.cells #[.string (bstr nm),.slice Ad dn cd,.bool a,.bool com,.int .i64 u,.int .i64 (i:Int),.int .i64 (s0:Int),.int .u16 (s1:Int),.int .u16 (s2:Int),.int .u16 (s3:Int),.int .u16 (s4:Int)] 181)).alloc (.cells Tryz.zeroCells289 289));have ay:Below w.heap.size w W:=by
  rw [hW];exact v_
 have az:SCmb w.heap.size (w.heap.size+1) mm um Ao no co nm Ad dn cd a com u i s0 s1 s2 s3 s4 (w.heap.size+2) W W:=by
  rw [hW];exact ⟨⟨box3 (qjt _ _ _ _),qoz (quz _ _ _ _)⟩,Below.refl _ _⟩
 have aA:ArrF W (w.heap.size+2) (fun _=>0):=by
  rw [hW];have:=ArrF.new ((w.alloc (.cells #[.map mm,.slice Ao no co,.map um] 94)).alloc (.cells #[.string (bstr nm),.slice Ad dn cd,.bool a,.bool com,.int .i64 u,.int .i64 (i:Int),.int .i64 (s0:Int),.int .u16 (s1:Int),.int .u16 (s2:Int),.int .u16 (s3:Int),.int .u16 (s4:Int)] 181));simpa using this
 have au:=z_ ay;have aW:=z_ az;have aX:=z_ aA;clear hM hD ao ai hA hp ay az aA;go_enter Tryz.func238,Tryz.ntmps238
 go_wp2;rw [← hW];clear hW;go_loopw [8,9,16] (fun _ _ aY wr=>∃ (k:Nat) (f:Nat→Nat),aY=.int .i64 k∧k≤p∧Hid (∀ i,i<k→f (2 ^ i)=A.getD i 0)∧Hid (∀ x,f x<2 ^ U.length)∧Hid (ArrF wr (w.heap.size+2) f)∧Hid (Below (w.heap.size+2) W wr)) (fun _ _ v _=>p-(intOf v).toNat)
 case atStart=>exact ⟨0,fun _=>0,rfl,y_,z_ (fun i hi=>absurd hi (Nat.not_lt_zero _)),z_ (fun _=>Nat.two_pow_pos _),aX,z_ b_⟩
 case round=>
  obtain ⟨k,f,rfl,hk,HF,ac,ab,HB⟩:=hrel;have ag:=au.out.trans (HB.out.mono o_);have aB:=ab.out.1;by_cases hlt:k<p
  ·obtain ⟨g,o,rfl,hg,hcell⟩:=(aR.out wr ag).cellAt hlt
   rw [qrp _ k (by have:=HP.out;omega)] at hcell;have al:2 ^ k<128:=Nat.pow_lt_pow_right (a:=2) (m:=k) (n:=7) (by decide) o_;have aZ:wrap64 (2 ^ k)=((2 ^ k:Nat):Int):=by
    have e:(2:Int) ^ k=((2 ^ k:Nat):Int):=by simp
    rw [e];obtain ⟨b,hb⟩:=e_ (2 ^ k);rw [← hb] at al ⊢;unfold wrap64;omega
   obtain ⟨c0,c1⟩:=ab.out.2 (2 ^ k) al;obtain ⟨av,am⟩:=e_ (A.getD k 0);rw [← am] at hcell
   have aC:Hid (∀ i,i<k+1→(fun y=>if y=2 ^ k then av else f y) (2 ^ i)=A.getD i 0):=z_ (fun i hi=>by
    by_cases e:i=k
    ·subst e;simp only [if_pos];exact am
    ·have:2 ^ i≠2 ^ k:=Nat.ne_of_lt (Nat.pow_lt_pow_right (by decide) o_)
     simp only [if_neg this]
     exact HF.out i o_)
   have ad:Hid (∀ x,(fun y=>if y=2 ^ k then av else f y) x<2 ^ U.length):=z_ (fun x=>by
    by_cases e:x=2 ^ k
    ·simp only [if_pos e];rw [am];exact aS.out k
    ·simp only [if_neg e];exact ac.out x)
   have aD:=z_ (ArrF.set ab.out al av);obtain ⟨y,hy⟩:=e_ (2 ^ k);rw [← hy] at al aZ c0 c1 aC ad aD;have i1:(0:Int)≤(k:Int):=o_;have i2:(k:Int)<(p:Int):=o_;have i3:(0:Int)≤(y:Int):=o_;have i4:(y:Int)<128:=o_;have af:=z_ (HB.out.setCell (p:=⟨w.heap.size+2,y,none⟩) n_ (.int .u16 (av:Int)));clear am hy;go_wp2;go_region
   go_wp2;go_roundw
   case rel=>exact ⟨k+1,_,by go_num,by omega,aC,ad,aD,z_ af.out.drew⟩
   case measure=>simp [intOf];omega
  ·obtain rfl:k=p:=o_
   clear hlt;have aE:Hid (Done com U D A 2 0 f):=z_ (qt4 (by have:=HP.out;omega) (fun i hi=>HF.out i (by have:=HP.out;omega)));clear HF;clear aB;go_wp2;go_loopw [10] (fun a2 wr=>∃ (s:Nat) (f:Nat→Nat),a2=.int .i64 s∧2≤s∧s≤k+1∧Hid (Done com U D A s 0 f)∧Hid (∀ x,f x<2 ^ U.length)∧Hid (ArrF wr (w.heap.size+2) f)∧Hid (Below (w.heap.size+2) W wr)) (fun v _=>k+1-(intOf v).toNat)
   case atStart=>exact ⟨2,f,rfl,Nat.le_refl _,by omega,aE,ac,ab,HB⟩
   case round=>
    clear aE ac ab HB ag;obtain ⟨s,f,rfl,a6,bh,aa,ac,ab,HB⟩:=hrel;by_cases hlt:s≤k
    ·have d1:decide ((s:Int)≤(k:Int))=true:=d_
     go_wp2_with (go_at_call 239;refine (aq.out _).mono ?_;rintro e w0 ⟨rfl,rfl⟩)
     go_loopw [38] (fun a7 wr=>∃ (g:Nat) (f:Nat→Nat),a7=.int .u16 g∧g≤z∧Hid (Done com U D A s g f)∧Hid (∀ x,f x<2 ^ U.length)∧Hid (ArrF wr (w.heap.size+2) f)∧Hid (Below (w.heap.size+2) W wr)) (fun v _=>z-(intOf v).toNat)
     case atStart=>exact ⟨0,f,rfl,y_,aa,ac,ab,HB⟩
     case round=>
      clear aa ac ab HB;obtain ⟨g,f,rfl,bi,aa,ac,ab,HB⟩:=hrel;have ag:=au.out.trans (HB.out.mono o_);have aF:=z_ ag;have aB:=ab.out.1;by_cases a8:g<z
      ·have aj:=z_ (fun W=>qjg g o_ W)
       have bj:IntKind.u16.wrap ((g:Int)+1)=(g:Int)+1:=qbj _ o_ o_;rw [show (els g).length=cnt g from rfl] at aj;have ba:=(qnp ⟨g,by omega⟩).1;simp only at ba;by_cases hc:cnt g=s
       ·have aw:=z_ (qw1 (by have:=HP.out;omega) aa.out hc a6 (by rw [HZ.out];exact a8))
        have aG:0<g:=Nat.pos_of_ne_zero (fun e=>by rw [e] at hc;rw [show cnt 0=0 from by decide] at hc;omega);rw [hc] at aj;have HG:=z_ (fun W hW hA=>aP.out g aG o_ f (fun x=>w_ (ac.out x) o_) (w.heap.size+2) W hW hA);have ae:orL (fun l=>giveR D [f l,f (rest g l)]) (qcx com g)<65536:=w_ (qnm _ _ U.length (fun l _=>qet aT.out _)) o_;obtain ⟨gv,aH⟩:=e_ (orL (fun l=>giveR D [f l,f (rest g l)]) (qcx com g));rw [← aH] at HG aw ae;have aI:=z_ (aO.out gv ae);have ah:Hid (Done com U D A s (g+1) (fun x=>if x=g then upC U gv else f x)):=z_ (qvz aa.out aw.out.symm)
        have ad:Hid (∀ x,(fun x=>if x=g then upC U gv else f x) x<2 ^ U.length):=z_ (fun x=>by
         by_cases e:x=g
         ·simp only [if_pos e];exact qiw ap.out gv
         ·simp only [if_neg e];exact ac.out x)
        obtain ⟨uv,aJ⟩:=e_ (upC U gv);rw [← aJ] at aI ah ad;have HX:=z_ (SCmb.of aW.out o_ o_ HB.out);have aK:Hid (SCmb w.heap.size (w.heap.size+1) mm um Ao no co nm Ad dn cd a com u i s0 s1 s2 s3 s4 (w.heap.size+2) wr wr):=z_ ⟨HX.out.1,Below.refl _ _⟩;have i1:(0:Int)≤(g:Int):=o_;have i2:(g:Int)<128:=o_;clear hc aH aJ ae ag aw aG;go_wp2_with (go_at_call 243;refine (aj.out _).mono ?_;rintro e w0 ⟨rfl,nq,rfl⟩)
        have aL:Below (w.heap.size+3) wr (wr.drewN nq).drew:=(qa3 b_ nq).drew;have ak:=z_ aL;clear aL;obtain ⟨⟨z0,z1,z2⟩,y0,y1,y2,y3,y4,y5,y6,y7,y8,y9,bk⟩:=aK.out.1
        go_region_held3 (SCmb w.heap.size (w.heap.size+1) mm um Ao no co nm Ad dn cd a com u i s0 s1 s2 s3 s4 (w.heap.size+2) wr)
         (exact SCmb.of aK.out o_ o_ (by first|exact ak.out.mono o_|exact an.out.mono o_|exact af.out.mono o_|exact ax.out _))
         ((first
          | (go_at_call 244;refine (HG.out _ (aF.out.trans (ak.out.mono o_)) (ab.out.below (B:=w.heap.size+3) o_ ak.out)).mono ?_;rintro e w1 ⟨rfl,aM⟩;have an:=z_ (ak.out.trans (aM.mono (by have:=ak.out.size;omega)));clear aM)
          | (go_at_call 240;refine (aI.out _ (aF.out.trans (an.out.mono o_))).mono ?_;rintro e w2 ⟨rfl,hb2⟩;have af:=z_ (an.out.trans (hb2.mono (by have:=an.out.size;omega)));clear hb2;have ax:=z_ (fun v=>(af.out.mono (B':=w.heap.size+2) o_).setCell (p:=⟨w.heap.size+2,g,none⟩) n_ v);obtain ⟨t1,t2⟩:=(ab.out.below (B:=w.heap.size+3) o_ af.out).2 g o_)))
        have bb:=z_ (ArrF.set (ab.out.below (B:=w.heap.size+3) o_ af.out) (x:=g) o_ uv);have bc:=z_ ((HB.out.trans (af.out.mono o_)).setCell (p:=⟨w.heap.size+2,g,none⟩) n_ (.int .u16 (uv:Int)));go_wp2;go_roundw
        case rel=>exact ⟨g+1,_,by go_num,by omega,ah,ad,bb,bc⟩
        case measure=>simp [intOf];omega
       ·have ah:Hid (Done com U D A s (g+1) f):=z_ (qvy aa.out hc)
        have d3:((cnt g:Int)==(s:Int))=false:=by simp;omega
        have d4:decide ((cnt g:Int)=(s:Int))=false:=f_;obtain ⟨cg,aN⟩:=e_ (cnt g);rw [← aN] at aj d3 d4 hc;clear aN ag;go_wp2_with (go_at_call 243;refine (aj.out _).mono ?_;rintro e w0 ⟨rfl,nq,rfl⟩)
        go_roundw
        case rel=>exact ⟨g+1,f,by go_num,by omega,ah,ac,z_ (ab.out.below (B:=w.heap.size+3) o_ (qa3 b_ nq)),z_ (qa3 HB.out nq)⟩
        case measure=>simp [intOf];omega
      ·obtain rfl:g=z:=o_
       have ah:Hid (Done com U D A (s+1) 0 f):=z_ (qw0 aa.out (by rw [HZ.out];omega));go_wp2;go_roundw
       case rel=>exact ⟨s+1,f,by go_num,by omega,by omega,ah,ac,ab,HB⟩
       case measure=>simp [intOf];omega
    ·obtain rfl:s=k+1:=o_
     have d1:decide (((k+1:Nat):Int)≤(k:Int))=false:=f_;go_wp2;go_ret;exact ⟨_,f,rfl,by omega,ab.out,HP.out ▸ aa.out,ac.out,au.out.trans (HB.out.mono o_)⟩
theorem j19_ {p:Prop}(h:p:=by
 (try dsimp only);exact SCmb.of ab.out o_ o_ aa.out
):p:=h
theorem c67_ {p:Prop}(h:p:=by
 (go_simp;refine (aL.out _ ad.out).mono ?_;rintro e w1 ⟨b,f,rfl,an,ao,ac⟩;have af:=z_ (ad.out.trans (ac.mono ad.out.size));have aa:Hid (Below (w.heap.size+2) W w1):=z_ ((Below.refl _ W).drew.trans (ac.mono (by show _≤W.heap.size;rw [HZ.out];exact Nat.le_refl _)));have ax:=(an.2 mx aM).1;rw [ao] at ax;clear ac an ao;(try dsimp only))
 refine k_o hK ?_ (fun ag=>?_)
 ·exact j19_
 clear hK K ae;refine t_k 7 ?_;refine r_d [6] ?_;refine c_s (fun K hK=>?_) ?_
 ·(go_simp;refine (am.out _).mono ?_;rintro e w2 ⟨rfl,rfl⟩;(try dsimp only))
  refine k_o hK ?_ (fun ah=>?_)
  ·exact j19_
  clear hK K ag;refine t_k 8 ?_;refine r_d [9] ?_;refine c_s (fun K hK=>?_) ?_
  ·go_simp
   refine k_o hK ?_ (fun ai=>?_)
   ·exact j19_
   clear hK K ah;refine r_d [10] ?_;refine c_s (fun K hK=>?_) ?_
   ·go_simp
    refine k_o hK ?_ (fun ay=>?_)
    ·exact j19_
    clear hK K ai;refine wpAnyH_done k_ ?_ _;refine NoPanic.normal ?_;go_wp2;go_ret;exact ⟨by rw [HQ.out];rfl,af.out⟩
   exact a_l
  exact a_l
 exact a_l
):p:=h
theorem qiy (U:List Nat)(hU:Lim U)(mm um:Option Nat)(Ao:Option Addr)(no co:Nat)(nm:List UInt8)(Ad:Option Addr)(dn cd:Nat)(a com:Bool)(u:Int)(i s0 s1 s2 s3 s4:Nat)(D:List (List Int×Int))(A:List Nat)(q:Nat)(ap:DeclN U.length q D)(hq:(a || com)=true→q=2∧2≤A.length∧A.length≤7)(az:q≤A.length)(hA:∀ i,A.getD i 0<2 ^ U.length)(va:Value)(w:World)(hM:MapU w (.map um) U)(hD:HasD 0 w (.slice Ad dn cd) D)(ak:Has w va (u16s A)):
  Calls Tryz.prog 225 #[.agg #[.map mm,.slice Ao no co,.map um],aggE nm Ad dn cd a com u i s0 s1 s2 s3 s4,va] w fun e w'=>e=.returned (.int .u16 ((sortsA U D a com A:Nat):Int))∧Below w.heap.size w w':=by
 have aQ:=pow8 hU.1
 have aq:=z_ (fun (h:(a || com)=true) W (hW:Below w.heap.size w W)=>(qyv U hU mm um Ao no co nm Ad dn cd a com u i s0 s1 s2 s3 s4 D A (hq h).2.1 (hq h).2.2 hA va W (hM.below hW) (hD.below qa7 n_ hW) ((hq h).1 ▸ ap) (ak.below n_ hW)).mono (fun e w' h'=>by
  obtain ⟨b,f,h1,h2,h3,h4,_,h6⟩:=h'
  exact (show ∃ (b:Nat) (f:Nat→Nat),e=.returned (.pointer (some ⟨b,0,none⟩))∧ArrF w' b f∧f (2 ^ A.length-1)=V com U D A (2 ^ A.length-1)∧Below W.heap.size W w' from ⟨b,f,h1,h3,qt5 (hq h).2.2 (by have:=(hq h).2.1;omega) h4,h6⟩)))
 have au:=z_ (fun (h:(a || com)=true)=>qnr A.length (by have:=(hq h).2.2;omega))
 have av:Hid ((a || com)=true→2 ^ A.length-1<128):=z_ (fun h=>by
  have:2 ^ A.length≤2 ^ 7:=Nat.pow_le_pow_right (by decide) (hq h).2.2
  omega)
 have aA:=z_ (fun S (hS:S<65536) W (hW:Below w.heap.size w W)=>qkb U hU S hS (.map um) W (hM.below hW));have aB:=z_ (fun W (hW:Below w.heap.size w W)=>qga hU.1 nm Ad dn cd a com u i s0 s1 s2 s3 s4 D A va W (hD.below qa7 n_ hW) ap az (fun i=>w_ (hA i) o_) (ak.below n_ hW));have aN:=qet ap A;obtain ⟨pp,aw⟩:=e_ (A.length);obtain ⟨Aa,ca,rfl,ak⟩:=ak.shape (n:=pp) (by rw [qho,aw]);have aj:Hid (sortsA U D a com A=if a || com then V com U D A (2 ^ A.length-1) else upC U (giveR D A)):=z_ rfl;obtain ⟨sv,aC⟩:=e_ (sortsA U D a com A);rw [← aC] at aj ⊢;obtain ⟨gv,aD⟩:=e_ (giveR D A);rw [← aD] at aB aj aN;have al:gv<65536:=o_;have aE:=z_ (aA.out gv al);obtain ⟨uv,aF⟩:=e_ (upC U gv);rw [← aF] at aE aj;obtain ⟨vv,aG⟩:=e_ (V com U D A (2 ^ A.length-1));rw [← aG] at aq aj;rw [← aw] at aq au av;obtain ⟨mx,aH⟩:=e_ (2 ^ pp-1);rw [← aH] at aq au av;obtain ⟨W,hW⟩:=e_ ((w.alloc (.cells #[.map mm,.slice Ao no co,.map um] 94)).alloc (.cells #[.string (bstr nm),.slice Ad dn cd,.bool a,.bool com,.int .i64 u,.int .i64 (i:Int),.int .i64 (s0:Int),.int .u16 (s1:Int),.int .u16 (s2:Int),.int .u16 (s3:Int),.int .u16 (s4:Int)] 181));have aI:Below w.heap.size w W:=by
  rw [hW];exact v_
 have aJ:SCmb w.heap.size (w.heap.size+1) mm um Ao no co nm Ad dn cd a com u i s0 s1 s2 s3 s4 (w.heap.size+2) W W:=by
  rw [hW];exact ⟨⟨box3 (qbh _ _ _),qoz (termt.qa5 _ _ _ (by simp))⟩,Below.refl _ _⟩
 have hz:W.heap.size=w.heap.size+2:=by rw [hW];simp
 have aK:=z_ aI;have ab:=z_ aJ;have HZ:=z_ hz;clear hM hD ap ak hA aw aI aJ aC aD aF aG hz hq az aA aH;obtain ⟨⟨z0,z1,z2⟩,y0,y1,y2,y3,y4,y5,y6,y7,y8,y9,aR⟩:=ab.out.1;by_cases hc:(a || com)=true
 ·have HQ:Hid (sv=vv):=z_ (by rw [aj.out,if_pos hc])
  have aL:=z_ (aq.out hc);have am:=z_ (au.out hc);have aM:=av.out hc;have i1:(0:Int)≤(mx:Int):=o_;have i2:(mx:Int)<128:=o_;have ad:=z_ aK.out.drew;cases a with
  | true=>
   clear hc;go_enter Tryz.func225,Tryz.ntmps225
   go_wp2_with fail
   rw [← hW];clear hW;go_wp2_with fail
   refine wp_region_noPanic ?_;refine wp_region_held_drew (S:=(SCmb w.heap.size (w.heap.size+1) mm um Ao no co nm Ad dn cd true com u i s0 s1 s2 s3 s4 (w.heap.size+2) W)) k_ ?_ (fun ae=>?_)
   ·exact SCmb.of ab.out o_ o_ b_.drew
   refine t_k 0 ?_;refine t_k 1 ?_;refine t_k 2 ?_;refine t_k 4 ?_;refine t_k 5 ?_;refine r_d [3] ?_;refine c_s (fun K hK=>?_) ?_
   ·exact c67_
   exact a_l
  | false=>
   cases com with
   | false=>simp at hc
   | true=>
    clear hc;go_enter Tryz.func225,Tryz.ntmps225
    go_wp2_with fail
    rw [← hW];clear hW;go_wp2_with fail
    refine wp_region_noPanic ?_;refine wp_region_held_drew (S:=(SCmb w.heap.size (w.heap.size+1) mm um Ao no co nm Ad dn cd false true u i s0 s1 s2 s3 s4 (w.heap.size+2) W)) k_ ?_ (fun ae=>?_)
    ·exact SCmb.of ab.out o_ o_ b_.drew
    refine t_k 0 ?_;refine t_k 1 ?_;refine t_k 2 ?_;refine t_k 4 ?_;refine t_k 5 ?_;refine r_d [3] ?_;refine c_s (fun K hK=>?_) ?_
    ·exact c67_
    exact a_l
 ·have HQ:Hid (sv=uv):=z_ (by rw [aj.out,if_neg hc])
  have ha:a=false:=by cases a<;>simp_all
  have hcm:com=false:=by cases com<;>simp_all
  subst ha hcm;clear hc;go_enter Tryz.func225,Tryz.ntmps225
  go_wp2_with fail
  rw [← hW];clear hW;go_wp2_with fail
  have ad:=z_ aK.out.drew
  go_region_held3 (SCmb w.heap.size (w.heap.size+1) mm um Ao no co nm Ad dn cd false false u i s0 s1 s2 s3 s4 (w.heap.size+2) W)
   (exact SCmb.of ab.out o_ o_ (by first|exact b_.drew|exact aa.out|exact aO.out))
   ((first
    | (go_at_call 241;refine (aB.out _ ad.out).mono ?_;rintro e w1 ⟨rfl,ac⟩;have af:=z_ (ad.out.trans (ac.mono ad.out.size));have aa:Hid (Below (w.heap.size+2) W w1):=z_ ((Below.refl _ W).drew.trans (ac.mono (by show _≤W.heap.size;rw [HZ.out];exact Nat.le_refl _)));clear ac)
    | (go_at_call 240;refine (aE.out _ af.out).mono ?_;rintro e w2 ⟨rfl,hb2⟩;have aP:=z_ (af.out.trans (hb2.mono af.out.size));have aO:Hid (Below (w.heap.size+2) W w2):=z_ (aa.out.trans (hb2.mono (by have:=aa.out.size;rw [HZ.out] at this;exact this)));clear hb2)))
  go_wp2;go_ret;exact ⟨qaa (by rw [HQ.out]),aP.out⟩
end Go.Proofs.YtiilamngcoegiaaGreat.tsl
