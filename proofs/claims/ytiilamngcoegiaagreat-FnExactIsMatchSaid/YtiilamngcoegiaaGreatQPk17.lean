/- parts -/
import Derived.Test.YtiilamngcoegiaaGreatQPk05
import Derived.Deep.RegionLaw
namespace Go.Proofs.YtiilamngcoegiaaGreat
open Go.ChangeShapes Go.WideShapes Go.ChangeAt Go.RowKit
variable {w W w0 wr w' w1:World}{g x n i o lo cap y s0 s1 s2 s3 s4 B d k m:Nat}{a b c e v0 v1 v2 vx v:Value}{A:Option Addr}{t:TypeId}{nm:List UInt8}{u:Int}{ob:Obj}{xs:List Value}
namespace tsl
set_option maxRecDepth 20000
set_option maxHeartbeats 4000000
open mem subs setm sets sortp sorti rowl sigs gramo tsm tsi tsj tsk
theorem ArrF.set{b:Nat}{f:Nat→Nat}(h:ArrF w b f)(hx:x<128)(v:Nat):ArrF (w.setCell ⟨b,x,none⟩ (.int .u16 (v:Int))) b (fun y=>if y=x then v else f y):=by
 refine ⟨by rw [show (w.setCell ⟨b,x,none⟩ (.int .u16 (v:Int))).heap.size=w.heap.size by simp [World.setCell]];exact h.1,fun y hy=>⟨?_,?_⟩⟩
 ·by_cases e:y=x
  ·subst e
   simp only [if_pos];exact World.cell?_setCell_same _ _ _ (h.2 y hy).1
  ·simp only [if_neg e]
   rw [World.cell?_setCell_other w ⟨b,x,none⟩ ⟨b,y,none⟩ _ (fun e'=>e (by injection e' with _ h _;exact h.symm))];exact (h.2 y hy).1
 ·rw [World.frozen?_setCell]
  exact (h.2 y hy).2
theorem qBe:Tryz.zeroCells289=Array.replicate 128 (.int .u16 0):=by kernel_rfl
theorem ArrF.new (w:World):ArrF (w.alloc (.cells Tryz.zeroCells289 289)) w.heap.size (fun _=>0):=by
 rw [qBe];refine ⟨by simp,fun x hx=>⟨?_,?_⟩⟩
 ·refine (h_ _ _ x _ _ _ (termt.qa5 _ _ _ rfl)).trans ?_
  simp [hx]
 ·simp
theorem qk8 (w:World)(o1 o2 o3:Obj):(((w.alloc o1).alloc o2).alloc o3).heap[w.heap.size]? =some o1:=by
 show (((w.heap.push o1).push o2).push o3)[w.heap.size]? =some o1;rw [Array.getElem?_push,if_neg (by simp;try omega),Array.getElem?_push,if_neg (by simp;try omega),Array.getElem?_push,if_pos rfl]
theorem qv6 (w:World)(o1 o2 o3:Obj):(((w.alloc o1).alloc o2).alloc o3).heap[w.heap.size+1]? =some o2:=by
 show (((w.heap.push o1).push o2).push o3)[w.heap.size+1]? =some o2;rw [Array.getElem?_push,if_neg (by simp;try omega),Array.getElem?_push,if_pos (by simp;try omega)]
theorem qbd (w:World)(o1 o2:Obj):((w.alloc o1).alloc o2).heap[w.heap.size]? =some o1:=by
 show ((w.heap.push o1).push o2)[w.heap.size]? =some o1;rw [Array.getElem?_push,if_neg (by simp;try omega),Array.getElem?_push,if_pos rfl]
theorem box3 (h:w.heap[x]? =some (.cells #[v0,v1,v2] t (0,0))):w.cell? ⟨x,0,none⟩=some v0∧w.cell? ⟨x,1,none⟩=some v1∧w.cell? ⟨x,2,none⟩=some v2:=
 ⟨h_ w x 0 _ _ _ h,h_ w x 1 _ _ _ h,h_ w x 2 _ _ _ h⟩
theorem qp8{c:Nat}{a b:Bool}(h:w.heap[x]? =some (.cells #[.string (bstr nm),.slice A n c,.bool a,.bool b,.int .i64 u,.int .i64 (i:Int),.int .i64 (s0:Int),.int .u16 (s1:Int),.int .u16 (s2:Int),.int .u16 (s3:Int),.int .u16 (s4:Int)] t (0,0))):C11 x nm A n c a b u i s0 s1 s2 s3 s4 w:=
 ⟨h_ w x 0 _ _ _ h,h_ w x 1 _ _ _ h,h_ w x 2 _ _ _ h,h_ w x 3 _ _ _ h,h_ w x 4 _ _ _ h,h_ w x 5 _ _ _ h,h_ w x 6 _ _ _ h,h_ w x 7 _ _ _ h,h_ w x 8 _ _ _ h,h_ w x 9 _ _ _ h,h_ w x 10 _ _ _ h⟩
abbrev SCmb (x y:Nat)(mm um:Option Nat)(Ao:Option Addr)(no co:Nat)(nm:List UInt8)(A:Option Addr)(n c:Nat)(a b:Bool)(u:Int)(i s0 s1 s2 s3 s4:Nat)(B:Nat)(W w:World):Prop:=
 ((w.cell? ⟨x,0,none⟩=some (.map mm)∧w.cell? ⟨x,1,none⟩=some (.slice Ao no co)∧w.cell? ⟨x,2,none⟩=some (.map um))∧C11 y nm A n c a b u i s0 s1 s2 s3 s4 w)∧Below B W w
theorem C11.belowB{c:Nat}{a b:Bool}(h:C11 x nm A n c a b u i s0 s1 s2 s3 s4 w)(hx:x<B)(hb:Below B w w'):C11 x nm A n c a b u i s0 s1 s2 s3 s4 w':=by
 have k:∀ y,w'.cell? ⟨x,y,none⟩=w.cell? ⟨x,y,none⟩:=fun y=>hb.cell (p:=⟨x,y,none⟩) hx
 unfold C11;rw [k,k,k,k,k,k,k,k,k,k,k];exact h
theorem SCmb.of{mm um:Option Nat}{Ao:Option Addr}{no co:Nat}{c:Nat}{a b:Bool}(h:SCmb x y mm um Ao no co nm A n c a b u i s0 s1 s2 s3 s4 B W W)(hx:x<B)(hy:y<B)(hb:Below B W w):SCmb x y mm um Ao no co nm A n c a b u i s0 s1 s2 s3 s4 B W w:=by
 have k:∀ z,w.cell? ⟨x,z,none⟩=W.cell? ⟨x,z,none⟩:=fun z=>hb.cell (p:=⟨x,z,none⟩) hx
 refine ⟨⟨?_,C11.belowB h.1.2 hy hb⟩,hb⟩;rw [k,k,k];exact h.1.1
theorem qo0 (n:Nat)(hn:n≤15)(w:World):Calls Tryz.prog 239 #[.int .i64 (n:Int)] w fun e w'=>e=.returned (.int .u16 ((2 ^ n-1:Nat):Int))∧w'=w:=by
 have h1:2 ^ n≤32768:=Nat.pow_le_pow_right (n:=2) (j:=15) (by decide) hn;have h0:0<2 ^ n:=Nat.two_pow_pos n;have aa:IntKind.u16.wrap (2 ^ n)=((2 ^ n:Nat):Int):=by
  have e:(2:Int) ^ n=((2 ^ n:Nat):Int):=by simp
  rw [e];exact qbl _ o_ o_
 have ab:¬ (n:Int)<0:=o_;obtain ⟨z,hz⟩:=e_ (2 ^ n);rw [← hz] at h1 h0 aa ⊢;obtain ⟨m,hm⟩:=e_ (z-1);have ac:IntKind.u16.wrap ((z:Int)-1)=(m:Int):=by rw [qbl _ o_ o_];omega
 rw [← hm];clear hz hm h1 h0;go_enter Tryz.func239,Tryz.ntmps239
 go_wp2;go_ret;exact ⟨rfl,rfl⟩
theorem qz7 (U:List Nat)(hU:Lim U)(mm um:Option Nat)(Ao:Option Addr)(no co:Nat)(nm:List UInt8)(Ad:Option Addr)(dn cd:Nat)(a com:Bool)(u:Int)(i s0 s1 s2 s3 s4:Nat)(D:List (List Int×Int))(A:List Nat)(h2:2≤A.length)(h7:A.length≤7)(hA:∀ i,A.getD i 0<2 ^ U.length)(va:Value)(w:World)(hM:MapU w (.map um) U)(hD:HasD 0 w (.slice Ad dn cd) D)(ao:DeclN U.length 2 D)(ai:Has w va (u16s A)):
  Calls Tryz.prog 238 #[.agg #[.map mm,.slice Ao no co,.map um],aggE nm Ad dn cd a com u i s0 s1 s2 s3 s4,va] w fun e w'=>∃ (b:Nat) (f:Nat→Nat),e=.returned (.pointer (some ⟨b,0,none⟩))∧w.heap.size≤b∧ArrF w' b f∧Done com U D A (A.length+1) 0 f∧(∀ x,f x<2 ^ U.length)∧Below w.heap.size w w':=by
 have bg:=pow8 hU.1;obtain ⟨p,hp⟩:=e_ (A.length);obtain ⟨Aa,ca,rfl,ai⟩:=ai.shape (n:=p) (by rw [qi7,hp]);have aQ:=z_ (fun S (hS:S<65536) W (hW:Below w.heap.size w W)=>qkq U hU S hS (.map um) W (hM.below hW));have aR:=z_ (fun g (g0:0<g) (gh:g<128) f (hf:∀ x,f x<65536) bl W (hW:Below w.heap.size w W) (aS:ArrF W bl f)=>qjt hU.1 nm Ad dn cd a com u i s0 s1 s2 s3 s4 D g g0 gh f hf bl W aS (hD.below qa6 n_ hW) ao);have aT:=z_ (fun W (hW:Below w.heap.size w W)=>ai.below n_ hW);have HP:=z_ hp;have aU:=z_ hA;have ap:=z_ hU;have aV:=z_ ao;have bh:=ai.len.2;rw [← hp] at h2 h7 ⊢;have aW:2 ^ p≤128:=Nat.pow_le_pow_right (n:=2) (j:=7) (by decide) h7;have aX:2 ^ 2≤2 ^ p:=Nat.pow_le_pow_right (by decide) h2;have aq:=z_ (qo0 p o_);have HZ:Hid (2 ^ A.length=2 ^ p):=z_ (by rw [HP.out]);obtain ⟨z,hz⟩:=e_ (2 ^ p);rw [← hz] at aW aX aq HZ;obtain ⟨m,hm⟩:=e_ (z-1);have bi:IntKind.u16.wrap ((m:Int)+1)=(z:Int):=by rw [qbl _ o_ o_];omega
 have bj:m+1=z:=o_;rw [← hm] at aq;clear hz hm;obtain ⟨W,hW⟩:=e_ (((w.alloc (.cells #[.map mm,.slice Ao no co,.map um] 94)).alloc (.cells #[.string (bstr nm),.slice Ad dn cd,.bool a,.bool com,.int .i64 u,.int .i64 (i:Int),.int .i64 (s0:Int),.int .u16 (s1:Int),.int .u16 (s2:Int),.int .u16 (s3:Int),.int .u16 (s4:Int)] 181)).alloc (.cells Tryz.zeroCells289 289));have az:Below w.heap.size w W:=by
  rw [hW];exact v_
 have aA:SCmb w.heap.size (w.heap.size+1) mm um Ao no co nm Ad dn cd a com u i s0 s1 s2 s3 s4 (w.heap.size+2) W W:=by
  rw [hW];exact ⟨⟨box3 (qk8 _ _ _ _),qp8 (qv6 _ _ _ _)⟩,Below.refl _ _⟩
 have aB:ArrF W (w.heap.size+2) (fun _=>0):=by
  rw [hW];have:=ArrF.new ((w.alloc (.cells #[.map mm,.slice Ao no co,.map um] 94)).alloc (.cells #[.string (bstr nm),.slice Ad dn cd,.bool a,.bool com,.int .i64 u,.int .i64 (i:Int),.int .i64 (s0:Int),.int .u16 (s1:Int),.int .u16 (s2:Int),.int .u16 (s3:Int),.int .u16 (s4:Int)] 181));simpa using this
 have au:=z_ az;have aY:=z_ aA;have aZ:=z_ aB;clear hM hD ao ai hA hp az aA aB;go_enter Tryz.func238,Tryz.ntmps238
 go_wp2;rw [← hW];clear hW;go_loopw [8,9,16] (fun _ _ a6 wr=>∃ (k:Nat) (f:Nat→Nat),a6=.int .i64 k∧k≤p∧Hid (∀ i,i<k→f (2 ^ i)=A.getD i 0)∧Hid (∀ x,f x<2 ^ U.length)∧Hid (ArrF wr (w.heap.size+2) f)∧Hid (Below (w.heap.size+2) W wr)) (fun _ _ v _=>p-(intOf v).toNat)
 case atStart=>exact ⟨0,fun _=>0,rfl,y_,z_ (fun i hi=>absurd hi (Nat.not_lt_zero _)),z_ (fun _=>Nat.two_pow_pos _),aZ,z_ b_⟩
 case round=>
  obtain ⟨k,f,rfl,hk,HF,ac,ab,HB⟩:=hrel;have ag:=au.out.trans (HB.out.mono o_);have aC:=ab.out.1;by_cases aw:k<p
  ·obtain ⟨g,o,rfl,hg,hcell⟩:=(aT.out wr ag).cellAt aw
   rw [qrv _ k Bc_] at hcell;have al:2 ^ k<128:=Nat.pow_lt_pow_right (a:=2) (m:=k) (n:=7) (by decide) o_;have a7:wrap64 (2 ^ k)=((2 ^ k:Nat):Int):=by
    have e:(2:Int) ^ k=((2 ^ k:Nat):Int):=by simp
    rw [e];obtain ⟨b,hb⟩:=e_ (2 ^ k);rw [← hb] at al ⊢;unfold wrap64;omega
   obtain ⟨c0,c1⟩:=ab.out.2 (2 ^ k) al;obtain ⟨av,am⟩:=e_ (A.getD k 0);rw [← am] at hcell
   have aD:Hid (∀ i,i<k+1→(fun y=>if y=2 ^ k then av else f y) (2 ^ i)=A.getD i 0):=z_ (fun i hi=>by
    by_cases e:i=k
    ·subst e;simp only [if_pos];exact am
    ·have:2 ^ i≠2 ^ k:=Nat.ne_of_lt (Nat.pow_lt_pow_right (by decide) o_)
     simp only [if_neg this]
     exact HF.out i o_)
   have ad:Hid (∀ x,(fun y=>if y=2 ^ k then av else f y) x<2 ^ U.length):=z_ (fun x=>by
    by_cases e:x=2 ^ k
    ·simp only [if_pos e];rw [am];exact aU.out k
    ·simp only [if_neg e];exact ac.out x)
   have aE:=z_ (ArrF.set ab.out al av);obtain ⟨y,hy⟩:=e_ (2 ^ k);rw [← hy] at al a7 c0 c1 aD ad aE;have i1:(0:Int)≤(k:Int):=o_;have i2:(k:Int)<(p:Int):=o_;have i3:(0:Int)≤(y:Int):=o_;have i4:(y:Int)<128:=o_;have af:=z_ (HB.out.setCell (p:=⟨w.heap.size+2,y,none⟩) n_ (.int .u16 (av:Int)));clear am hy;go_wp2;go_region
   go_wp2;go_roundw
   case rel=>exact ⟨k+1,_,by go_num,by omega,aD,ad,aE,z_ af.out.drew⟩
   case measure=>simp [intOf];omega
  ·obtain rfl:k=p:=o_
   clear aw;have aF:Hid (Done com U D A 2 0 f):=z_ (qtd Bc_ (fun i hi=>HF.out i Bc_));clear HF;clear aC;go_wp2;go_loopw [10] (fun a8 wr=>∃ (s:Nat) (f:Nat→Nat),a8=.int .i64 s∧2≤s∧s≤k+1∧Hid (Done com U D A s 0 f)∧Hid (∀ x,f x<2 ^ U.length)∧Hid (ArrF wr (w.heap.size+2) f)∧Hid (Below (w.heap.size+2) W wr)) (fun v _=>k+1-(intOf v).toNat)
   case atStart=>exact ⟨2,f,rfl,Nat.le_refl _,by omega,aF,ac,ab,HB⟩
   case round=>
    clear aF ac ab HB ag;obtain ⟨s,f,rfl,ba,bk,aa,ac,ab,HB⟩:=hrel;by_cases aw:s≤k
    ·have d1:decide ((s:Int)≤(k:Int))=true:=d_
     go_wp2_with (go_at_call 239;refine (aq.out _).mono ?_;rintro e w0 ⟨rfl,rfl⟩)
     go_loopw [38] (fun bb wr=>∃ (g:Nat) (f:Nat→Nat),bb=.int .u16 g∧g≤z∧Hid (Done com U D A s g f)∧Hid (∀ x,f x<2 ^ U.length)∧Hid (ArrF wr (w.heap.size+2) f)∧Hid (Below (w.heap.size+2) W wr)) (fun v _=>z-(intOf v).toNat)
     case atStart=>exact ⟨0,f,rfl,y_,aa,ac,ab,HB⟩
     case round=>
      clear aa ac ab HB;obtain ⟨g,f,rfl,bm,aa,ac,ab,HB⟩:=hrel;have ag:=au.out.trans (HB.out.mono o_);have aG:=z_ ag;have aC:=ab.out.1;by_cases bc:g<z
      ·have aj:=z_ (fun W=>qjx g o_ W)
       have bn:IntKind.u16.wrap ((g:Int)+1)=(g:Int)+1:=qbl _ o_ o_;rw [show (els g).length=cnt g from rfl] at aj;have bd:=(qny ⟨g,by omega⟩).1;simp only at bd;by_cases hc:cnt g=s
       ·have ax:=z_ (qwb Bc_ aa.out hc ba (by rw [HZ.out];exact bc))
        have aH:0<g:=Nat.pos_of_ne_zero (fun e=>by rw [e] at hc;rw [show cnt 0=0 from by decide] at hc;omega);rw [hc] at aj;have HG:=z_ (fun W hW hA=>aR.out g aH o_ f (fun x=>w_ (ac.out x) o_) (w.heap.size+2) W hW hA);have ae:orL (fun l=>giveR D [f l,f (rest g l)]) (qd9 com g)<65536:=w_ (qnv _ _ U.length (fun l _=>qf2 aV.out _)) o_;obtain ⟨gv,aI⟩:=e_ (orL (fun l=>giveR D [f l,f (rest g l)]) (qd9 com g));rw [← aI] at HG ax ae;have aJ:=z_ (aQ.out gv ae);have ah:Hid (Done com U D A s (g+1) (fun x=>if x=g then upC U gv else f x)):=z_ (qw9 aa.out ax.out.symm)
        have ad:Hid (∀ x,(fun x=>if x=g then upC U gv else f x) x<2 ^ U.length):=z_ (fun x=>by
         by_cases e:x=g
         ·simp only [if_pos e];exact qjd ap.out gv
         ·simp only [if_neg e];exact ac.out x)
        obtain ⟨uv,aK⟩:=e_ (upC U gv);rw [← aK] at aJ ah ad;have HX:=z_ (SCmb.of aY.out o_ o_ HB.out);have aL:Hid (SCmb w.heap.size (w.heap.size+1) mm um Ao no co nm Ad dn cd a com u i s0 s1 s2 s3 s4 (w.heap.size+2) wr wr):=z_ ⟨HX.out.1,Below.refl _ _⟩;have i1:(0:Int)≤(g:Int):=o_;have i2:(g:Int)<128:=o_;clear hc aI aK ae ag ax aH;go_wp2_with (go_at_call 243;refine (aj.out _).mono ?_;rintro e w0 ⟨rfl,nq,rfl⟩)
        have aM:Below (w.heap.size+3) wr (wr.drewN nq).drew:=(qa3 b_ nq).drew;have ak:=z_ aM;clear aM;obtain ⟨⟨z0,z1,z2⟩,y0,y1,y2,y3,y4,y5,y6,y7,y8,y9,bo⟩:=aL.out.1
        go_region_held3 (SCmb w.heap.size (w.heap.size+1) mm um Ao no co nm Ad dn cd a com u i s0 s1 s2 s3 s4 (w.heap.size+2) wr)
         (exact SCmb.of aL.out o_ o_ (by first|exact ak.out.mono o_|exact an.out.mono o_|exact af.out.mono o_|exact ay.out _))
         ((first
          | (go_at_call 244;refine (HG.out _ (aG.out.trans (ak.out.mono o_)) (ab.out.below (B:=w.heap.size+3) o_ ak.out)).mono ?_;rintro e w1 ⟨rfl,aN⟩;have an:=z_ (ak.out.trans (aN.mono (by have:=ak.out.size;omega)));clear aN)
          | (go_at_call 240;refine (aJ.out _ (aG.out.trans (an.out.mono o_))).mono ?_;rintro e w2 ⟨rfl,aO⟩;have af:=z_ (an.out.trans (aO.mono (by have:=an.out.size;omega)));clear aO;have ay:=z_ (fun v=>(af.out.mono (B':=w.heap.size+2) o_).setCell (p:=⟨w.heap.size+2,g,none⟩) n_ v);obtain ⟨t1,t2⟩:=(ab.out.below (B:=w.heap.size+3) o_ af.out).2 g o_)))
        have be:=z_ (ArrF.set (ab.out.below (B:=w.heap.size+3) o_ af.out) (x:=g) o_ uv);have bf:=z_ ((HB.out.trans (af.out.mono o_)).setCell (p:=⟨w.heap.size+2,g,none⟩) n_ (.int .u16 (uv:Int)));go_wp2;go_roundw
        case rel=>exact ⟨g+1,_,by go_num,by omega,ah,ad,be,bf⟩
        case measure=>simp [intOf];omega
       ·have ah:Hid (Done com U D A s (g+1) f):=z_ (qw8 aa.out hc)
        have d3:((cnt g:Int)==(s:Int))=false:=by simp;omega
        have d4:decide ((cnt g:Int)=(s:Int))=false:=f_;obtain ⟨cg,aP⟩:=e_ (cnt g);rw [← aP] at aj d3 d4 hc;clear aP ag;go_wp2_with (go_at_call 243;refine (aj.out _).mono ?_;rintro e w0 ⟨rfl,nq,rfl⟩)
        go_roundw
        case rel=>exact ⟨g+1,f,by go_num,by omega,ah,ac,z_ (ab.out.below (B:=w.heap.size+3) o_ (qa3 b_ nq)),z_ (qa3 HB.out nq)⟩
        case measure=>simp [intOf];omega
      ·obtain rfl:g=z:=o_
       have ah:Hid (Done com U D A (s+1) 0 f):=z_ (qwa aa.out Ba_);go_wp2;go_roundw
       case rel=>exact ⟨s+1,f,by go_num,by omega,by omega,ah,ac,ab,HB⟩
       case measure=>simp [intOf];omega
    ·obtain rfl:s=k+1:=o_
     have d1:decide (((k+1:Nat):Int)≤(k:Int))=false:=f_;go_wp2;go_ret;exact ⟨_,f,rfl,by omega,ab.out,HP.out ▸ aa.out,ac.out,au.out.trans (HB.out.mono o_)⟩
theorem j19_{p:Prop}(h:p:=by
 (try dsimp only);exact SCmb.of ab.out o_ o_ aa.out
):p:=h
theorem c74_{p:Prop}(h:p:=by
 (go_simp;refine (aM.out _ ad.out).mono ?_;rintro e w1 ⟨b,f,rfl,an,ao,ac⟩;have af:=z_ (ad.out.trans (ac.mono ad.out.size));have aa:Hid (Below (w.heap.size+2) W w1):=z_ ((Below.refl _ W).drew.trans (ac.mono (by show _≤W.heap.size;rw [HZ.out];exact Nat.le_refl _)));have ax:=(an.2 mx aN).1;rw [ao] at ax;clear ac an ao;(try dsimp only))
 refine k_o hK ?_ (fun ag=>?_)
 ·exact j19_
 clear hK K ae;refine t_k 7 ?_;refine r_d [6] ?_;refine c_s (fun K hK=>?_) ?_
 ·(go_simp;refine (am.out _).mono ?_;rintro e w2 ⟨rfl,rfl⟩;(try dsimp only))
  refine k_o hK ?_ (fun ah=>?_)
  ·exact j19_
  clear hK K ag;refine t_k 8 ?_;refine r_d [9] ?_;refine c_s (fun K hK=>?_) ?_
  ·go_simp
   refine k_o hK ?_ (fun ai=>?_)
   ·exact j19_
   clear hK K ah;refine r_d [10] ?_;refine c_s (fun K hK=>?_) ?_
   ·go_simp
    refine k_o hK ?_ (fun ay=>?_)
    ·exact j19_
    clear hK K ai;refine wpAnyH_done k_ ?_ _;refine NoPanic.normal ?_;go_wp2;go_ret;exact ⟨by rw [HQ.out];rfl,af.out⟩
   exact a_l
  exact a_l
 exact a_l
):p:=h
theorem qjf (U:List Nat)(hU:Lim U)(mm um:Option Nat)(Ao:Option Addr)(no co:Nat)(nm:List UInt8)(Ad:Option Addr)(dn cd:Nat)(a com:Bool)(u:Int)(i s0 s1 s2 s3 s4:Nat)(D:List (List Int×Int))(A:List Nat)(q:Nat)(ap:DeclN U.length q D)(hq:(a || com)=true→q=2∧2≤A.length∧A.length≤7)(aA:q≤A.length)(hA:∀ i,A.getD i 0<2 ^ U.length)(va:Value)(w:World)(hM:MapU w (.map um) U)(hD:HasD 0 w (.slice Ad dn cd) D)(ak:Has w va (u16s A)):
  Calls Tryz.prog 225 #[.agg #[.map mm,.slice Ao no co,.map um],aggE nm Ad dn cd a com u i s0 s1 s2 s3 s4,va] w fun e w'=>e=.returned (.int .u16 ((sortsA U D a com A:Nat):Int))∧Below w.heap.size w w':=by
 have aR:=pow8 hU.1
 have aq:=z_ (fun (h:(a || com)=true) W (hW:Below w.heap.size w W)=>(qz7 U hU mm um Ao no co nm Ad dn cd a com u i s0 s1 s2 s3 s4 D A (hq h).2.1 (hq h).2.2 hA va W (hM.below hW) (hD.below qa6 n_ hW) ((hq h).1 ▸ ap) (ak.below n_ hW)).mono (fun e w' h'=>by
  obtain ⟨b,f,h1,h2,h3,h4,_,h6⟩:=h'
  exact (show ∃ (b:Nat) (f:Nat→Nat),e=.returned (.pointer (some ⟨b,0,none⟩))∧ArrF w' b f∧f (2 ^ A.length-1)=V com U D A (2 ^ A.length-1)∧Below W.heap.size W w' from ⟨b,f,h1,h3,qte (hq h).2.2 (by have:=(hq h).2.1;omega) h4,h6⟩)))
 have au:=z_ (fun (h:(a || com)=true)=>qo0 A.length (by have:=(hq h).2.2;omega))
 have av:Hid ((a || com)=true→2 ^ A.length-1<128):=z_ (fun h=>by
  have:2 ^ A.length≤2 ^ 7:=Nat.pow_le_pow_right (by decide) (hq h).2.2
  omega)
 have aB:=z_ (fun S (hS:S<65536) W (hW:Below w.heap.size w W)=>qkq U hU S hS (.map um) W (hM.below hW));have aC:=z_ (fun W (hW:Below w.heap.size w W)=>qgk hU.1 nm Ad dn cd a com u i s0 s1 s2 s3 s4 D A va W (hD.below qa6 n_ hW) ap aA (fun i=>w_ (hA i) o_) (ak.below n_ hW));have aO:=qf2 ap A;obtain ⟨pp,aw⟩:=e_ (A.length);obtain ⟨Aa,ca,rfl,ak⟩:=ak.shape (n:=pp) (by rw [qi7,aw]);have aj:Hid (sortsA U D a com A=if a || com then V com U D A (2 ^ A.length-1) else upC U (giveR D A)):=z_ rfl;obtain ⟨sv,aD⟩:=e_ (sortsA U D a com A);rw [← aD] at aj ⊢;obtain ⟨gv,aE⟩:=e_ (giveR D A);rw [← aE] at aC aj aO;have al:gv<65536:=o_;have aF:=z_ (aB.out gv al);obtain ⟨uv,aG⟩:=e_ (upC U gv);rw [← aG] at aF aj;obtain ⟨vv,aH⟩:=e_ (V com U D A (2 ^ A.length-1));rw [← aH] at aq aj;rw [← aw] at aq au av;obtain ⟨mx,aI⟩:=e_ (2 ^ pp-1);rw [← aI] at aq au av;obtain ⟨W,hW⟩:=e_ ((w.alloc (.cells #[.map mm,.slice Ao no co,.map um] 94)).alloc (.cells #[.string (bstr nm),.slice Ad dn cd,.bool a,.bool com,.int .i64 u,.int .i64 (i:Int),.int .i64 (s0:Int),.int .u16 (s1:Int),.int .u16 (s2:Int),.int .u16 (s3:Int),.int .u16 (s4:Int)] 181));have aJ:Below w.heap.size w W:=by
  rw [hW];exact v_
 have aK:SCmb w.heap.size (w.heap.size+1) mm um Ao no co nm Ad dn cd a com u i s0 s1 s2 s3 s4 (w.heap.size+2) W W:=by
  rw [hW];exact ⟨⟨box3 (qbd _ _ _),qp8 (termt.qa5 _ _ _ (by simp))⟩,Below.refl _ _⟩
 have hz:W.heap.size=w.heap.size+2:=by rw [hW];simp
 have aL:=z_ aJ;have ab:=z_ aK;have HZ:=z_ hz;clear hM hD ap ak hA aw aJ aK aD aE aG aH hz hq aA aB aI;obtain ⟨⟨z0,z1,z2⟩,y0,y1,y2,y3,y4,y5,y6,y7,y8,y9,aS⟩:=ab.out.1;by_cases hc:(a || com)=true
 ·have HQ:Hid (sv=vv):=z_ (by rw [aj.out,if_pos hc])
  have aM:=z_ (aq.out hc);have am:=z_ (au.out hc);have aN:=av.out hc;have i1:(0:Int)≤(mx:Int):=o_;have i2:(mx:Int)<128:=o_;have ad:=z_ aL.out.drew;cases a with
  | true=>
   clear hc;go_enter Tryz.func225,Tryz.ntmps225
   go_wp2_with fail
   rw [← hW];clear hW;go_wp2_with fail
   refine wp_region_noPanic ?_;refine wp_region_held_drew (S:=(SCmb w.heap.size (w.heap.size+1) mm um Ao no co nm Ad dn cd true com u i s0 s1 s2 s3 s4 (w.heap.size+2) W)) k_ ?_ (fun ae=>?_)
   ·exact SCmb.of ab.out o_ o_ b_.drew
   refine t_k 0 ?_;refine t_k 1 ?_;refine t_k 2 ?_;refine t_k 4 ?_;refine t_k 5 ?_;refine r_d [3] ?_;refine c_s (fun K hK=>?_) ?_
   ·exact c74_
   exact a_l
  | false=>
   cases com with
   | false=>simp at hc
   | true=>
    clear hc;go_enter Tryz.func225,Tryz.ntmps225
    go_wp2_with fail
    rw [← hW];clear hW;go_wp2_with fail
    refine wp_region_noPanic ?_;refine wp_region_held_drew (S:=(SCmb w.heap.size (w.heap.size+1) mm um Ao no co nm Ad dn cd false true u i s0 s1 s2 s3 s4 (w.heap.size+2) W)) k_ ?_ (fun ae=>?_)
    ·exact SCmb.of ab.out o_ o_ b_.drew
    refine t_k 0 ?_;refine t_k 1 ?_;refine t_k 2 ?_;refine t_k 4 ?_;refine t_k 5 ?_;refine r_d [3] ?_;refine c_s (fun K hK=>?_) ?_
    ·exact c74_
    exact a_l
 ·have HQ:Hid (sv=uv):=z_ (by rw [aj.out,if_neg hc])
  have ha:a=false:=by cases a<;>simp_all
  have hcm:com=false:=by cases com<;>simp_all
  subst ha hcm;clear hc;go_enter Tryz.func225,Tryz.ntmps225
  go_wp2_with fail
  rw [← hW];clear hW;go_wp2_with fail
  have ad:=z_ aL.out.drew
  go_region_held3 (SCmb w.heap.size (w.heap.size+1) mm um Ao no co nm Ad dn cd false false u i s0 s1 s2 s3 s4 (w.heap.size+2) W)
   (exact SCmb.of ab.out o_ o_ (by first|exact b_.drew|exact aa.out|exact aP.out))
   ((first
    | (go_at_call 241;refine (aC.out _ ad.out).mono ?_;rintro e w1 ⟨rfl,ac⟩;have af:=z_ (ad.out.trans (ac.mono ad.out.size));have aa:Hid (Below (w.heap.size+2) W w1):=z_ ((Below.refl _ W).drew.trans (ac.mono (by show _≤W.heap.size;rw [HZ.out];exact Nat.le_refl _)));clear ac)
    | (go_at_call 240;refine (aF.out _ af.out).mono ?_;rintro e w2 ⟨rfl,az⟩;have aQ:=z_ (af.out.trans (az.mono af.out.size));have aP:Hid (Below (w.heap.size+2) W w2):=z_ (aa.out.trans (az.mono (by have:=aa.out.size;rw [HZ.out] at this;exact this)));clear az)))
  go_wp2;go_ret;exact ⟨qan (by rw [HQ.out]),aQ.out⟩
end tsl

namespace termlc
set_option maxRecDepth 50000
set_option maxHeartbeats 8000000
open mem rowl trm terml termb termt termro rowg
abbrev S5 (W:World)(x:Nat)(vx:Value)(g o:Nat)(a b c e:Value)(w':World):Prop:=(w'.cell? ⟨x,3,none⟩=some vx∧w'.cell? ⟨g,o,none⟩=some a∧w'.cell? ⟨g,o+1,none⟩=some b∧w'.cell? ⟨g,o+2,none⟩=some c∧w'.cell? ⟨g,o+3,none⟩=some e)∧Below (x+1) W w'
theorem S5.next (h:S5 W x vx g o a b c e w0)(hg:g≤x)(hb:Below (x+1) w0 w1):S5 W x vx g o a b c e w1:=by
 have k:∀ y z,y≤x→w1.cell? ⟨y,z,none⟩=w0.cell? ⟨y,z,none⟩:=fun y z hy=>hb.cell (p:=⟨y,z,none⟩) (by show y<x+1;omega)
 unfold S5;rw [k x 3 n_,k g _ hg,k g _ hg,k g _ hg,k g _ hg];exact ⟨h.1,h.2.trans hb⟩
theorem S5.al (h:S5 W x vx g o a b c e w0)(hg:g≤x)(hx:x+1≤w0.heap.size):S5 W x vx g o a b c e (w0.alloc ob):=h.next hg (b_.alloc hx ob)
theorem S5.set (h:S5 W x vx g o a b c e w0)(hg:g≤x)(hy:x+1≤y){u:Value}:S5 W x vx g o a b c e (w0.setCell ⟨y,i,none⟩ u):=h.next hg (b_.setCell hy u)
def qzf (d:Nat)(t:TermM)(w:World)(e:Ending)(w':World):Prop:=∃ va,e=.returned (.agg #[.int .i64 t.op,.string (bstr t.name),.int .i64 t.sort,va])∧HasTs d w.heap.size w' va t.args∧Below w.heap.size w w'
def qBi (d:Nat):Prop:=∀ (t:TermM) (va:Value) (w:World) (lo:Nat),HasTs d lo w va t.args→Bnd t→qa2 t.args≤1048576→Calls Tryz.prog 39 #[.agg #[.int .i64 t.op,.string (bstr t.name),.int .i64 t.sort,va]] w (qzf d t w)
theorem qtj (W:World)(h:Below w.heap.size w W)(x:Nat)(hx:w.heap.size≤x)(u0 u1 u2 u3:Value):Below w.heap.size w ((((W.setCell ⟨x,0,none⟩ u0).setCell ⟨x,1,none⟩ u1).setCell ⟨x,2,none⟩ u2).setCell ⟨x,3,none⟩ u3):=
 (((h.setCell hx u0).setCell hx u1).setCell hx u2).setCell hx u3
theorem qs2{t:TermM}{c:Nat}{Ar:Option Addr}{cr:Nat}(hm:m=t.args.length)(h:CS w t.op t.name t.sort A m c t.args d m Ar cr wr)(u0 u1 u2 u3:Value):
  qzf (d+1) t w (.returned (.agg #[.int .i64 t.op,.string (bstr t.name),.int .i64 t.sort,.slice Ar m cr])) ((((wr.setCell ⟨w.heap.size+1,0,none⟩ u0).setCell ⟨w.heap.size+1,1,none⟩ u1).setCell ⟨w.heap.size+1,2,none⟩ u2).setCell ⟨w.heap.size+1,3,none⟩ u3):=by
 have k1:∀ (W:World) (i:Nat) (u:Value),Kept (w.heap.size+3) W (W.setCell ⟨w.heap.size+1,i,none⟩ u):=fun W i u=>Kept.set (by show w.heap.size+1<_;omega) u
 have kp:=(((k1 wr 0 u0).trans (k1 _ 1 u1)).trans (k1 _ 2 u2)).trans (k1 _ 3 u3);have h1:=h.kids.has;rw [hm,List.take_length] at h1;refine ⟨_,rfl,?_,qtj wr h.below _ o_ _ _ _ _⟩;rw [hm];exact HasR.mono (qa7 _) (HasR.kept (qa7 _) h1 kp) o_
theorem c82_{p:Prop}(h:p:=by
 (try dsimp only);first|(with_reducible assumption)|((with_reducible refine S5.set ?_ aa o_);with_reducible assumption)|((with_reducible refine S5.al ?_ aa o_);with_reducible assumption)|(refine ⟨⟨?_,?_,?_,?_,?_⟩,b_.drew⟩<;>assumption)
):p:=h
theorem qo6 (hS:∀ k,d=k+1→qBi k):qBi d:=by
 intro t va w lo h hB hsz;obtain ⟨A,c,rfl,h⟩:=HasR.shape h rfl;obtain ⟨j0,aA,aB,aC,aD⟩:=info_parts qb1;have a7:=qat t.args;obtain ⟨m,hm⟩:=e_ (t.args.length);rw [← hm] at h ⊢;have hm30:m≤1048576:=o_;have HM:=z_ hm
 have aE:Hid (∀ j,j<m→∃ (k g o:Nat) (A2:Option Addr) (c2:Nat),d=k+1∧A=some ⟨g,o,none⟩∧g<w.heap.size∧w.cell? ⟨g,o+j*4,none⟩=some (.int .i64 (t.args.getD j default).op)∧w.cell? ⟨g,o+j*4+1,none⟩=some (.string (bstr (t.args.getD j default).name))∧
   w.cell? ⟨g,o+j*4+2,none⟩=some (.int .i64 (t.args.getD j default).sort)∧w.cell? ⟨g,o+j*4+3,none⟩=some (.slice A2 (t.args.getD j default).args.length c2)∧HasTs k lo w (.slice A2 (t.args.getD j default).args.length c2) (t.args.getD j default).args∧Bnd (t.args.getD j default)∧qa2 (t.args.getD j default).args≤1048576):=z_ (by
  intro j hj;obtain ⟨k,g,o,A2,c2,h0,h1,_,h2,h3,h4,h5,h6,h7,h8⟩:=qal h hj;refine ⟨k,g,o,A2,c2,h0,h1,h2,h3,h4,h5,h6,h7,h8,?_⟩;have h9:=qam (l:=t.args) (j:=j) o_;have bi:=qao (t.args.getD j default)
  omega)
 have af:Hid (∀ (k:Nat) (Ar:Option Addr) (cr:Nat) (wr:World) (u0 u1 u2 u3:Value),(d=k+1∨(d=0∧k=0))→CS w t.op t.name t.sort A m c t.args k m Ar cr wr→qzf d t w (.returned (.agg #[.int .i64 t.op,.string (bstr t.name),.int .i64 t.sort,.slice Ar m cr])) ((((wr.setCell ⟨w.heap.size+1,0,none⟩ u0).setCell ⟨w.heap.size+1,1,none⟩ u1).setCell ⟨w.heap.size+1,2,none⟩ u2).setCell ⟨w.heap.size+1,3,none⟩ u3)):=z_ (by
  intro k Ar cr wr u0 u1 u2 u3 hk hcs;rcases hk with rfl|⟨rfl,rfl⟩
  ·exact qs2 hm hcs u0 u1 u2 u3
  ·obtain ⟨a8,h1,h2,h3⟩:=qs2 hm hcs u0 u1 u2 u3
   refine ⟨a8,h1,?_,h3⟩;have h0:t.args=[]:=by
    apply List.eq_nil_of_length_eq_zero
    rw [← hm];by_cases hz:m=0
    ·exact hz
    ·obtain ⟨_,_,_,_,_,e,_⟩:=aE.out 0 o_
     omega
   injection h1 with h1
   simp only [Value.agg.injEq] at h1;obtain ⟨a',c',e',h4⟩:=HasR.shape h2 rfl;have bj:=(HasR.len h4).2.2;rw [h0] at e' h4 ⊢;subst e';obtain ⟨A5,ba,ev,bk,bb,_⟩:=h4;simp only [Value.slice.injEq] at ev;obtain ⟨rfl,_,rfl⟩:=ev
   exact HasR.nil _ _ _ bb _)
 obtain ⟨dk,aj⟩:∃ k,d=k+1∨(d=0∧k=0):=by
  cases d with
  | zero=>exact ⟨0,.inr ⟨rfl,rfl⟩⟩
  | succ k=>exact ⟨k,.inl rfl⟩
 have aR:=z_ aj;have aF:=z_ hS;obtain ⟨L,hL⟩:=e_ (t.args);obtain ⟨to,aS⟩:=e_ (t.op);obtain ⟨tn,aT⟩:=e_ (t.name);obtain ⟨ts,aU⟩:=e_ (t.sort);rw [← hL] at HM aE af;rw [← aS,← aT,← aU] at af ⊢;clear h hS hm hB hsz a7 hL aj aS aT aU;go_enter Tryz.func39,Tryz.ntmps39
 go_wp2_with fail
 have bc:Hid (CS w to tn ts A m c L dk 0 none 0 (((w.alloc (.cells #[.int .i64 to,.string (bstr tn),.int .i64 ts,.slice A m c] 38)).alloc (.cells #[.int .i64 0,.string { data:=#[] },.int .i64 0,.slice none 0 0] 38)).alloc (.cells #[.int .i64 to,.string (bstr tn),.int .i64 ts,.slice none 0 0] 38))):=z_ (by
  refine ⟨?_,?_,?_,?_,CKids.nil⟩
  ·exact v_
  ·exact Bx.below (w:=w.alloc (.cells #[.int .i64 to,.string (bstr tn),.int .i64 ts,.slice A m c] 38)) (qa5 _ _ _ rfl) ((b_.alloc (by simp) _).alloc (by simp) _)
  ·exact Bx.below (w:=(w.alloc (.cells #[.int .i64 to,.string (bstr tn),.int .i64 ts,.slice A m c] 38)).alloc (.cells #[.int .i64 0,.string { data:=#[] },.int .i64 0,.slice none 0 0] 38)) (qa5 _ _ _ (by simp)) (b_.alloc (by simp) _)
  ·exact qa5 _ _ _ (by simp))
 go_loopw [4] (fun v4 wr=>∃ (j:Nat) (Ar:Option Addr) (cr:Nat),v4=.int .i64 j∧j≤m∧Hid (CS w to tn ts A m c L dk j Ar cr wr)) (fun i _=>m-(intOf i).toNat)
 case atStart=>exact ⟨0,none,0,rfl,y_,bc⟩
 case round=>
  obtain ⟨j,Ar,cr,rfl,hj,HC⟩:=hrel;obtain ⟨⟨_,_,_,i3⟩,_⟩:=HC.out.ib.cells;have bl:=HC.out.ib.lt;by_cases bd:j<m
  ·obtain ⟨k,g,o,A2,c2,aj,rfl,ak,e0,e1,e2,e3,aG,ax,aH⟩:=aE.out j bd
   obtain rfl:dk=k:=by have:=aR.out;omega
   obtain ⟨u,hu⟩:=e_ (L.getD j default);rw [← hu] at e0 e1 e2 e3 aG ax aH;have ag:=HC.out.below;have HU:=z_ hu;have s0:=(ag.cell (p:=⟨g,o+j*4,none⟩) ak).trans e0;have s1:=(ag.cell (p:=⟨g,o+j*4+1,none⟩) ak).trans e1;have s2:=(ag.cell (p:=⟨g,o+j*4+2,none⟩) ak).trans e2;have s3:=(ag.cell (p:=⟨g,o+j*4+3,none⟩) ak).trans e3;have o3:=HC.out.ob.cells.1.2.2.2;have aV:=HC.out.ob.lt;obtain ⟨xs,ho⟩:∃ xs,wr.ownsRow (w.heap.size+3) 38 4 (.slice Ar j cr) j xs:=by obtain ⟨_,_,xs,h,_⟩:=HC.out.kids;exact ⟨xs,h⟩
   have HO:=z_ ho;have ae:Hid (∀ W,Below wr.heap.size wr W→Calls Tryz.prog 39 #[.agg #[.int .i64 u.op,.string (bstr u.name),.int .i64 u.sort,.slice A2 u.args.length c2]] W (qzf dk u W)):=z_ (fun W hW=>aF.out dk aj _ _ W lo (aG.below n_ (ag.trans (hW.mono ag.size))) ax aH);have aI:=z_ ax;have ay:Hid (Below wr.heap.size wr wr.drew):=z_ b_.drew;have aa:g≤w.heap.size:=Nat.le_of_lt ak;have bm:(0:Int)≤(j:Int):=o_;have bn:(j:Int)<(m:Int):=o_;have ah:j<L.length:=by have:=HM.out;omega
   have bo:j+1≤1048576:=o_;clear e0 e1 e2 e3 aG ax aH ho ag hu aj;go_wp2_with fail
   refine wp_region_noPanic ?_;refine wp_region_held_drew (S:=(S5 wr w.heap.size (.slice (some ⟨g,o,none⟩) m c) g (o+j*4) (.int .i64 u.op) (.string (bstr u.name)) (.int .i64 u.sort) (.slice A2 u.args.length c2))) k_ ?_ (fun am=>?_)
   ·refine ⟨⟨?_,?_,?_,?_,?_⟩,b_.drew⟩<;>assumption
   refine t_k 0 ?_;refine t_k 2 ?_;refine t_k 3 ?_;refine t_k 4 ?_;refine t_k 5 ?_;refine t_k 6 ?_;refine r_d [1,7] ?_;refine c_s (fun K hK=>?_) ?_
   ·go_simp
    refine k_o hK ?_ (fun aJ=>?_)
    ·exact c82_
    clear hK K am;refine r_d [7] ?_;refine c_s (fun K hK=>?_) ?_
    ·(go_simp;refine (ae.out _ ay.out).mono ?_;rintro e w3 ⟨va,rfl,hh,ai⟩;obtain ⟨A9,c9,rfl,_⟩:=HasR.shape hh rfl;have az:Hid (HasTs dk wr.heap.size w3 (.slice A9 u.args.length c9) u.args):=z_ hh;have ab:Hid (Below wr.heap.size wr w3):=z_ (ay.out.trans (ai.mono n_));have be:=ab.out.size;have bf:=(ab.out.cell (p:=⟨w.heap.size+1+1,3,none⟩) aV).trans o3;have aK:w.heap.size+1+1<w3.heap.size:=o_;have bg:=S5.next Ad_ aa (ai.mono (by show w.heap.size+1≤wr.heap.size;omega));clear hh ai;(try dsimp only))
     refine k_o hK ?_ (fun aL=>?_)
     ·exact c82_
     clear hK K aJ;refine r_d [8] ?_;refine c_s (fun K hK=>?_) ?_
     ·go_simp
      refine k_o hK ?_ (fun aM=>?_)
      ·exact c82_
      clear hK K aL;refine r_d [9] ?_;refine c_s (fun K hK=>?_) ?_
      ·(refine qbc (by rfl) _ _ _ (by rfl) (w.heap.size+3) 38 j0 _ 4 56 Tryz.underlying36 aA aB aC aD rfl o_ (.slice Ar j cr) j xs (by rfl) (own_below (own_below HO.out ab.out) (b_.alloc n_ _)) ⟨w3.heap.size,0,none⟩ 1 1 [.int .i64 u.op,.string (bstr u.name),.int .i64 u.sort,.slice A9 u.args.length c9] (by rfl) o_ (by rfl) (fun q x hq=>qdh w3 _ _ _ _ _ q x hq) (qcr rfl rfl rfl rfl) Aa_ o_ (by simp;omega) ?_;intro g4 ac w5 hown ad hg4 an;have HN:=z_ (CS.next HC.out HU.out ah ab.out az.out aI.out HO.out hown ad hg4);have aW:=S5.next Ad_ aa ((Below.refl (w.heap.size+1) _).grown ad (by simp;omega) (fun q hq=>by have:=(qcy HO.out q hq).1;omega));have aX:=HN.out.2.cells.1.2.2.2;have aY:=HN.out.2.cells.2.2.2.2;have ao:=HN.out.2.lt;clear hown ad hg4)
       refine k_o hK ?_ (fun aN=>?_)
       ·exact c82_
       clear hK K aM;refine t_k 10 ?_;refine r_d [11] ?_;refine c_s (fun K hK=>?_) ?_
       ·go_simp
        refine k_o hK ?_ (fun bh=>?_)
        ·exact c82_
        clear hK K aN;refine wpAnyH_done k_ ?_ _;refine NoPanic.normal ?_;have ap:=z_ HN.out.1;go_wp2;go_roundw
        case rel=>exact ⟨j+1,_,ac,by go_num,by omega,ap⟩
        case measure=>simp [intOf];omega
       exact a_l
      exact a_l
     exact a_l
    exact a_l
   refine c_s (fun K hK=>?_) ?_
   ·(go_simp;refine (ae.out _ ay.out).mono ?_;rintro e w3 ⟨va,rfl,hh,ai⟩;obtain ⟨A9,c9,rfl,_⟩:=HasR.shape hh rfl;have az:Hid (HasTs dk wr.heap.size w3 (.slice A9 u.args.length c9) u.args):=z_ hh;have ab:Hid (Below wr.heap.size wr w3):=z_ (ay.out.trans (ai.mono n_));have be:=ab.out.size;have bf:=(ab.out.cell (p:=⟨w.heap.size+1+1,3,none⟩) aV).trans o3;have aK:w.heap.size+1+1<w3.heap.size:=o_;have bg:=S5.next Ad_ aa (ai.mono (by show w.heap.size+1≤wr.heap.size;omega));clear hh ai;(try dsimp only))
    refine k_o hK ?_ (fun aq=>?_)
    ·exact c82_
    clear hK K am;refine r_d [1,8] ?_;refine c_s (fun K hK=>?_) ?_
    ·go_simp
     refine k_o hK ?_ (fun aO=>?_)
     ·exact c82_
     clear hK K aq;refine r_d [8] ?_;refine c_s (fun K hK=>?_) ?_
     ·go_simp
      refine k_o hK ?_ (fun aP=>?_)
      ·exact c82_
      clear hK K aO;refine r_d [9] ?_;refine c_s (fun K hK=>?_) ?_
      ·(refine qbc (by rfl) _ _ _ (by rfl) (w.heap.size+3) 38 j0 _ 4 56 Tryz.underlying36 aA aB aC aD rfl o_ (.slice Ar j cr) j xs (by rfl) (own_below (own_below HO.out ab.out) (b_.alloc n_ _)) ⟨w3.heap.size,0,none⟩ 1 1 [.int .i64 u.op,.string (bstr u.name),.int .i64 u.sort,.slice A9 u.args.length c9] (by rfl) o_ (by rfl) (fun q x hq=>qdh w3 _ _ _ _ _ q x hq) (qcr rfl rfl rfl rfl) Aa_ o_ (by simp;omega) ?_;intro g4 ac w5 hown ad hg4 an;have HN:=z_ (CS.next HC.out HU.out ah ab.out az.out aI.out HO.out hown ad hg4);have aW:=S5.next Ad_ aa ((Below.refl (w.heap.size+1) _).grown ad (by simp;omega) (fun q hq=>by have:=(qcy HO.out q hq).1;omega));have aX:=HN.out.2.cells.1.2.2.2;have aY:=HN.out.2.cells.2.2.2.2;have ao:=HN.out.2.lt;clear hown ad hg4)
       refine k_o hK ?_ (fun aQ=>?_)
       ·exact c82_
       clear hK K aP;refine t_k 10 ?_;refine r_d [11] ?_;refine c_s (fun K hK=>?_) ?_
       ·go_simp
        refine k_o hK ?_ (fun aZ=>?_)
        ·exact c82_
        clear hK K aQ;refine wpAnyH_done k_ ?_ _;refine NoPanic.normal ?_;have ap:=z_ HN.out.1;go_wp2;go_roundw
        case rel=>exact ⟨j+1,_,ac,by go_num,by omega,ap⟩
        case measure=>simp [intOf];omega
       exact a_l
      exact a_l
     exact a_l
    refine c_s (fun K hK=>?_) ?_
    ·go_simp
     refine k_o hK ?_ (fun au=>?_)
     ·exact c82_
     clear hK K aq;refine r_d [1] ?_;refine c_s (fun K hK=>?_) ?_
     ·go_simp
      refine k_o hK ?_ (fun av=>?_)
      ·exact c82_
      clear hK K au;refine r_d [9] ?_;refine c_s (fun K hK=>?_) ?_
      ·(refine qbc (by rfl) _ _ _ (by rfl) (w.heap.size+3) 38 j0 _ 4 56 Tryz.underlying36 aA aB aC aD rfl o_ (.slice Ar j cr) j xs (by rfl) (own_below (own_below HO.out ab.out) (b_.alloc n_ _)) ⟨w3.heap.size,0,none⟩ 1 1 [.int .i64 u.op,.string (bstr u.name),.int .i64 u.sort,.slice A9 u.args.length c9] (by rfl) o_ (by rfl) (fun q x hq=>qdh w3 _ _ _ _ _ q x hq) (qcr rfl rfl rfl rfl) Aa_ o_ (by simp;omega) ?_;intro g4 ac w5 hown ad hg4 an;have HN:=z_ (CS.next HC.out HU.out ah ab.out az.out aI.out HO.out hown ad hg4);have aW:=S5.next Ad_ aa ((Below.refl (w.heap.size+1) _).grown ad (by simp;omega) (fun q hq=>by have:=(qcy HO.out q hq).1;omega));have aX:=HN.out.2.cells.1.2.2.2;have aY:=HN.out.2.cells.2.2.2.2;have ao:=HN.out.2.lt;clear hown ad hg4)
       refine k_o hK ?_ (fun aw=>?_)
       ·exact c82_
       clear hK K av;refine t_k 10 ?_;refine r_d [11] ?_;refine c_s (fun K hK=>?_) ?_
       ·go_simp
        refine k_o hK ?_ (fun a6=>?_)
        ·exact c82_
        clear hK K aw;refine wpAnyH_done k_ ?_ _;refine NoPanic.normal ?_;have ap:=z_ HN.out.1;go_wp2;go_roundw
        case rel=>exact ⟨j+1,_,ac,by go_num,by omega,ap⟩
        case measure=>simp [intOf];omega
       exact a_l
      exact a_l
     exact a_l
    exact a_l
   exact a_l
  ·obtain rfl:j=m:=o_
   obtain ⟨⟨o0,o1,o2,o3⟩,_⟩:=HC.out.ob.cells;obtain ⟨_,f0,f1,f2,f3⟩:=HC.out.rb.cells;obtain ⟨⟨r0,r1,r2,r3⟩,_⟩:=HC.out.rb.cells;go_wp2;refine bodyPost_ret (v:=.agg #[.int .i64 to,.string (bstr tn),.int .i64 ts,.slice Ar j cr]) (by simp [results,Tryz.results39,go_sem,r0,r1,r2,r3]) rfl ?_;exact af.out dk Ar cr wr _ _ _ _ aR.out HC.out
theorem qgm:∀ d,qBi d
 | 0=>qo6 (fun k e=>by omega)
 | d+1=>qo6 (fun k e=>by
                                     obtain rfl:d=k:=o_
                                     exact qgm d)
def qwr (n:Nat)(L:List TermM)(w:World)(e:Ending)(w':World):Prop:=∃ v',e=.returned v'∧HasTs n w.heap.size w' v' L∧Below w.heap.size w w'
theorem qks (L:List TermM)(v:Value)(w:World)(h:HasTs (d+1) lo w v L)(hsz:qa2 L≤1048576):Calls Tryz.prog 144 #[v] w (qwr (d+1) L w):=by
 obtain ⟨A,c,rfl,h⟩:=HasR.shape h rfl;obtain ⟨j0,an,ao,ap,aq⟩:=info_parts qb1;have au:=qat L;obtain ⟨m,hm⟩:=e_ (L.length);rw [← hm] at h ⊢;have hm30:m≤1048576:=o_;have HM:=z_ hm
 have av:Hid (∀ j,j<m→∃ (g o:Nat) (A2:Option Addr) (c2:Nat),A=some ⟨g,o,none⟩∧g<w.heap.size∧w.cell? ⟨g,o+j*4,none⟩=some (.int .i64 (L.getD j default).op)∧w.cell? ⟨g,o+j*4+1,none⟩=some (.string (bstr (L.getD j default).name))∧
   w.cell? ⟨g,o+j*4+2,none⟩=some (.int .i64 (L.getD j default).sort)∧w.cell? ⟨g,o+j*4+3,none⟩=some (.slice A2 (L.getD j default).args.length c2)∧HasTs d lo w (.slice A2 (L.getD j default).args.length c2) (L.getD j default).args∧Bnd (L.getD j default)∧qa2 (L.getD j default).args≤1048576):=z_ (by
  intro j hj;obtain ⟨k,g,o,A2,c2,h0,h1,_,h2,h3,h4,h5,h6,h7,h8⟩:=qal h hj;obtain rfl:d=k:=o_;refine ⟨g,o,A2,c2,h1,h2,h3,h4,h5,h6,h7,h8,?_⟩;have h9:=qam (l:=L) (j:=j) o_;have aF:=qao (L.getD j default)
  omega)
 have ae:Hid (∀ (g8 cap:Nat) (wr:World),Below w.heap.size w wr→CKids Bnd d w.heap.size [g8] wr (.slice (some ⟨g8,0,none⟩) m cap) m (L.take m)→qwr (d+1) L w (.returned (.slice (some ⟨g8,0,none⟩) m cap)) wr):=z_ (by
  intro g8 cap wr hb hk;have h1:=hk.has;rw [hm,List.take_length] at h1;refine ⟨_,rfl,?_,hb⟩;rw [hm]
  exact h1)
 clear h hsz au hm;go_enter Tryz.func144,Tryz.ntmps144
 have aw:Hid (CKids Bnd d w.heap.size [w.heap.size] (w.alloc (.cells #[] 38)) (.slice (some ⟨w.heap.size,0,none⟩) 0 0) 0 (L.take 0)):=z_ (by
  refine ⟨by simp,fun g hg=>by simpa [Value.ownBlock,eq_comm] using hg,[],World.ownsRow_lit (e:=38) (size:=4) w #[] 0 n_ Aa_ rfl,fun j hj=>by omega⟩)
 have ax:Hid (Below w.heap.size w (w.alloc (.cells #[] 38))):=z_ (b_.alloc n_ _);go_wp2_with fail
 go_loopw [3,4] (fun v3 v4 wr=>∃ (j g8 cap:Nat),v3=.slice (some ⟨g8,0,none⟩) j cap∧v4=.int .i64 j∧j≤m∧Hid (Below w.heap.size w wr)∧Hid (CKids Bnd d w.heap.size [g8] wr (.slice (some ⟨g8,0,none⟩) j cap) j (L.take j))) (fun _ i _=>m-(intOf i).toNat)
 case atStart=>exact ⟨0,w.heap.size,0,rfl,rfl,y_,ax,aw⟩
 case round=>
  obtain ⟨j,g8,cap,rfl,rfl,hj,HB,HK⟩:=hrel;by_cases ay:j<m
  ·obtain ⟨g,o,A2,c2,rfl,ac,e0,e1,e2,e3,af,ad,ag⟩:=av.out j ay
   obtain ⟨u,hu⟩:=e_ (L.getD j default);rw [← hu] at e0 e1 e2 e3 af ad ag;have aa:=HB.out;have HU:=z_ hu;have s0:=(aa.cell (p:=⟨g,o+j*4,none⟩) ac).trans e0;have s1:=(aa.cell (p:=⟨g,o+j*4+1,none⟩) ac).trans e1;have s2:=(aa.cell (p:=⟨g,o+j*4+2,none⟩) ac).trans e2;have s3:=(aa.cell (p:=⟨g,o+j*4+3,none⟩) ac).trans e3;have az:=aa.size;obtain ⟨xs,ho⟩:∃ xs,wr.ownsRow w.heap.size 38 4 (.slice (some ⟨g8,0,none⟩) j cap) j xs:=by obtain ⟨_,_,xs,h,_⟩:=HK.out;exact ⟨xs,h⟩
   have HO:=z_ ho;have ab:=z_ (qgm d _ _ wr lo (af.below n_ aa) ad ag);have aA:=z_ ad;have aG:(0:Int)≤(j:Int):=o_;have aH:(j:Int)<(m:Int):=o_;have ah:j<L.length:=by have:=HM.out;omega
   clear e0 e1 e2 e3 af ad ag ho aa hu;go_wp2_with fail
   refine ab.out.mono ?_;rintro e w3 ⟨va,rfl,hh,ai⟩;obtain ⟨A9,c9,rfl,_⟩:=HasR.shape hh rfl;have aB:=z_ hh;have al:=z_ ai;have aI:=ai.size;clear hh ai;go_wp2_with (at_builtin;refine wpList_append_d rfl _ _ _ rfl w.heap.size 38 j0 _ 4 56 Tryz.underlying36 an ao ap aq rfl o_ g8 j cap xs rfl (own_below (own_below HO.out al.out) (b_.alloc n_ _)) ⟨w3.heap.size,0,none⟩ 1 1 [.int .i64 u.op,.string (bstr u.name),.int .i64 u.sort,.slice A9 u.args.length c9] rfl rfl (fun q x hq=>qdh w3 _ _ _ _ _ q x hq) (qcr rfl rfl rfl rfl) Aa_ o_ (by simp;omega) ?_;intro g4 aj w5 hown am hg4 aC ak)
   have HN:=z_ (qAw HU.out ah HK.out az al.out aB.out aA.out HO.out hown am (hg4.imp (fun e=>by rw [e];rfl) id));have aD:=z_ (HB.out.trans HN.out.2);have aE:=z_ HN.out.1;clear hown am hg4 ak HN;go_wp2;go_roundw
   case rel=>exact ⟨j+1,g4,aj,rfl,by go_num,by omega,aD,aE⟩
   case measure=>simp [intOf];omega
  ·obtain rfl:j=m:=o_
   have HR:=z_ (ae.out g8 cap wr HB.out HK.out);go_wp2;go_ret;exact HR.out
end termlc

namespace termsi
set_option maxRecDepth 100000
open mem rowl trm trmv terml termb termt termv termro rowg termlc
abbrev d0:TermM×Value:=(default,undef)
def enc4 (p:TermM×Value):List Value:=[.int .i64 p.1.op,.string (bstr p.1.name),.int .i64 p.1.sort,p.2]
def fourP (es:List (TermM×Value)):List Value:=es.flatMap enc4
theorem qdr:∀ es,(fourP es).length=es.length*4
 | []=>rfl
 | a::l=>by show (enc4 a++fourP l).length=_;rw [List.length_append,qdr l];simp [enc4];omega
theorem qo7 (l m:List (TermM×Value)):fourP (l++m)=fourP l++fourP m:=by simp [fourP]
theorem qme:∀ (es:List (TermM×Value)) (j:Nat),j<es.length→qc6 (fourP es) j (es.getD j d0).1 (es.getD j d0).2
 | [],j,h=>by simp at h
 | a::l,0,_=>⟨rfl,rfl,rfl,rfl⟩
 | a::l,j+1,h=>by
  have hj:j<l.length:=by simpa using h
  obtain ⟨e0,e1,e2,e3⟩:=qme l j hj
  have k:∀ q,(fourP (a::l))[(j+1)*4+q]? =(fourP l)[j*4+q]? := fun q=>by
   show (enc4 a++fourP l)[(j+1)*4+q]? =_;rw [List.getElem?_append_right (by simp [enc4];omega)];congr 1
   simp [enc4];omega
  rw [List.getD_cons_succ];exact ⟨(k 0).trans e0,(k 1).trans e1,(k 2).trans e2,(k 3).trans e3⟩
theorem qh6:∀ (es:List (TermM×Value)) (k:Nat),(fourP es).take (k*4)=fourP (es.take k)
 | [],k=>by simp [fourP]
 | a::l,0=>by simp [fourP]
 | a::l,k+1=>by
  show (enc4 a++fourP l).take ((k+1)*4)=enc4 a++fourP (l.take k);rw [← qh6 l k,List.take_append,List.take_of_length_le (by simp [enc4];omega)];congr 2
  simp [enc4];omega
theorem qkt:∀ (es:List (TermM×Value)) (k:Nat),(fourP es).drop (k*4)=fourP (es.drop k)
 | [],k=>by simp [fourP]
 | a::l,0=>by simp
 | a::l,k+1=>by
  show (enc4 a++fourP l).drop ((k+1)*4)=fourP (l.drop k);rw [← qkt l k,List.drop_append,List.drop_of_length_le (by simp [enc4];omega),List.nil_append];congr 1
  simp [enc4];omega
def El (n lo:Nat)(w:World)(p:TermM×Value):Prop:=HasTs n lo w p.2 p.1.args∧Bnd p.1
theorem qel {n lo:Nat}{w:World}:∀ {es:List (TermM×Value)},(∀ p∈es,El n lo w p)→∀ x∈fourP es,x.oneCell'=true
 | [],_,x,hx=>by simp [fourP] at hx
 | a::l,h,x,hx=>by
  have aa:x∈enc4 a++fourP l:=hx;rcases List.mem_append.1 aa with hx|hx
  ·obtain ⟨A,c,e,_⟩:=HasR.shape (h a (by simp)).1 rfl
   simp only [enc4,List.mem_cons,List.not_mem_nil,or_false] at hx;rcases hx with rfl|rfl|rfl|rfl
   ·rfl
   ·rfl
   ·rfl
   ·rw [e];rfl
  ·exact qel (fun p hp=>h p (by simp [hp])) x hx
theorem qws{b:Nat}{es:List (TermM×Value)}(hm:m=es.length)(h:∀ p∈es,El n lo w p)(hb:Below w.heap.size w wr)(ho:wr.ownsRow b 38 4 (.slice (some ⟨g,0,none⟩) m cap) m (fourP es)):
  HasTs (n+1) 0 wr (.slice (some ⟨g,0,none⟩) m cap) (es.map (·.1)):=by
 have ab:wr.ownsRow 0 38 4 (.slice (some ⟨g,0,none⟩) m cap) m (fourP es):=by
  refine ⟨ho.1,?_⟩;rcases ho.2 with h2|⟨g',cap',cur,hv,hg,r⟩
  ·exact .inl h2
  ·exact .inr ⟨g',cap',cur,hv,y_,r⟩
 refine HasR.of_own ab (by simp [hm]) (fun j hj=>?_);have aa:j<es.length:=o_;obtain ⟨e0,e1,e2,e3⟩:=qme es j aa;have e:(es.map (·.1)).getD j default=(es.getD j d0).1:=by
  rw [List.getD_eq_getElem?_getD,List.getD_eq_getElem?_getD,List.getElem?_map,List.getElem?_eq_getElem aa];rfl
 have he:=h (es.getD j d0) (by rw [List.getD_eq_getElem?_getD,List.getElem?_eq_getElem aa];exact List.getElem_mem _);rw [e];refine ⟨enc4 (es.getD j d0),fun i hi=>?_,(es.getD j d0).2,rfl,HasR.mono (qa7 _) (he.1.below n_ hb) y_,he.2.1,he.2.2.1,he.2.2.2⟩;match i,hi with
 | 0,_=>exact e0
 | 1,_=>exact e1
 | 2,_=>exact e2
 | 3,_=>exact e3
abbrev S4n (w:World)(g o:Nat)(a b c e:Value)(w':World):Prop:=(w'.cell? ⟨g,o,none⟩=some a∧w'.cell? ⟨g,o+1,none⟩=some b∧w'.cell? ⟨g,o+2,none⟩=some c∧w'.cell? ⟨g,o+3,none⟩=some e)∧Below w.heap.size w w'
theorem S4n.next (h:S4n w g o a b c e w0)(hg:g<w.heap.size)(hb:Below w.heap.size w0 w1):S4n w g o a b c e w1:=by
 have k:∀ z,w1.cell? ⟨g,z,none⟩=w0.cell? ⟨g,z,none⟩:=fun z=>hb.cell (p:=⟨g,z,none⟩) hg
 unfold S4n;rw [k,k,k,k];exact ⟨h.1,h.2.trans hb⟩
theorem S4n.al (h:S4n w g o a b c e w0)(hg:g<w.heap.size):S4n w g o a b c e (w0.alloc ob):=h.next hg (b_.alloc h.2.size ob)
theorem S4n.ald (h:S4n w g o a b c e w0.drew)(hg:g<w.heap.size):S4n w g o a b c e (w0.alloc ob).drew:=h.next hg ((Below.refl _ w0.drew).alloc h.2.size ob)
structure SI (n lo:Nat) (w:World) (L:List TermM) (i g cap:Nat) (es:List (TermM×Value)) (wr:World):Prop where
 len:i=es.length
 own:wr.ownsRow w.heap.size 38 4 (.slice (some ⟨g,0,none⟩) i cap) i (fourP es)
 below:Below w.heap.size w wr
 el:∀ p∈es,El n lo w p
 perm:(es.map (·.1)).Perm (L.take i)
 srt:Srt (es.map (·.1))
theorem qAb{es:List (TermM×Value)}{j:Nat}(h:j<es.length):(es.map (·.1)).getD j default=(es.getD j d0).1:=by
 rw [List.getD_eq_getElem?_getD,List.getD_eq_getElem?_getD,List.getElem?_map,List.getElem?_eq_getElem h];rfl
theorem SI.next{L:List TermM}{es:List (TermM×Value)}{w9:World}{u:TermM}{vu:Value}{g9 aa:Nat}(h:SI n lo w L i g cap es wr)(hu:u=L.getD i default)(hi:i<L.length)(ab:El n lo w (u,vu))(hk:k≤i)(h1:∀ j,k≤j→j<i→0<cmp (es.getD j d0).1 u)(h2:0<k→¬ 0<cmp (es.getD (k-1) d0).1 u)(hb:Below w.heap.size w w9)(ho:w9.ownsRow w.heap.size 38 4 (.slice (some ⟨g9,0,none⟩) (i+1) aa) (i+1) (fourP (es.take k)++enc4 (u,vu)++fourP (es.drop k))):∃ ac,SI n lo w L (i+1) g9 aa ac w9:=by
 have hl:=h.len
 obtain ⟨s1,s2⟩:=qAe (l:=es.map (·.1)) (t:=u) (k:=k) h.srt (by simp;omega) (fun j ad ae=>by
  have hj:j<es.length:=by simpa using ae
  rw [qAb hj];exact h1 j ad o_) (fun af=>by rw [qAb o_];exact h2 af)
 have em:(es.take k++(u,vu)::es.drop k).map (·.1)=(es.map (·.1)).take k++u::(es.map (·.1)).drop k:=by simp
 refine ⟨es.take k++(u,vu)::es.drop k,?_,?_,hb,fun p hp=>?_,?_,by rw [em];exact s1⟩
 ·simp;omega
 ·rw [qo7,show fourP ((u,vu)::es.drop k)=enc4 (u,vu)++fourP (es.drop k) from rfl,← List.append_assoc];exact ho
 ·rcases List.mem_append.1 hp with hp|hp
  ·exact h.el p (List.mem_of_mem_take hp)
  ·rcases List.mem_cons.1 hp with rfl|hp
   ·exact ab
   ·exact h.el p (List.mem_of_mem_drop hp)
 ·rw [em,List.take_succ_eq_append_getElem hi,← qai hi,← hu]
  exact s2.trans ((h.perm.cons u).trans (List.perm_append_comm (l₁:=[u])))
theorem qku (g i cap k:Nat)(hk:k≤i)(hi:i≤cap):∃ q,(∀ W,(Instr.sliceAt 36 (.slice (some ⟨g,0,none⟩) i cap) (some (.int .i64 k)) none none).run Tryz.prog W=.ok (.slice (some ⟨g,q,none⟩) (i-k) (cap-k)) W)∧(k<i→q=k*4):=by
 have hel:Tryz.prog.elem 36=38:=by kernel_rfl
 have ac:Tryz.prog.underlying 36=some (.slice (Tryz.prog.elem 36)):=by rw [hel];exact Tryz.underlying36
 obtain ⟨i0,ab,ad,ae,af⟩:=info_parts qb1;have hcs:Tryz.prog.cellsOf 38=4:=by kernel_rfl
 have aa:∀ W,(Instr.sliceAt 36 (.slice (some ⟨g,0,none⟩) i cap) (some (.int .i64 k)) none none).run Tryz.prog W=.ok (sliced (some ⟨g,0,none⟩) k i cap 4) W:=fun W=>by
  rw [run_sliceAt_slice W _ _ _ _ _ ac,run_slice_l W _ _ _ _ ac .i64 k o_ o_,hel,run_sizeOf W ab,hcs];rfl
 by_cases hc:cap=k
 ·exact ⟨0,fun W=>by rw [aa W,sliced,if_pos hc],fun h=>by omega⟩
 ·exact ⟨k*4,fun W=>by rw [aa W,sliced,if_neg hc];simp only [Option.map_some,Addr.add_lit,Nat.zero_add],fun _=>rfl⟩
theorem qs3 (g i cap k:Nat)(hk:k≤cap):∀ W,(Instr.sliceAt 36 (.slice (some ⟨g,0,none⟩) i cap) none (some (.int .i64 k)) none).run Tryz.prog W=.ok (.slice (some ⟨g,0,none⟩) k cap) W:=by
 have hel:Tryz.prog.elem 36=38:=by kernel_rfl
 have ac:Tryz.prog.underlying 36=some (.slice (Tryz.prog.elem 36)):=by rw [hel];exact Tryz.underlying36
 obtain ⟨i0,aa,ad,ae,af⟩:=info_parts qb1;have hcs:Tryz.prog.cellsOf 38=4:=by kernel_rfl
 have ab:∀ W,(Instr.sliceAt 36 (.slice (some ⟨g,0,none⟩) i cap) none (some (.int .i64 k)) none).run Tryz.prog W=.ok (sliced (some ⟨g,0,none⟩) 0 k cap 4) W:=fun W=>by
  rw [run_sliceAt_slice W _ _ _ _ _ ac,run_slice_h W _ _ _ _ ac .i64 k o_ o_,hel,run_sizeOf W aa,hcs];rfl
 intro W;rw [ab W,sliced];by_cases hc:cap=0
 ·rw [if_pos hc];rfl
 ·rw [if_neg hc];rfl
theorem qo8{W':World}{b q:Nat}{es:List (TermM×Value)}(h:W.ownsRow b 38 4 (.slice (some ⟨g,0,none⟩) i cap) i (fourP es))(hi:i=es.length)(hq:k<i→q=k*4)(hb:Below W.heap.size W W'):∀ (j:Nat) (x:Value),(fourP (es.drop k))[j]? =some x→W'.cell? ((⟨g,q,none⟩:Addr).add j)=some x:=by
 intro j x hx;rw [← qkt,List.getElem?_drop] at hx;have aa:k*4+j<i*4:=by have:=(List.getElem?_eq_some_iff.1 hx).1;rw [qdr] at this;omega
 have:=(own_below h hb).cellAt (k*4+j) aa;rw [hx] at this;rw [Addr.add_lit,hq o_];exact this
theorem qwt{b:Nat}(h:W.ownsRow b 38 4 (.slice (some ⟨g,0,none⟩) i cap) i xs):∀ (j:Nat) (x:Value),xs[j]? =some x→W.cell? ((⟨g,0,none⟩:Addr).add j)=some x:=by
 intro j x hx;have aa:j<i*4:=by have:=(List.getElem?_eq_some_iff.1 hx).1;rw [h.1] at this;exact this
 have:=h.cellAt j aa;rw [hx] at this;rw [Addr.add_lit,Nat.zero_add];exact this
theorem qc8{base:Nat}{e:TypeId}{size:Nat}(h:w.ownsRow base e size (.slice (some ⟨g,0,none⟩) n cap) n xs):base≤g∧g<w.heap.size∧n≤cap:=by
 rcases h.2 with ⟨hv,_⟩|⟨g',cap',cur,hv,hb,hg,hc,_⟩
 ·cases hv
 ·simp only [Value.slice.injEq,Option.some.injEq,Addr.mk.injEq,and_true,true_and] at hv
  obtain ⟨rfl,rfl⟩:=hv;exact ⟨hb,(q_ hg),hc⟩
def qwu (n:Nat)(L:List TermM)(w:World)(e:Ending)(w':World):Prop:=∃ v',e=.returned v'∧HasTs (n+1) w.heap.size w' v' (qcj L)∧Below w.heap.size w w'
theorem j21_{p:Prop}(h:p:=by
 (try dsimp only);first|(with_reducible assumption)|((with_reducible refine S4n.ald ?_ ac);with_reducible assumption)|((with_reducible refine S4n.al ?_ ac);with_reducible assumption)|(exact ⟨⟨z0,z1,z2,z3⟩,ai.out.drew⟩)
):p:=h
theorem c83_{p:Prop}(h:p:=by
 clear ap au aN;generalize t5.W=W6 at ah ⊢
 obtain ⟨q,a8,hq⟩:=qku g i cap k hk br;have av:=qs3 g i cap k o_;have HQ:=z_ hq;have aP:=z_ (aZ.out.next ac (ah.out.mono aM));have aw:=z_ (own_below ae.out.own ah.out);have bC:=ah.out.size;have bD:Hid ((fourP (es.take k)).length=k*4):=z_ (by rw [qdr,List.length_take];have:=ag.out;omega);have aQ:Hid ((fourP (es.drop k)).length=(i-k)*4):=z_ (by rw [qdr,List.length_drop,← ag.out]);have bE:(0:Int)≤(k:Int):=o_;have ba:(k:Int)≤(i:Int):=o_;have bb:(k:Int)≤(cap:Int):=o_;clear hq;go_wp2_with (at_builtin;refine wpList_append_d rfl _ _ _ rfl W6.heap.size 38 j0 _ 4 56 Tryz.underlying36 aI aJ aK aL rfl o_ W6.heap.size 0 0 [] rfl (World.ownsRow_lit (e:=38) (size:=4) W6 #[] 0 n_ Aa_ rfl) ⟨g,q,none⟩ (i-k) (cap-k) (fourP (es.drop k)) rfl aQ.out (qo8 aw.out ag.out HQ.out (b_.alloc n_ _)) (qel (fun p hp=>ae.out.el p (List.mem_of_mem_drop hp))) Aa_ o_ (by simp) ?_;intro g4 ax w7 hown ao hg4 ay az)
 rw [List.nil_append,Nat.zero_add] at hown;have aa:Below W6.heap.size W6 w7:=((Below.refl W6.heap.size W6).alloc n_ _).grown ao (by simp) (by intro x hx;cases hx;exact Nat.le_refl _);have bc:Hid (W6.heap.size≤g4∧g4<w7.heap.size):=z_ ⟨(termsi.qc8 hown).1,ay⟩;have bd:=z_ hown;have ai:Hid (Below w.heap.size w w7):=z_ ((ae.out.below.trans (ah.out.mono aM)).trans (aa.mono o_));have bF:=aa.size;obtain ⟨⟨z0,z1,z2,z3⟩,_⟩:=(aP.out.next ac (aa.mono o_))
 have be:Hid (w7.ownsRow w.heap.size 38 4 (.slice (some ⟨g,0,none⟩) k cap) k (fourP (es.take k))):=z_ (by
  have h:=qdu (own_below aw.out aa) hk
  rwa [qh6] at h)
 have bf:¬ g=g4:=by have:=bc.out;omega
 clear hown ao hg4 az aa aP aw ah;refine wp_region_noPanic ?_;refine wp_region_held_drew (S:=(S4n w gL (oL+i*4) (.int .i64 u.op) (.string (bstr u.name)) (.int .i64 u.sort) (.slice A2 u.args.length c2))) k_ ?_ (fun aA=>?_)
 ·exact ⟨⟨z0,z1,z2,z3⟩,ai.out.drew⟩
 refine t_k 0 ?_;refine t_k 1 ?_;refine t_k 2 ?_;refine t_k 3 ?_;refine t_k 4 ?_;refine t_k 5 ?_;refine t_k 6 ?_;refine t_k 9 ?_;refine r_d [7] ?_;refine c_s (fun K hK=>?_) ?_
 ·go_simp
  refine k_o hK ?_ (fun aB=>?_)
  ·exact j21_
  clear hK K aA;refine r_d [8] ?_;refine c_s (fun K hK=>?_) ?_
  ·(refine step_append_d (by rfl) _ _ _ (by rfl) w.heap.size 38 j0 _ 4 56 Tryz.underlying36 aI aJ aK aL rfl o_ g k cap (fourP (es.take k)) (by rfl) (own_below be.out (b_.alloc n_ _).drew) ⟨w7.heap.size,0,none⟩ 1 1 (enc4 (u,.slice A2 u.args.length c2)) (by rfl) (by rfl) (fun q x hq=>qdh w7 _ _ _ _ _ q x hq) (qcr rfl rfl rfl rfl) Aa_ o_ (by simp;omega) ?_;intro g8 aC w8 ab ad bg bh aD;have aj:Below w.heap.size w7 w8:=((Below.refl w.heap.size w7).alloc o_ _).drew.grown ad (by simp;omega) (by intro x hx;cases hx;exact aS);have bG:=S4n.next Ad_ ac ((Below.refl w.heap.size _).grown ad (by simp;omega) (by intro x hx;cases hx;exact aS));have bi:=z_ (qg5 (own_below bd.out ((Below.refl _ w7).alloc n_ _).drew) ad (fun x hx e=>by simp [Value.ownBlock] at hx e;omega));have aE:=(termsi.qc8 ab).1;have bH:=aj.size)
   refine k_o hK ?_ (fun aF=>?_)
   ·exact j21_
   clear hK K aB;refine r_d [10] ?_;refine c_s (fun K hK=>?_) ?_
   ·(refine step_append_d (by rfl) _ _ _ (by rfl) w.heap.size 38 j0 _ 4 56 Tryz.underlying36 aI aJ aK aL rfl o_ g8 (k+1) aC (fourP (es.take k)++enc4 (u,.slice A2 u.args.length c2)) (by rfl) ab ⟨g4,0,none⟩ (i-k) ax (fourP (es.drop k)) (by rfl) aQ.out (qwt bi.out) (qel (fun p hp=>ae.out.el p (List.mem_of_mem_drop hp))) Aa_ o_ o_ ?_;intro g9 aG w9 af ak bj bk aH;have am:Below w.heap.size w8 w9:=(Below.refl w.heap.size w8).grown ak o_ (by intro x hx;cases hx;exact aE);have bI:=S4n.next Ad_ ac am;have aR:Below w.heap.size w w9:=(ai.out.trans aj).trans am)
    refine k_o hK ?_ (fun bl=>?_)
    ·exact j21_
    clear hK K aF;refine t_k 11 ?_;refine wpAnyH_done k_ ?_ _;refine NoPanic.normal ?_;have HN:=z_ (SI.next ae.out HU.out aO HE.out hk HJ.out (fun h=>by have:=a7.out h;omega) aR (by rw [show i+1=k+1+(i-k) by omega];exact af));clear af ak bj aH ab ad bg aD a8 av z0 z1 z2 z3 aR;obtain ⟨bm,an⟩:=HN.out;have bn:=z_ an;clear an HN;go_wp2;go_roundw
    case rel=>exact ⟨i+1,g9,aG,bm,by rw [show k+1+(i-k)=i+1 by omega],by go_num,by omega,bn⟩
    case measure=>simp [intOf];omega
   exact a_l
  exact a_l
 exact a_l
):p:=h
set_option maxRecDepth 50000 in
set_option maxHeartbeats 8000000 in
theorem qwv (L:List TermM)(v:Value)(w:World)(h:HasTs (n+1) lo w v L)(hsz:qa2 L≤1048576):Calls Tryz.prog 118 #[v] w (qwu n L w):=by
 obtain ⟨A,c,rfl,h⟩:=HasR.shape h rfl;obtain ⟨j0,aI,aJ,aK,aL⟩:=info_parts qb1;have bv:=qat L;obtain ⟨m,hm⟩:=e_ (L.length);rw [← hm] at h ⊢;have hm30:m≤1048576:=o_;have HM:=z_ hm
 have bw:Hid (∀ j,j<m→∃ (g o:Nat) (A2:Option Addr) (c2:Nat),A=some ⟨g,o,none⟩∧g<w.heap.size∧w.cell? ⟨g,o+j*4,none⟩=some (.int .i64 (L.getD j default).op)∧w.cell? ⟨g,o+j*4+1,none⟩=some (.string (bstr (L.getD j default).name))∧
   w.cell? ⟨g,o+j*4+2,none⟩=some (.int .i64 (L.getD j default).sort)∧w.cell? ⟨g,o+j*4+3,none⟩=some (.slice A2 (L.getD j default).args.length c2)∧El n lo w (L.getD j default,.slice A2 (L.getD j default).args.length c2)):=z_ (by
  intro j hj;obtain ⟨k,g,o,A2,c2,h0,h1,_,h2,h3,h4,h5,h6,h7,h8⟩:=qal h hj;obtain rfl:n=k:=o_
  exact ⟨g,o,A2,c2,h1,h2,h3,h4,h5,h6,h7,h8⟩)
 have aV:Hid (∀ (g cap:Nat) (es:List (TermM×Value)) (wr:World),SI n lo w L m g cap es wr→Calls Tryz.prog 144 #[.slice (some ⟨g,0,none⟩) m cap] wr (qwu n L w)):=z_ (by
  intro g cap es wr hs;have hp:(es.map (·.1)).Perm L:=by
   have:=hs.perm;rwa [hm,List.take_length] at this
  have e:es.map (·.1)=qcj L:=qha hs.srt hp;have hh:=qws hs.len hs.el hs.below hs.own;rw [e] at hh;have aW:qa2 (qcj L)≤1048576:=by
   rw [← e];have:qa2 (es.map (·.1))=qa2 L:=by
    unfold qa2;exact (hp.map _).sum_nat
   omega
  refine (qks _ _ wr hh aW).mono ?_;rintro e w' ⟨v',rfl,h1,h2⟩
  exact ⟨v',rfl,HasR.mono (qa7 _) h1 hs.below.size,hs.below.trans (h2.mono hs.below.size)⟩)
 clear h hsz bv hm;go_enter Tryz.func118,Tryz.ntmps118
 have bx:Hid (SI n lo w L 0 w.heap.size 0 [] (w.alloc (.cells #[] 38))):=z_ ⟨rfl,World.ownsRow_lit (e:=38) (size:=4) w #[] 0 n_ Aa_ rfl,b_.alloc n_ _,fun p hp=>by simp at hp,by simp,List.Pairwise.nil⟩;go_wp2_with fail
 go_loopw [3,4] (fun v3 v4 wr=>∃ (i g cap:Nat) (es:List (TermM×Value)),v3=.slice (some ⟨g,0,none⟩) i cap∧v4=.int .i64 i∧i≤m∧Hid (SI n lo w L i g cap es wr)) (fun _ i _=>m-(intOf i).toNat)
 case atStart=>exact ⟨0,w.heap.size,0,[],rfl,rfl,y_,bx⟩
 case round=>
  obtain ⟨i,g,cap,es,rfl,rfl,hi,ae⟩:=hrel;by_cases bz:i<m
  ·obtain ⟨gL,oL,A2,c2,rfl,ac,e0,e1,e2,e3,aX⟩:=bw.out i bz
   obtain ⟨u,hu⟩:=e_ (L.getD i default);rw [← hu] at e0 e1 e2 e3 aX;have HU:=z_ hu;have HE:=z_ aX;have ag:=z_ ae.out.len;obtain ⟨aS,bA,br⟩:=qc8 ae.out.own;have aY:=ae.out.below;have aM:=aY.size;have aZ:Hid (S4n w gL (oL+i*4) (.int .i64 u.op) (.string (bstr u.name)) (.int .i64 u.sort) (.slice A2 u.args.length c2) wr):=z_ (S4n.next ⟨⟨e0,e1,e2,e3⟩,Below.refl _ _⟩ ac aY);have bK:(0:Int)≤(i:Int):=o_;have bL:(i:Int)<(m:Int):=o_;have aO:i<L.length:=by have:=HM.out;omega
   clear e0 e1 e2 e3 aX aY hu;obtain ⟨wo,bB⟩:∃ wo,wo=wr:=⟨wr,rfl⟩;subst bB;go_wp2;go_loopw [5] (fun v5 wr=>∃ k:Nat,v5=.int .i64 k∧k≤i∧Hid (∀ j,k≤j→j<i→0<cmp (es.getD j d0).1 u)∧Hid (Below wo.heap.size wo wr)) (fun k _=>(intOf k).toNat)
   case atStart=>exact ⟨i,rfl,Nat.le_refl _,z_ (fun j h1 h2=>by omega),z_ b_⟩
   case round=>
    obtain ⟨k,rfl,hk,HJ,ap⟩:=hrel;have au:=z_ (aZ.out.next ac (ap.out.mono aM));have aN:=z_ (own_below ae.out.own ap.out);have a6:=ap.out.size;have nb:Nonempty (BoxC (Below wr.heap.size wr)):=⟨⟨_,Below.refl _ _⟩⟩;by_cases bM:k≤0
    ·have d1:decide ((0:Int)<(k:Int))=false:=f_
     have d3:decide (0<k)=false:=f_;have d4:¬ 0<k:=o_;have a7:Hid (0<k→¬ 0<cmp (es.getD (k-1) d0).1 u):=z_ (fun h=>by omega);go_wp2_with fail
     refine qa1 (C:=Below wr.heap.size wr) k_ k_ b_.drew ?_;repeat (go_big_quiet_step (fail))
     refine wpQuiet_nil ?_;rintro w5 ⟨t5,rfl⟩;have ah:=z_ (ap.out.trans (t5.h.mono a6));clear d1 d3 nb;exact c83_
    ·obtain ⟨p,hp⟩:∃ p,p+1=k:=⟨k-1,by omega⟩
     have d1:decide ((0:Int)<(k:Int))=true:=d_;have d3:decide (0<k)=true:=d_;have d4:0<k:=o_;have hw:IntKind.i64.wrap ((k:Int)-1)=(p:Int):=by rw [← hp,IntWalk.i64_in _ o_];omega
     have bo:p<es.length:=by have:=ag.out;omega
     obtain ⟨c0,c1,bp,c3⟩:=qme es p bo;have hel:=ae.out.el (es.getD p d0) (by rw [List.getD_eq_getElem?_getD,List.getElem?_eq_getElem bo];exact List.getElem_mem _);obtain ⟨⟨xt,xv⟩,bq⟩:∃ x,x=es.getD p d0:=⟨_,rfl⟩;rw [← bq] at c0 c1 bp c3 hel;obtain ⟨A7,c7,bs,_⟩:=HasR.shape hel.1 rfl;simp only [] at bs;subst bs;have bt:=z_ bq;have q0:=(aN.out.cellAt (p*4) o_).trans c0;have q1:=(aN.out.cellAt (p*4+1) o_).trans c1;have q2:=(aN.out.cellAt (p*4+2) o_).trans bp;have q3:=(aN.out.cellAt (p*4+3) o_).trans c3;simp only [] at q0 q1 q2 q3;have ao:g<wr.heap.size:=o_;have aq:gL<wr.heap.size:=o_;have r0:∀ t:BoxC (Below wr.heap.size wr),t.W.cell? ⟨g,p*4,none⟩=some (.int .i64 xt.op):=fun t=>t.cell q0 ao
     have r1:∀ t:BoxC (Below wr.heap.size wr),t.W.cell? ⟨g,p*4+1,none⟩=some (.string (bstr xt.name)):=fun t=>t.cell q1 ao
     have r2:∀ t:BoxC (Below wr.heap.size wr),t.W.cell? ⟨g,p*4+2,none⟩=some (.int .i64 xt.sort):=fun t=>t.cell q2 ao
     have r3:∀ t:BoxC (Below wr.heap.size wr),t.W.cell? ⟨g,p*4+3,none⟩=some (.slice A7 xt.args.length c7):=fun t=>t.cell q3 ao
     obtain ⟨⟨z0,z1,z2,z3⟩,_⟩:=au.out;have s0:∀ t:BoxC (Below wr.heap.size wr),t.W.cell? ⟨gL,oL+i*4,none⟩=some (.int .i64 u.op):=fun t=>t.cell z0 aq
     have s1:∀ t:BoxC (Below wr.heap.size wr),t.W.cell? ⟨gL,oL+i*4+1,none⟩=some (.string (bstr u.name)):=fun t=>t.cell z1 aq
     have s2:∀ t:BoxC (Below wr.heap.size wr),t.W.cell? ⟨gL,oL+i*4+2,none⟩=some (.int .i64 u.sort):=fun t=>t.cell z2 aq
     have s3:∀ t:BoxC (Below wr.heap.size wr),t.W.cell? ⟨gL,oL+i*4+3,none⟩=some (.slice A2 u.args.length c2):=fun t=>t.cell z3 aq
     have aT:Hid (∀ t:BoxC (Below wr.heap.size wr),Calls Tryz.prog 82 #[.agg #[.int .i64 xt.op,.string (bstr xt.name),.int .i64 xt.sort,.slice A7 xt.args.length c7],.agg #[.int .i64 u.op,.string (bstr u.name),.int .i64 u.sort,.slice A2 u.args.length c2]] t.W fun e w'=>e=.returned (.int .i64 (cmp xt u))∧Below t.W.heap.size t.W w'):=z_ (fun t=>by
      have hb:=(ae.out.below.trans (ap.out.mono aM)).trans (t.h.mono o_)
      exact qgc xt u _ _ t.W (hel.1.below n_ hb) (HE.out.1.below n_ hb))
     have p1:(0:Int)≤(p:Int):=o_;have p2:(p:Int)<(i:Int):=o_;obtain ⟨r,hr⟩:=e_ (cmp xt u);rw [← hr] at aT;have bu:=z_ hr;have HP:=z_ hp;clear c0 c1 bp c3 q0 q1 q2 q3 z0 z1 z2 z3 bq hel hr bo hp;by_cases aU:0<r
     ·have d2:decide (0<r)=true:=decide_eq_true aU
      go_wp2_with fail
      refine qa1 (C:=Below wr.heap.size wr) k_ k_ b_.drew ?_;repeat (go_big_quiet_step ((go_at_call 82;exact (aT.out _).mono (fun _ _ h=>⟨h.1,BoxC.step _ h.2⟩))))
      refine wpQuiet_nil ?_;rintro w5 ⟨t5,rfl⟩;have ah:=z_ (ap.out.trans (t5.h.mono a6));clear r0 r1 r2 r3 s0 s1 s2 s3;go_wp2;go_roundw
      case measure=>have:=HP.out;simp [intOf];omega
      case rel=>exact ⟨p,by go_num,by have:=HP.out;omega,z_ (fun j bN bJ=>by
       by_cases e:j=p
       ·subst e;rw [← bt.out];show 0<cmp xt u;rw [← bu.out];exact aU
       ·exact HJ.out j Bc_ bJ),ah⟩
     ·have d2:decide (0<r)=false:=decide_eq_false aU
      have a7:Hid (0<k→¬ 0<cmp (es.getD (k-1) d0).1 u):=z_ (fun _=>by
       have e:k-1=p:=by have:=HP.out;omega
       rw [e,← bt.out];show ¬ 0<cmp xt u;rw [← bu.out];exact aU)
      go_wp2_with fail
      refine qa1 (C:=Below wr.heap.size wr) k_ k_ b_.drew ?_;repeat (go_big_quiet_step ((go_at_call 82;exact (aT.out _).mono (fun _ _ h=>⟨h.1,BoxC.step _ h.2⟩))))
      refine wpQuiet_nil ?_;rintro w5 ⟨t5,rfl⟩;have ah:=z_ (ap.out.trans (t5.h.mono a6));clear r0 r1 r2 r3 s0 s1 s2 s3 d1 d2 d3 nb aT;exact c83_
  ·obtain rfl:i=m:=o_
   have HR:=z_ (aV.out g cap es wr ae.out);go_wp2_with fail
   refine HR.out.mono ?_;rintro e w' ⟨v',rfl,h1,h2⟩;obtain ⟨A9,c9,rfl,_⟩:=HasR.shape h1 rfl;have HP:Hid (qwu n L w (.returned (.slice A9 (qcj L).length c9)) w'):=z_ ⟨_,rfl,h1,h2⟩;clear h1 h2;go_wp2;go_ret;exact HP.out
end termsi

namespace tso
open mem dec subs setm sortp sorti rowl sigm sigs trm terml termb termt rowg gram tsj tsk tsl
theorem qjl{U:List Nat}(h:MapU w v U):∃ mm,v=.map mm:=by
 rcases h with ⟨rfl,_⟩|⟨b,_,_,rfl,_⟩
 ·exact ⟨none,rfl⟩
 ·exact ⟨some b,rfl⟩
structure Apart (y:Nat) (w w':World):Prop where
 size:w.heap.size≤w'.heap.size
 block:∀ g,g≠y→w'.heap[g]? =w.heap[g]?
 noInt:∀ o k n,w.cell? ⟨y,o,none⟩≠some (.int k n)
 noStr:∀ o b,w.cell? ⟨y,o,none⟩≠some (.string b)
 noMap:∀ es c,w.heap[y]? ≠ some (Obj.map es c)
theorem Apart.cell {y:Nat}{w w':World}(h:Apart y w w'){g o:Nat}(hg:g≠y):w'.cell? ⟨g,o,none⟩=w.cell? ⟨g,o,none⟩:=World.cell?_of_block (w:=w) (h.block g hg)
theorem HasL.apart{L:List Int}(h:HasL lo w v (ivs L))(hA:Apart y w w'):HasL lo w' v (ivs L):=by
 obtain ⟨A,c,rfl,h1,h2,h3⟩:=h;refine ⟨A,c,rfl,h1,h2,fun j u hu=>?_⟩;obtain ⟨g,o,e,hl,hg,hc⟩:=h3 j u hu
 have aa:g≠y:=fun e=>by
  subst e;have hj:=(List.getElem?_eq_some_iff.1 hu).1;rw [qau] at hj;have:u=.int .i64 (L[j]):=by
   have:=hu;simp [ivs,List.getElem?_eq_getElem hj] at this;exact this.symm
  rw [this] at hc;exact hA.noInt _ _ _ hc
 exact ⟨g,o,e,hl,w_ hg hA.size,(hA.cell aa).trans hc⟩
theorem HasD.apart {lo y:Nat}{w w':World}{v:Value}{L:List (List Int×Int)}(h:HasD lo w v L)(hA:Apart y w w'):HasD lo w' v L:=by
 obtain ⟨A,c,rfl,h1,h2,h3⟩:=h;refine ⟨A,c,rfl,h1,h2,fun j hj=>?_⟩;obtain ⟨g,o,cs,e,hl,hg,hc,va,hcs,hh,h4,h5⟩:=h3 j hj
 have aa:g≠y:=fun e=>by
  subst e;have:=hc 1 o_;rw [hcs] at this;exact hA.noInt _ _ _ this
 exact ⟨g,o,cs,e,hl,w_ hg hA.size,fun i hi=>(hA.cell aa).trans (hc i hi),va,hcs,HasL.apart hh hA,h4,h5⟩
theorem HasE.apart {y:Nat}{w w':World}{v:Value}{L:List OpE}(h:HasE w v L)(hA:Apart y w w'):HasE w' v L:=by
 obtain ⟨A,c,rfl,h1,h2,h3⟩:=h;refine ⟨A,c,rfl,h1,h2,fun j hj=>?_⟩;obtain ⟨g,o,cs,e,hl,hg,hc,vd,hcs,hh,h4,h5⟩:=h3 j hj
 have aa:g≠y:=fun e=>by
  subst e;have:=hc 0 o_;rw [hcs] at this;exact hA.noStr _ _ this
 exact ⟨g,o,cs,e,hl,w_ hg hA.size,fun i hi=>(hA.cell aa).trans (hc i hi),vd,hcs,HasD.apart hh hA,h4,h5⟩
theorem HasM.apart {y:Nat}{w w':World}{mv sv:Value}{G:GrM}(h:HasM w mv sv G)(hA:Apart y w w'):HasM w' mv sv G:=
 ⟨qlq h.m (fun b es c hb=>hA.block b (fun e=>hA.noMap es c (e ▸ hb))),HasE.apart h.e hA⟩
theorem qx5{a b:Option Nat}{s:Option Addr}{c:Nat}(h:w.heap[y]? =some (.cells #[.map a,.slice s n c,.map b] t (0,0)))(u0 u1 u2:Value):
  Apart y w (((w.setCell ⟨y,0,none⟩ u0).setCell ⟨y,1,none⟩ u1).setCell ⟨y,2,none⟩ u2):=by
 have hc:∀ o x,w.cell? ⟨y,o,none⟩=some x→x=.map a∨x=.slice s n c∨x=.map b:=fun o x hx=>by
  match o,hx with
  | 0,hx=>rw [h_ w y 0 _ _ _ h] at hx;exact .inl (by simpa using hx.symm)
  | 1,hx=>rw [h_ w y 1 _ _ _ h] at hx;exact .inr (.inl (by simpa using hx.symm))
  | 2,hx=>rw [h_ w y 2 _ _ _ h] at hx;exact .inr (.inr (by simpa using hx.symm))
  | o+3,hx=>rw [h_ w y (o+3) _ _ _ h] at hx;simp at hx
 refine ⟨by simp [World.setCell],fun g hg=>?_,fun o k m hx=>?_,fun o b hx=>?_,fun es c' hx=>?_⟩
 ·exact (Below.heap_setCell _ ⟨y,2,none⟩ _ g hg).trans ((Below.heap_setCell _ ⟨y,1,none⟩ _ g hg).trans (Below.heap_setCell _ ⟨y,0,none⟩ _ g hg))
 ·rcases hc o _ hx with e|e|e<;>cases e
 ·rcases hc o _ hx with e|e|e<;>cases e
 ·rw [h] at hx;cases hx
abbrev SRul (x:Nat)(v0 v1 v2:Value)(B:Nat)(W w:World):Prop:=(w.cell? ⟨x,0,none⟩=some v0∧w.cell? ⟨x,1,none⟩=some v1∧w.cell? ⟨x,2,none⟩=some v2)∧Below B W w
theorem SRul.of (h:SRul x v0 v1 v2 B W W)(hx:x<B)(hb:Below B W w):SRul x v0 v1 v2 B W w:=by
 have k:∀ z,w.cell? ⟨x,z,none⟩=W.cell? ⟨x,z,none⟩:=fun z=>hb.cell (p:=⟨x,z,none⟩) hx
 refine ⟨?_,hb⟩;rw [k,k,k];exact h.1
theorem c95_{p:Prop}(h:p:=by
 (try dsimp only);exact af.out.of (Nat.lt_succ_self _) (by first|exact b_.drew|exact ab.out.mono Ba_|exact aa.out.mono Ba_|exact ae.out _ _ _)
):p:=h
set_option maxRecDepth 50000 in
set_option maxHeartbeats 8000000 in
theorem qx6 (P:List (List UInt8))(Q:List (Int×Int))(O:List OpM)(va vb vc:Value)(w:World)(h:HasG w va vb vc P Q O):
  Calls Tryz.prog 44 #[.agg #[va,vb,vc]] w fun e w'=>∃ mm A c um,e=.returned (.agg #[.map mm,.slice A (grM P Q O).E.length c,.map um])∧HasM w' (.map mm) (.slice A (grM P Q O).E.length c) (grM P Q O)∧MapU w' (.map um) (ordU P Q)∧Below w.heap.size w w':=by
 have ag:=z_ (fun W (hW:Below w.heap.size w W)=>qlr P Q O va vb vc W (h.below n_ hW));have ah:=z_ (fun W (hW:Below w.heap.size w W)=>qg0 P Q va vb W (h.s.below n_ hW));obtain ⟨A1,c1,A2,c2,A3,c3,rfl,rfl,rfl,_⟩:=h.shape;obtain ⟨m1,ai⟩:=e_ (P.length);obtain ⟨m2,aj⟩:=e_ (Q.length);obtain ⟨m3,aq⟩:=e_ (O.length);rw [← ai,← aj,← aq] at ag ⊢;rw [← ai,← aj] at ah;obtain ⟨G,hG⟩:=e_ (grM P Q O);rw [← hG] at ag ⊢;obtain ⟨U,hU⟩:=e_ (ordU P Q);rw [← hU] at ah ⊢;clear h ai aj aq hG hU;obtain ⟨W,hW⟩:=e_ ((w.alloc (.cells #[.slice A1 m1 c1,.slice A2 m2 c2,.slice A3 m3 c3] 46)).alloc (.cells #[.map none,.slice none 0 0,.map none] 94));have au:Below w.heap.size w W:=by
  rw [hW];exact v_
 have ak:SRul w.heap.size (.slice A1 m1 c1) (.slice A2 m2 c2) (.slice A3 m3 c3) (w.heap.size+1) W W:=by
  rw [hW];exact ⟨tsl.box3 (tsl.qbd _ _ _),Below.refl _ _⟩
 have av:W.heap[w.heap.size+1]? =some (.cells #[.map none,.slice none 0 0,.map none] 94 (0,0)):=by rw [hW];exact termt.qa5 _ _ _ (by simp)
 have hz:W.heap.size=w.heap.size+2:=by rw [hW];simp
 have ad:=z_ au;have af:=z_ ak;have ax:=z_ av;have HZ:=z_ hz;obtain ⟨x0,x1,x2⟩:=ak.1;clear au ak av hz;go_enter Tryz.func44,Tryz.ntmps44
 go_wp2_with fail
 rw [← hW];clear hW;refine wp_region_noPanic ?_;refine wp_region_held_drew (S:=(SRul w.heap.size (.slice A1 m1 c1) (.slice A2 m2 c2) (.slice A3 m3 c3) (w.heap.size+1) W)) k_ ?_ (fun al=>?_)
 ·exact af.out.of (Nat.lt_succ_self _) (by first|exact b_.drew|exact ab.out.mono Ba_|exact aa.out.mono Ba_|exact ae.out _ _ _)
 refine t_k 0 ?_;refine t_k 2 ?_;refine t_k 3 ?_;refine r_d [1] ?_;refine c_s (fun K hK=>?_) ?_
 ·(go_simp;refine (ag.out W.drew ad.out.drew).mono ?_;rintro e w1 ⟨mv,A,c,rfl,hM,ay,aw⟩;obtain ⟨mm,rfl⟩:=qjl hM.m;have HM:=z_ hM;have ab:Hid (Below W.heap.size W w1):=z_ (b_.drew.trans aw);have am:Hid (Below w.heap.size w w1):=z_ (ad.out.trans (ab.out.mono ad.out.size));clear hM aw ay;(try dsimp only))
  refine k_o hK ?_ (fun an=>?_)
  ·exact c95_
  clear hK K al;refine r_d [4] ?_;refine c_s (fun K hK=>?_) ?_
  ·(go_simp;refine (ah.out w1 am.out).mono ?_;rintro e w2 ⟨uv,rfl,hU,_,_,ao⟩;obtain ⟨um,rfl⟩:=qjl hU;have HU:=z_ hU;have aa:Hid (Below W.heap.size W w2):=z_ (ab.out.trans (ao.mono ab.out.size));have az:Hid (Below w.heap.size w w2):=z_ (ad.out.trans (aa.out.mono ad.out.size));have aA:=z_ (HM.out.below ao);have ac:Hid (w2.heap[w.heap.size+1]? =some (.cells #[.map none,.slice none 0 0,.map none] 94 (0,0))):=z_ ((aa.out.block _ Ba_).trans ax.out);have d0:=h_ w2 _ 0 _ _ _ ac.out;have d1:=h_ w2 _ 1 _ _ _ ac.out;have d2:=h_ w2 _ 2 _ _ _ ac.out;have f0:=g_ w2 _ 0 _ _ ac.out;have f1:=g_ w2 _ 1 _ _ ac.out;have f2:=g_ w2 _ 2 _ _ ac.out;have ae:Hid (∀ u0 u1 u2,Below (w.heap.size+1) W (((w2.setCell ⟨w.heap.size+1,0,none⟩ u0).setCell ⟨w.heap.size+1,1,none⟩ u1).setCell ⟨w.heap.size+1,2,none⟩ u2)):=z_ (fun u0 u1 u2=>(((aa.out.mono (B':=w.heap.size+1) Ba_).setCell (p:=⟨w.heap.size+1,0,none⟩) n_ u0).setCell (p:=⟨w.heap.size+1,1,none⟩) n_ u1).setCell (p:=⟨w.heap.size+1,2,none⟩) n_ u2);clear hU ao;(try dsimp only))
   refine k_o hK ?_ (fun ap=>?_)
   ·exact c95_
   clear hK K an;refine t_k 5 ?_;refine r_d [6] ?_;refine c_s (fun K hK=>?_) ?_
   ·go_simp
    refine k_o hK ?_ (fun aB=>?_)
    ·exact c95_
    clear hK K ap;refine wpAnyH_done k_ ?_ _;refine NoPanic.normal ?_;have HA:=z_ (qx5 ac.out (.map mm) (.slice A G.E.length c) (.map um));have HR:Hid (HasM (((w2.setCell ⟨w.heap.size+1,0,none⟩ (.map mm)).setCell ⟨w.heap.size+1,1,none⟩ (.slice A G.E.length c)).setCell ⟨w.heap.size+1,2,none⟩ (.map um)) (.map mm) (.slice A G.E.length c) G∧MapU (((w2.setCell ⟨w.heap.size+1,0,none⟩ (.map mm)).setCell ⟨w.heap.size+1,1,none⟩ (.slice A G.E.length c)).setCell ⟨w.heap.size+1,2,none⟩ (.map um)) (.map um) U∧Below w.heap.size w (((w2.setCell ⟨w.heap.size+1,0,none⟩ (.map mm)).setCell ⟨w.heap.size+1,1,none⟩ (.slice A G.E.length c)).setCell ⟨w.heap.size+1,2,none⟩ (.map um))):=z_ ⟨HasM.apart aA.out HA.out,qlq HU.out (fun b es c hb=>HA.out.block b (fun e=>HA.out.noMap es c (e ▸ hb))),ad.out.trans ((ae.out _ _ _).mono o_)⟩;have aC:w.heap.size+1<w2.heap.size:=by have:=aa.out.size;rw [HZ.out] at this;omega
    go_wp2;refine bodyPost_ret (v:=.agg #[.map mm,.slice A G.E.length c,.map um]) (by simp [results,Tryz.results44,go_sem,d0,d1,d2]) rfl ?_;exact ⟨mm,A,c,um,rfl,HR.out⟩
   exact a_l
  exact a_l
 exact a_l
end tso

namespace tsp
set_option maxRecDepth 50000
set_option maxHeartbeats 8000000
open mem subs setm sets sortm sortp sorti sortu rowl sigm sigs sigk trm tsa tsm tsj
theorem qzl{L:List Nat}(h:k<L.length):(ivs (nats L)).getD k undef=.int .i64 ((L.getD k 0:Nat):Int):=by
 rw [qak _ _ (by rw [qag];exact h),qav]
theorem c99_{p:Prop}(h:p:=by
 clear hb;go_wp2_with (go_at_call 80;refine (qcg _ _ _ HD.out _).mono ?_;rintro e w3 ⟨rfl,rfl⟩)
 go_round
 case rel=>exact ⟨k+1,by omega,by go_num,by rw [HE.out]⟩
 case measure=>simp [intOf];omega
):p:=h
theorem qq1 (U:List Nat)(hU:Lim U)(S:Nat)(_hS:S<65536)(vu:Value)(w:World)(h:Has w vu (ivs (nats U))):
  Calls Tryz.prog 237 #[vu,.int .i64 (S:Int)] w fun e w'=>e=.returned (.int .i64 ((upC U S:Nat):Int))∧w=w':=by
 obtain ⟨n,hn⟩:=e_ (U.length);obtain ⟨A,c,rfl,h⟩:=h.shape (n:=n) (by rw [qau,qag,hn]);have hl:=h.len.2;have HH:=z_ h;have HU:=z_ hU;have HN:=z_ hn;have ah:n≤8:=by rw [hn];exact hU.1
 have HQ:=z_ (qt9 hU S);have ab:=z_ (qta hU S);have hp:=pow8 hU.1;rw [← hn] at HQ ab hp;obtain ⟨uv,ac⟩:=e_ (upC U S);rw [← ac] at HQ ⊢;clear h hU hn ac;go_enter Tryz.func237,Tryz.ntmps237
 go_wp2;go_loop [5,6] (fun s i=>∃ k:Nat,k≤n∧i=.int .i64 k∧s=.int .i64 ((closeTo U S k:Nat):Int)) (fun _ i=>n-(intOf i).toNat)
 case atStart=>exact ⟨0,y_,rfl,rfl⟩
 case round=>
  obtain ⟨k,hk,rfl,rfl⟩:=hrel;by_cases ag:k<n
  ·obtain ⟨g,o,rfl,hg,hcell⟩:=HH.out.cellAt ag
   rw [qzl Ac_] at hcell;have HI:=z_ (qeq S k o_);have aa:=z_ (fun h=>qpk (U:=U) (S:=S) (k:=k) h);have ad:=z_ (fun h=>qnw (U:=U) (S:=S) (k:=k) h);have hG:=ab.out k;have hu:=HU.out.lt k;obtain ⟨G,ae⟩:=e_ (closeTo U S k);rw [← ae] at aa ad hG ⊢;obtain ⟨u,af⟩:=e_ (U.getD k 0);rw [← af] at aa hcell hu;have ai:=qjw G u o_ hu;have i1:(0:Int)≤(k:Int):=o_;have i2:(k:Int)<(n:Int):=o_;clear ae af;cases hb:S.testBit k with
   | true=>
    have HD:Hid (hasI S k=true):=z_ (HI.out.trans hb);have HE:=z_ (aa.out hb);exact c99_
   | false=>
    have HD:Hid (hasI S k=false):=z_ (HI.out.trans hb);have HE:=z_ (ad.out hb);exact c99_
  ·obtain rfl:k=n:=o_
   go_wp2;go_ret;exact ⟨qan (by rw [HQ.out]),rfl⟩
theorem c100_{p:Prop}(h:p:=by
 go_roundw
 case rel=>exact ⟨k+1,by omega,by go_num,by rw [HE.out],HB⟩
 case measure=>simp [intOf];omega
):p:=h
theorem qh8 (U:List Nat)(hU:Lim U)(D:List (List Int×Int))(A:List Nat)(af:DeclN U.length A.length D)(hA:∀ i,A.getD i 0<65536)(vu vd va:Value)(w:World)(h:Has w vu (ivs (nats U)))(hD:HasD lo w vd D)(h1:Has w va (ivs (nats A))):
  Calls Tryz.prog 222 #[vu,vd,va] w fun e w'=>e=.returned (.int .i64 ((upC U (giveR D A):Nat):Int))∧Below w.heap.size w w':=by
 have aG:=pow8 hU.1;have aH:=qf2 af A;have aj:=z_ (fun W (hW:Below w.heap.size w W)=>qq1 U hU (giveR D A) o_ vu W (h.below n_ hW));have ax:=z_ (fun k=>qf2 (af.take k) A);obtain ⟨uv,ao⟩:=e_ (upC U (giveR D A));rw [← ao] at aj ⊢;obtain ⟨Au,cu,rfl,_⟩:=h.shape rfl;obtain ⟨q,hq⟩:=e_ (D.length);obtain ⟨p,hp⟩:=e_ (A.length);obtain ⟨Ad,cd,rfl,hD⟩:=HasR.shape hD hq.symm;obtain ⟨Aa,ca,rfl,h1⟩:=h1.shape (n:=p) (by rw [qau,qag,hp]);have aI:=hD.len.2.1;have aJ:=h1.len.2;have HD:=z_ hD;have HA:=z_ h1;have ay:=z_ af;have az:=z_ hA;have HQ:=z_ hq;have HP:=z_ hp;have aK:=hU.1;obtain ⟨nu,ap⟩:=e_ ((ivs (nats U)).length);rw [← ap] at aj ⊢;clear h hD h1 af hA hU hq hp ao ap;go_enter Tryz.func222,Tryz.ntmps222
 go_wp2;go_loopw [7,8,9,10] (fun s i _ _ wr=>∃ k:Nat,k≤q∧i=.int .i64 k∧s=.int .i64 ((giveR (D.take k) A:Nat):Int)∧Hid (Below w.heap.size w wr)) (fun _ i _ _ _=>q-(intOf i).toNat)
 case atStart=>exact ⟨0,y_,rfl,rfl,z_ b_⟩
 case round=>
  obtain ⟨k,hk,rfl,rfl,HB⟩:=hrel;by_cases aA:k<q
  ·obtain ⟨g,o,A2,c2,rfl,_,hg,ag,ah,hh,_,_⟩:=qbb HD.out aA
   have ak:k<D.length:=by have:=HQ.out;omega
   obtain ⟨q1,q2,q3⟩:=DeclN.at ay.out ak;have ac:=z_ (fun h=>qrs (A:=A) ak h);have ad:=z_ (fun h=>qnx (A:=A) ak h);have aB:=ax.out k;rw [show (D.getD k default)=D.getD k ([],0) from rfl] at ag ah hh;obtain ⟨d,hd⟩:=e_ ((D.getD k ([],0)).1);obtain ⟨x,hx⟩:=e_ ((D.getD k ([],0)).2);rw [← hd] at ag q1 q3 ac ad hh;rw [← hx] at ah q2 ac;obtain ⟨j,rfl⟩:∃ j:Nat,x=(j:Int):=⟨x.toNat,by omega⟩;rw [Int.toNat_natCast] at ac;have hj:j<16:=o_;obtain ⟨G,hG⟩:=e_ (giveR (D.take k) A);rw [← hG] at ac ad aB ⊢;have al:G<65536:=o_;have aq:2 ^ j<65536:=qqb hj;have au:=z_ (fun W=>qfo j hj W);obtain ⟨y,hy⟩:=e_ (2 ^ j);rw [← hy] at au ac aq;have aL:=qjw G y al aq;have aC:=z_ ag;have aD:=z_ ah;have HH:=z_ hh.has;have am:=z_ (And.intro q1 q3);have i1:(0:Int)≤(k:Int):=o_;have i2:(k:Int)<(q:Int):=o_;clear hd hx hG hy ag ah hh q1 q2 q3;go_wp2;go_loopw [9,10] (fun b i wr=>∃ (k2:Nat) (bb:Bool),k2≤p∧i=.int .i64 k2∧b=.bool bb∧Hid (bb=qje A d k2)∧Hid (Below w.heap.size w wr)) (fun _ i _=>p-(intOf i).toNat)
   case atStart=>exact ⟨0,true,y_,rfl,rfl,z_ rfl,HB⟩
   case round=>
    clear HB;obtain ⟨k2,bb,aM,rfl,rfl,HF,HB⟩:=hrel;by_cases ae:k2<p
    ·obtain ⟨g2,o2,rfl,hg2,aa⟩:=HA.out.cellAt ae
     rw [qzl Bc_] at aa;have ai:d.length=p:=by rw [am.out.1,← HP.out]
     obtain ⟨g3,o3,rfl,hg3,ab⟩:=HH.out.cellAt (j:=k2) o_;rw [qak _ k2 o_] at ab;have hd0:=am.out.2 k2 (by rw [← HP.out];exact ae);have hS:=qkl A d k2;have aE:=az.out k2;have b2:=(HB.out.cell (p:=⟨g2,o2+k2,none⟩) hg2).trans aa;have b3:=(HB.out.cell (p:=⟨g3,o3+k2,none⟩) hg3).trans ab;have b0:=(HB.out.cell (p:=⟨g,o+k*2,none⟩) hg).trans aC.out;rw [ai] at b0;obtain ⟨a,ha⟩:=e_ (A.getD k2 0);rw [← ha] at b2 hS aE;obtain ⟨v,hv⟩:=e_ (d.getD k2 0);rw [← hv] at b3 hS hd0;obtain ⟨m,rfl⟩:∃ m:Nat,v=(m:Int):=⟨v.toNat,by omega⟩;rw [Int.toNat_natCast] at hS;have HI:=z_ (qeq a m o_);obtain ⟨tb,av⟩:=e_ (a.testBit m);rw [← av] at HI hS;have HS:=z_ hS;have i3:(0:Int)≤(k2:Int):=o_;have i4:(k2:Int)<(p:Int):=o_;clear ha hv av hS aa ab hd0;cases bb with
     | false=>
      have an:Hid (false=qje A d (k2+1)):=z_ (by rw [HS.out,← HF.out];rfl);go_wp2_with fail
      go_quiet ((go_at_call 80;exact (qcg _ _ _ HI.out _).mono (fun _ _ h=>⟨h.1,_,h.2.symm⟩)))
      go_wp2;go_roundw
      case rel=>exact ⟨k2+1,false,by omega,by go_num,rfl,an,z_ (qa3 HB.out _)⟩
      case measure=>simp [intOf];omega
     | true=>
      have an:Hid (tb=qje A d (k2+1)):=z_ (by rw [HS.out,← HF.out];rfl);go_wp2_with fail
      go_quiet ((go_at_call 80;exact (qcg _ _ _ HI.out _).mono (fun _ _ h=>⟨h.1,_,h.2.symm⟩)))
      go_wp2;go_roundw
      case rel=>exact ⟨k2+1,tb,by omega,by go_num,rfl,an,z_ (qa3 HB.out _)⟩
      case measure=>simp [intOf];omega
    ·obtain rfl:k2=p:=o_
     have ai:d.length=k2:=by rw [am.out.1,← HP.out]
     have aw:Hid (bb=fitD A d):=z_ (by rw [HF.out,fitD,ai]);have b1:=(HB.out.cell (p:=⟨g,o+k*2+1,none⟩) hg).trans aD.out;clear ai;cases bb with
     | true=>
      have HE:=z_ (ac.out aw.out.symm);go_wp2_with (go_at_call 221;refine (au.out _).mono ?_;rintro e w3 ⟨rfl,rfl⟩)
      exact c100_
     | false=>
      have HE:=z_ (ad.out aw.out.symm);go_wp2;exact c100_
  ·obtain rfl:k=q:=o_
   have aF:Hid (D.take k=D):=z_ (by rw [HQ.out,List.take_length]);rw [aF.out];go_wp2_with fail
   refine (aj.out _ HB.out).mono ?_;rintro e w3 ⟨rfl,rfl⟩;go_wp2;go_ret;exact ⟨rfl,HB.out⟩
abbrev SApp (x g o:Nat)(v0 v1 v2 vd:Value)(W w:World):Prop:=((w.cell? ⟨x,0,none⟩=some v0∧w.cell? ⟨x,1,none⟩=some v1∧w.cell? ⟨x,2,none⟩=some v2)∧w.cell? ⟨g,o+1,none⟩=some vd)∧Below W.heap.size W w
theorem SApp.of{vd:Value}(h:SApp x g o v0 v1 v2 vd W W)(hb:Below W.heap.size W w):SApp x g o v0 v1 v2 vd W w:=by
 have k:∀ {a:Addr} {v:Value},W.cell? a=some v→w.cell? a=some v:=fun {a v} h=>(hb.cell (p:=a) (l_ h)).trans h
 exact ⟨⟨⟨k h.1.1.1,k h.1.1.2.1,k h.1.1.2.2⟩,k h.1.2⟩,hb⟩
theorem c101_{p:Prop}(h:p:=by
 (try dsimp only);exact ah.out.of (by first|exact b_.drew|exact ab.out|exact af.out)
):p:=h
theorem qq2 (P:List (List UInt8))(Q:List (Int×Int))(O:List OpM)(ai:qah P Q O=true)(k:Nat)(hk:k<O.length)(A:List Nat)(ap:A.length=ar (O.getD k default))(hA:∀ i,A.getD i 0<65536)(va vb vc vs:Value)(w:World)(h:HasG w va vb vc P Q O)(h1:Has w vs (ivs (nats A))):
  Calls Tryz.prog 182 #[.agg #[va,vb,vc],.int .i64 (k:Int),vs] w fun e w'=>e=.returned (.int .i64 ((upC (clo P.length (prs Q)) (giveR (O.getD k default).decls A):Nat):Int))∧Below w.heap.size w w':=by
 have aa:=(qa8 ai).1;obtain ⟨p1,p2,p3,p4,_⟩:=qb2 aa;have ac:=qh7 aa;have aq:=z_ (fun W (hW:Below w.heap.size w W)=>qgd P Q p1 p2 o_ p3 va vb W (h.s.below n_ hW));obtain ⟨A1,c1,A2,c2,A3,c3,rfl,rfl,rfl,_,_,_,h'⟩:=h.shape;obtain ⟨g,o,Ad,cd,rfl,_,hg,_,e1,_,_,_,hD,_,_⟩:=qcm h'.o hk;have ad:=z_ (fun W vu (hW:Below w.heap.size w W) (hu:Has W vu (ivs (nats (clo P.length (prs Q)))))=>qh8 (clo P.length (prs Q)) ac (O.getD k default).decls A (by rw [qc9,ap];exact qzk ai hk) hA vu _ vs W hu (hD.below qa6 n_ hW) (h1.below n_ hW));obtain ⟨As,cs,rfl,_⟩:=h1.shape rfl;obtain ⟨sl,au⟩:=e_ ((ivs (nats A)).length);rw [← au] at ad ⊢;obtain ⟨uv,av⟩:=e_ (upC (clo P.length (prs Q)) (giveR (O.getD k default).decls A));rw [← av] at ad ⊢;obtain ⟨dl,aw⟩:=e_ ((O.getD k default).decls.length);rw [← aw] at ad e1;obtain ⟨m1,ag⟩:=e_ (P.length);obtain ⟨m2,aj⟩:=e_ (Q.length);obtain ⟨m3,ax⟩:=e_ (O.length);have i1:(0:Int)≤(k:Int):=o_;have i2:(k:Int)<(m3:Int):=o_;rw [← ag,← aj] at aq;rw [← ag] at ad;rw [← ag,← aj,← ax];obtain ⟨W,hW⟩:=e_ (w.alloc (.cells #[.slice A1 m1 c1,.slice A2 m2 c2,.slice (some ⟨g,o,none⟩) m3 c3] 46));have ak:=fr1_ hW;have ay:SApp w.heap.size g (o+k*5) (.slice A1 m1 c1) (.slice A2 m2 c2) (.slice (some ⟨g,o,none⟩) m3 c3) (.slice Ad dl cd) W W:=by
  refine ⟨⟨?_,(ak.cell (p:=⟨g,o+k*5+1,none⟩) hg).trans e1⟩,Below.refl _ _⟩;rw [hW];exact tsl.box3 (termt.qa5 _ _ _ rfl)
 have ae:=z_ ak;have ah:=z_ ay;clear h h' h1 hA ap aa p1 p2 p3 p4 ac e1 hD au av aw ag aj ax ak ay ai hk hg;go_enter Tryz.func182,Tryz.ntmps182
 go_wp2_with fail
 rw [← hW];clear hW;refine wp_region_noPanic ?_;refine wp_region_held_drew (S:=(SApp w.heap.size g (o+k*5) (.slice A1 m1 c1) (.slice A2 m2 c2) (.slice (some ⟨g,o,none⟩) m3 c3) (.slice Ad dl cd) W)) k_ ?_ (fun al=>?_)
 ·exact ah.out.of (by first|exact b_.drew|exact ab.out|exact af.out)
 refine t_k 0 ?_;refine t_k 1 ?_;refine t_k 3 ?_;refine t_k 4 ?_;refine t_k 5 ?_;refine t_k 6 ?_;refine t_k 7 ?_;refine t_k 8 ?_;refine t_k 9 ?_;refine r_d [2] ?_;refine c_s (fun K hK=>?_) ?_
 ·(go_simp;refine (aq.out W.drew ae.out.drew).mono ?_;rintro e w1 ⟨aC,rfl,hown,az⟩;obtain ⟨Au,cu,rfl,_⟩:=qaz hown;have HU:=z_ (Has.of_own hown);have ab:Hid (Below W.heap.size W w1):=z_ (b_.drew.trans az);have am:Hid (Below w.heap.size w w1):=z_ (ae.out.trans (ab.out.mono ae.out.size));clear hown az;(try dsimp only))
  refine k_o hK ?_ (fun an=>?_)
  ·exact c101_
  clear hK K al;refine r_d [10] ?_;refine c_s (fun K hK=>?_) ?_
  ·(go_simp;refine (ad.out w1 _ am.out HU.out).mono ?_;rintro e w2 ⟨rfl,aA⟩;have af:Hid (Below W.heap.size W w2):=z_ (ab.out.trans (aA.mono ab.out.size));clear aA;(try dsimp only))
   refine k_o hK ?_ (fun ao=>?_)
   ·exact c101_
   clear hK K an;refine r_d [11] ?_;refine c_s (fun K hK=>?_) ?_
   ·go_simp
    refine k_o hK ?_ (fun aB=>?_)
    ·exact c101_
    clear hK K ao;refine wpAnyH_done k_ ?_ _;refine NoPanic.normal ?_;go_wp2;go_ret;exact ⟨rfl,ae.out.trans (af.out.mono ae.out.size)⟩
   exact a_l
  exact a_l
 exact a_l
end tsp
end Go.Proofs.YtiilamngcoegiaaGreat
