/- parts -/
import Derived.Test.YtiilamngcoegiaaGreatQPk04
import Derived.BigRegion
namespace Go.Proofs.YtiilamngcoegiaaGreat
open Go.ChangeShapes Go.WideShapes Go.ChangeAt Go.RowKit
variable {g n k l s m i lo lo' base j S x:Nat}{α:Type}{U A:List Nat}{f:Nat→Nat}{D:List (List Int×Int)}{w:World}{P:List (List UInt8)}{Q:List (Int×Int)}
namespace termu
open mem dec rowl trm terml termt
theorem qCw (o:Int)(n:List UInt8)(s:Int)(l:List TermM):(TermM.mk o n s l).op=o:=rfl
theorem qAu (o:Int)(n:List UInt8)(s:Int)(l:List TermM):(TermM.mk o n s l).name=n:=rfl
theorem qAv (o:Int)(n:List UInt8)(s:Int)(l:List TermM):(TermM.mk o n s l).sort=s:=rfl
def EqS (n:Nat):Prop:=∀ (L:List TermM) (va vb:Value) (w:World) (lo lo':Nat),HasTs n lo w va L→HasTs n lo' w vb L→
 Calls Tryz.prog 48 #[va,vb] w fun e w'=>e=.returned (.bool true)∧Below w.heap.size w w'
theorem qnb (hS:EqS n)(op:Int)(l:List UInt8)(s:Int)(L:List TermM)(va vb:Value)(w:World)(ha:HasTs n lo w va L)(hb:HasTs n lo' w vb L):
  Calls Tryz.prog 15 #[.agg #[.int .i64 op,.string (bstr l),.int .i64 s,va],.agg #[.int .i64 op,.string (bstr l),.int .i64 s,vb]] w fun e w'=>e=.returned (.bool true)∧Below w.heap.size w w':=by
 have HE:=z_ (fun W (hW:Below w.heap.size w W)=>hS L va vb W lo lo' (ha.below n_ hW) (hb.below n_ hW));obtain ⟨A,ca,rfl,_⟩:=HasR.shape ha rfl;obtain ⟨B,cb,rfl,_⟩:=HasR.shape hb rfl;obtain ⟨k,hk⟩:=e_ (L.length);rw [← hk] at HE ⊢;clear ha hb hk;go_enter Tryz.func15,Tryz.ntmps15
 go_wp2_with fail
 refine (HE.out _ ((b_.alloc n_ _).alloc (by simp) _)).mono ?_;rintro e w1 ⟨rfl,aa⟩;have ab:Below w.heap.size w w1:=((b_.alloc n_ _).alloc (by simp) _).trans (aa.mono (by simp;omega));clear aa;go_wp2;go_ret;exact ⟨rfl,ab⟩
theorem qso{wr w0 w1:World}{g' o o':Nat}{a0 a1 a2 a3 b0 b1 b2 b3:Value}(h:(w0.cell? ⟨g,o,none⟩=some a0∧w0.cell? ⟨g,o+1,none⟩=some a1∧w0.cell? ⟨g,o+2,none⟩=some a2∧w0.cell? ⟨g,o+3,none⟩=some a3∧
   w0.cell? ⟨g',o',none⟩=some b0∧w0.cell? ⟨g',o'+1,none⟩=some b1∧w0.cell? ⟨g',o'+2,none⟩=some b2∧w0.cell? ⟨g',o'+3,none⟩=some b3)∧Below wr.heap.size wr w0)(hp:g<wr.heap.size∧g'<wr.heap.size)(hb:Below w0.heap.size w0 w1):
  (w1.cell? ⟨g,o,none⟩=some a0∧w1.cell? ⟨g,o+1,none⟩=some a1∧w1.cell? ⟨g,o+2,none⟩=some a2∧w1.cell? ⟨g,o+3,none⟩=some a3∧
   w1.cell? ⟨g',o',none⟩=some b0∧w1.cell? ⟨g',o'+1,none⟩=some b1∧w1.cell? ⟨g',o'+2,none⟩=some b2∧w1.cell? ⟨g',o'+3,none⟩=some b3)∧Below wr.heap.size wr w1:=by
 have hs:=h.2.size;have k:∀ x,w1.cell? ⟨g,x,none⟩=w0.cell? ⟨g,x,none⟩:=fun x=>hb.cell (p:=⟨g,x,none⟩) (by show g<_;omega)
 have k':∀ x,w1.cell? ⟨g',x,none⟩=w0.cell? ⟨g',x,none⟩:=fun x=>hb.cell (p:=⟨g',x,none⟩) Am_
 rw [k,k,k,k,k',k',k',k'];exact ⟨h.1,h.2.trans (hb.mono hs)⟩
theorem qqv (hS:∀ k,n=k+1→EqS k):EqS n:=by
 intro L va vb w lo lo' ha hb;obtain ⟨N,hN⟩:=e_ (L.length);obtain ⟨A,ca,rfl,ha⟩:=HasR.shape ha hN.symm;obtain ⟨B,cb,rfl,hb⟩:=HasR.shape hb hN.symm;have ax:=ha.len.2.1;have HA:=z_ ha;have HB:=z_ hb;have HS:=z_ hS;clear ha hb hN hS;go_enter Tryz.func48,Tryz.ntmps48
 go_wp2;go_loopw [5] (fun i wr=>∃ k:Nat,k≤N∧i=.int .i64 k∧Below w.heap.size w wr) (fun i _=>N-(intOf i).toNat)
 case atStart=>exact ⟨0,y_,rfl,Below.refl _ _⟩
 case round=>
  obtain ⟨k,hk,rfl,aa⟩:=hrel;by_cases an:k<N
  ·obtain ⟨ka,ga,oa,A2,a2,ao,rfl,_,ap,ae,af,ag,ah,aq,_⟩:=qal HA.out an
   obtain ⟨kb,gb,ob,B2,b2,aw,rfl,_,au,ai,ab,aj,ak,av,_⟩:=qal HB.out an;obtain rfl:ka=kb:=o_;have qa:∀ x,w.cell? ⟨ga,x,none⟩=wr.cell? ⟨ga,x,none⟩:=fun x=>(aa.cell (p:=⟨ga,x,none⟩) ap).symm
   have qb:∀ x,w.cell? ⟨gb,x,none⟩=wr.cell? ⟨gb,x,none⟩:=fun x=>(aa.cell (p:=⟨gb,x,none⟩) au).symm
   rw [qa] at ae af ag ah;rw [qb] at ai ab aj ak;have al:ga<wr.heap.size:=w_ ap aa.size;have am:gb<wr.heap.size:=w_ au aa.size;have ac:=aq.below n_ aa;have ad:=av.below n_ aa;obtain ⟨⟨op,nm,so,D⟩,hd⟩:∃ d,d=L.getD k default:=⟨_,rfl⟩;rw [← hd] at ae af ag ah ai ab aj ak ac ad;obtain ⟨m,hm⟩:=e_ (D.length);simp only [TermM.op,TermM.name,TermM.sort,TermM.args,← hm] at ae af ag ah ai ab aj ak ac ad;have HE:=z_ (fun W (hW:Below wr.heap.size wr W)=>qnb (HS.out ka ao) op nm so D _ _ W (ac.below n_ hW) (ad.below n_ hW));clear ac ad aq av hd hm qa qb ao aw;go_wp2_with fail
   go_region_held3 (fun w'=>(w'.cell? ⟨ga,oa+k*4,none⟩=some (.int .i64 op)∧w'.cell? ⟨ga,oa+k*4+1,none⟩=some (.string (bstr nm))∧w'.cell? ⟨ga,oa+k*4+2,none⟩=some (.int .i64 so)∧w'.cell? ⟨ga,oa+k*4+3,none⟩=some (.slice A2 m a2)∧
     w'.cell? ⟨gb,ob+k*4,none⟩=some (.int .i64 op)∧w'.cell? ⟨gb,ob+k*4+1,none⟩=some (.string (bstr nm))∧w'.cell? ⟨gb,ob+k*4+2,none⟩=some (.int .i64 so)∧w'.cell? ⟨gb,ob+k*4+3,none⟩=some (.slice B2 m b2))∧Below wr.heap.size wr w')
    (first|(refine ⟨⟨?_,?_,?_,?_,?_,?_,?_,?_⟩,b_.drew⟩<;>assumption)|(go_split_ands;exact qso (g:=ga) (g':=gb) ⟨⟨by assumption,by assumption,by assumption,by assumption,by assumption,by assumption,by assumption,by assumption⟩,by assumption⟩ ⟨al,am⟩ (by assumption)))
    ((go_at_call 15;go_split_ands;refine (HE.out _ (by assumption)).mono ?_;rintro e w1 ⟨rfl,ab⟩))
   go_wp2;go_roundw
   case rel=>
    have hh:Below wr.heap.size wr w1:=by go_split_ands;assumption
    exact ⟨k+1,by omega,by go_num,aa.trans (hh.mono aa.size)⟩
   case measure=>simp [intOf];omega
  ·obtain rfl:k=N:=o_
   go_wp2;go_ret;exact ⟨rfl,aa⟩
theorem qhj:∀ n,EqS n
 | 0=>qqv (fun k h=>by omega)
 | n+1=>qqv (fun k h=>Nat.succ.inj h ▸ qhj n)
theorem qet (op:Int)(l:List UInt8)(s:Int)(L:List TermM)(va vb:Value)(w:World)(ha:HasTs n lo w va L)(hb:HasTs m lo' w vb L):
  Calls Tryz.prog 15 #[.agg #[.int .i64 op,.string (bstr l),.int .i64 s,va],.agg #[.int .i64 op,.string (bstr l),.int .i64 s,vb]] w fun e w'=>e=.returned (.bool true)∧Below w.heap.size w w':=
 qnb (qhj (max n m)) op l s L va vb w (ha.up (Nat.le_max_left _ _)) (hb.up (Nat.le_max_right _ _))
end termu

namespace sortu
set_option maxHeartbeats 4000000
open mem subs setm sets sortm sortp sorti
theorem qd0 (L:List Int)(k:Nat)(x:Int):(ivs L).set k (.int .i64 x)=ivs (L.set k x):=by simp [ivs,List.map_set]
theorem qc3 (L:List Nat)(k x:Nat):(nats L).set k (x:Int)=nats (L.set k x):=by
 simp [nats,List.map_set]
theorem qag (L:List Nat):(nats L).length=L.length:=by simp [nats]
theorem qvc (L:List Nat)(x:Nat):nats (L++[x])=nats L++[(x:Int)]:=by simp [nats]
theorem qbg{cap:Nat}(h:w.ownsRow base 3 1 (.slice (some ⟨g,0,none⟩) n cap) n (ivs (nats U)))(hj:j<n):
  w.cell? ⟨g,j,none⟩=some (.int .i64 ((U.getD j 0:Nat):Int))∧w.frozen? ⟨g,j,none⟩=false:=by
 refine ⟨?_,h.frozenAt j⟩;have hl:=h.1;rw [h.cellAt j o_];have aa:(ivs (nats U)).length=U.length:=by rw [qau,qag]
 have:(ivs (nats U))[j]? =some ((ivs (nats U)).getD j undef):=by
  rw [List.getElem?_eq_getElem o_];simp [List.getD,List.getElem?_eq_getElem (show j<(ivs (nats U)).length by omega)]
 rw [this,qak _ _ Ao_,qav]
theorem qr4{base':Nat}{e:TypeId}{size:Nat}{v:Value}{xs:List Value}(h:w.ownsRow base e size v n xs)(hb:base'≤base):w.ownsRow base' e size v n xs:=by
 refine ⟨h.1,?_⟩;rcases h.2 with h2|⟨g,cap,cur,hv,hg,r⟩
 ·exact .inl h2
 ·exact .inr ⟨g,cap,cur,hv,by omega,r⟩
theorem c53_{p:Prop}(h:p:=by
 obtain rfl:t=k:=o_;go_wp2;go_ret;exact ⟨_,rfl,qr4 hown o_,(b_.alloc n_ _).trans (aa.mono o_)⟩
):p:=h
theorem qgd (P:List (List UInt8))(Q:List (Int×Int))(aB:1≤P.length)(hP:P.length≤8)(hQ:Q.length≤32)(ag:PIn P.length Q)(va vb:Value)(w:World)(h:HasS w va vb P Q):
  Calls Tryz.prog 179 #[.agg #[va,vb]] w fun e w'=>∃ v,e=.returned v∧w'.ownsRow w.heap.size 3 1 v P.length (ivs (nats (clo P.length (prs Q))))∧Below w.heap.size w w':=by
 obtain ⟨i0,hi,aC,aD,aE⟩:=info_parts qdt;obtain ⟨A,ca,B,cb,rfl,rfl,aF,aG,h'⟩:=h.shape;obtain ⟨n,hn⟩:=e_ (P.length);obtain ⟨m,hm⟩:=e_ (Q.length);rw [← hn] at aB hP ag aF ⊢;rw [← hm] at hQ aG;have aq:=h'.b;rw [← hm] at aq;have HB:=z_ aq;have HN:=z_ hn;have HM:=z_ hm;have au:=z_ ag;rw [← hm];clear h h' hn hm ag aq;go_enter Tryz.func179,Tryz.ntmps179
 go_wp2;have ah:(((w.alloc (.cells #[.slice A n ca,.slice B m cb] 43)).alloc (.cells #[] 3)).ownsRow (w.heap.size+1) 3 1 (.slice (some ⟨w.heap.size+1,0,none⟩) 0 0) 0 (ivs (nats (qch 0)))):=by
  have:=World.ownsRow_lit (e:=3) (size:=1) (w.alloc (.cells #[.slice A n ca,.slice B m cb] 43)) #[] 0 n_ Aa_ rfl;simpa [qch,ivs,nats] using this
 have av:=z_ ah;clear ah;go_loopw [3,4] (fun v i wr=>∃ k:Nat,k≤n∧i=.int .i64 k∧wr.ownsRow (w.heap.size+1) 3 1 v k (ivs (nats (qch k)))∧Below (w.heap.size+1) (w.alloc (.cells #[.slice A n ca,.slice B m cb] 43)) wr) (fun _ i _=>n-(intOf i).toNat)
 case atStart=>
  exact ⟨0,y_,rfl,av.out,b_.alloc (by simp) _⟩
 case round=>
  obtain ⟨k,hk,rfl,hown,aa⟩:=hrel;have HO:=z_ (qb7 hown);have c0:wr.cell? ⟨w.heap.size,0,none⟩=some (.slice A n ca):=by rw [aa.cell (p:=⟨w.heap.size,0,none⟩) (by simp)];simp
  have hsz:w.heap.size+1≤wr.heap.size:=by have:=aa.size;simpa using this
  by_cases az:k<n
  ·have ai:=z_ (fun W=>qfo k o_ W)
   obtain ⟨z,hz⟩:=e_ (2 ^ k);have HZ:Hid (qch (k+1)=qch k++[z]):=z_ (by rw [hz];exact qk3 k);rw [← hz] at ai;clear hz
   go_wp2_with (first
    | (go_at_call 221;refine (ai.out _).mono ?_;rintro e w1 ⟨rfl,rfl⟩)
    | (at_builtin;refine wpList_append_own _ rfl _ _ 60 rfl (w.heap.size+1) 3 i0 (.int .i64 0) 1 8 Tryz.underlying60 hi aC aD aE rfl (by decide) _ _ _ rfl (hown.alloc _) ⟨wr.heap.size,0,none⟩ 1 1 [.int .i64 (z:Int)] rfl rfl (qfn _ _ _) (qgn _ rfl) Aa_ o_ (by simp;omega) ?_))
   intro v2 w2 ad ab _;have aH:=(aa.alloc hsz (.cells #[.int .i64 (z:Int)] 3)).grown ab (by simp;omega) HO.out;have af:w2.ownsRow (w.heap.size+1) 3 1 v2 (k+1) (ivs (nats (qch (k+1)))):=by rw [HZ.out];simpa [ivs,nats] using ad
   clear ad ab hown aa;go_wp2;go_roundw
   case rel=>exact ⟨k+1,by omega,by go_num,af,aH⟩
   case measure=>simp [intOf];omega
  ·obtain rfl:k=n:=o_
   clear az;obtain ⟨g,cap,rfl,aA,aM⟩:=qce hown Bd_;have af:=z_ hown;have aw:=z_ aa;clear hown aa hsz;go_wp2;clear c0;go_loopw [5] (fun i wr=>∃ t:Nat,t≤k∧i=.int .i64 t∧wr.ownsRow (w.heap.size+1) 3 1 (.slice (some ⟨g,0,none⟩) k cap) k (ivs (nats (qe6 (prs Q) (qch k) t)))∧Below (w.heap.size+1) (w.alloc (.cells #[.slice A k ca,.slice B m cb] 43)) wr) (fun i _=>k-(intOf i).toNat)
   case atStart=>exact ⟨0,y_,rfl,af.out,aw.out⟩
   case round=>
    obtain ⟨t,ht,rfl,hown,aa⟩:=hrel;have c0:wr.cell? ⟨w.heap.size,0,none⟩=some (.slice A k ca):=by rw [aa.cell (p:=⟨w.heap.size,0,none⟩) (by simp)];simp
    by_cases az:t<k
    ·have aj:=z_ hown
     have ak:=z_ aa;clear hown aa;go_wp2;clear c0;go_loopw [6] (fun i wr=>∃ j:Nat,j≤m∧i=.int .i64 j∧wr.ownsRow (w.heap.size+1) 3 1 (.slice (some ⟨g,0,none⟩) k cap) k (ivs (nats (midU k (prs Q) t j)))∧Below (w.heap.size+1) (w.alloc (.cells #[.slice A k ca,.slice B m cb] 43)) wr) (fun i _=>m-(intOf i).toNat)
     case atStart=>exact ⟨0,y_,rfl,by rw [qmt];exact aj.out,ak.out⟩
     case round=>
      obtain ⟨j,hj,rfl,hown,aa⟩:=hrel;have c1:wr.cell? ⟨w.heap.size,1,none⟩=some (.slice B m cb):=by rw [aa.cell (p:=⟨w.heap.size,1,none⟩) (by simp)];simp
      by_cases ax:j<m
      ·obtain ⟨gq,o,rfl,hg,hcell,ac⟩:=HB.out.cellAt ax
       have ap:Below w.heap.size w wr:=(b_.alloc n_ _).trans (aa.mono o_);rw [← ap.cell (p:=⟨gq,o+j*2,none⟩) hg] at hcell;rw [← ap.cell (p:=⟨gq,o+j*2+1,none⟩) hg] at ac;have ag:=au.out.get (k:=j) Af_;have hs:=qmu k (prs Q) t j (by rw [qgt];have:=HM.out;omega);rw [qow] at hs;have al:=qlf au.out.inR t j (Q.getD j (0,0)).1.toNat;have am:=qlf au.out.inR t j (Q.getD j (0,0)).2.toNat;have aN:=pow8 hP;have ay:=z_ (qqo k (prs Q) t j);obtain ⟨x,hx⟩:=e_ ((Q.getD j (0,0)).1);obtain ⟨y,hy⟩:=e_ ((Q.getD j (0,0)).2);rw [← hx,← hy] at ag hs;rw [← hx] at hcell al;rw [← hy] at ac am;obtain ⟨x',rfl⟩:∃ x':Nat,x=(x':Int):=⟨x.toNat,by omega⟩;obtain ⟨y',rfl⟩:∃ y':Nat,y=(y':Int):=⟨y.toNat,by omega⟩;simp only [Int.toNat_natCast] at hs al am;obtain ⟨U,hU⟩:=e_ (midU k (prs Q) t j);rw [← hU] at hs al am hown ay;have HS:Hid (midU k (prs Q) t (j+1)=U.set x' (U.getD x' 0 ||| U.getD y' 0)):=z_ (by rw [hs,qgq]);have aI:=qjw (U.getD x' 0) (U.getD y' 0) o_ o_;have aJ:x'<k:=o_;have aK:y'<k:=o_;obtain ⟨d0,f0⟩:=qbg hown aJ;obtain ⟨d1,_⟩:=qbg hown aK;have an:=z_ hown;obtain ⟨a,ha⟩:=e_ (U.getD x' 0);obtain ⟨b,hb⟩:=e_ (U.getD y' 0);rw [← ha,← hb] at aI HS;rw [← ha] at al d0;rw [← hb] at am d1;clear hx hy hs hU ha hb hown al am;have ae:=z_ aa;have aL:=z_ ap;clear aa ap;go_wp2;go_region
       go_wp2;go_roundw
       case rel=>
        refine ⟨j+1,by omega,by go_num,?_,?_⟩
        ·have:=qa4 an.out x' (.int .i64 ((a ||| b:Nat):Int))
         rw [qd0,qc3] at this;rw [HS.out];first|exact this|exact own_below this (b_.drew)
        ·first|exact ae.out.setCell aA _|exact (ae.out.setCell aA _).drew
       case measure=>simp [intOf];omega
      ·obtain rfl:j=m:=o_
       have ao:Hid (wr.ownsRow (w.heap.size+1) 3 1 (.slice (some ⟨g,0,none⟩) k cap) k (ivs (nats (qe6 (prs Q) (qch k) (t+1))))):=z_ (by rw [← qmv,qgt,← HM.out];exact hown);clear hown;go_wp2;go_roundw
       case rel=>exact ⟨t+1,by omega,by go_num,ao.out,aa⟩
       case measure=>simp [intOf];omega
    ·exact c53_
theorem qvd (a b:Nat)(ha:a<65536)(hb:b<65536)(w:World):
  Calls Tryz.prog 184 #[.int .i64 (a:Int),.int .i64 (b:Int)] w fun e w'=>e=.returned (.int .i64 ((min a b:Nat):Int))∧w=w':=by
 obtain ⟨c,hc⟩:=e_ (min a b);rw [← hc];by_cases h:a<b
 ·have aa:c=a:=o_
  subst aa;clear hc;go_enter Tryz.func184,Tryz.ntmps184
  go_wp2;go_ret;exact ⟨rfl,rfl⟩
 ·have ab:c=b:=o_
  subst ab;clear hc;have hd:decide ((a:Int)<(c:Int))=false:=by simp;omega
  go_enter Tryz.func184,Tryz.ntmps184
  go_wp2;go_ret;exact ⟨rfl,rfl⟩
theorem qd1 (P:List (List UInt8))(Q:List (Int×Int))(aC:1≤P.length)(hP:P.length≤8)(hQ:Q.length≤32)(af:PIn P.length Q)(ay:∀ p∈Q,p.1≠p.2)(va vb:Value)(w:World)(h:HasS w va vb P Q):
  Calls Tryz.prog 140 #[.agg #[va,vb]] w fun e w'=>∃ v,e=.returned v∧w'.ownsRow w.heap.size 3 1 v P.length (ivs (nats (kin P.length (prs Q))))∧Below w.heap.size w w':=by
 obtain ⟨i0,hi,aD,aE,aF⟩:=info_parts qdt;obtain ⟨A,ca,B,cb,rfl,rfl,aG,aH,h'⟩:=h.shape;obtain ⟨n,hn⟩:=e_ (P.length);obtain ⟨m,hm⟩:=e_ (Q.length);rw [← hn] at aC hP af aG ⊢;rw [← hm] at hQ aH;have ap:=h'.b;rw [← hm] at ap;have HB:=z_ ap;have HN:=z_ hn;have HM:=z_ hm;have aq:=z_ af
 have aI:Hid (∀ j,j<Q.length→(Q.getD j (0,0)).1≠(Q.getD j (0,0)).2):=z_ (fun j hj=>by
  have:=ay _ (List.getElem_mem hj)
  simpa [List.getD,List.getElem?_eq_getElem hj] using this)
 clear ay;rw [← hm];clear h h' hn hm af ap;go_enter Tryz.func140,Tryz.ntmps140
 go_wp2;have ag:(((w.alloc (.cells #[.slice A n ca,.slice B m cb] 43)).alloc (.cells #[] 3)).ownsRow (w.heap.size+1) 3 1 (.slice (some ⟨w.heap.size+1,0,none⟩) 0 0) 0 (ivs (nats (List.range 0)))):=by
  have:=World.ownsRow_lit (e:=3) (size:=1) (w.alloc (.cells #[.slice A n ca,.slice B m cb] 43)) #[] 0 n_ Aa_ rfl;simpa [ivs,nats] using this
 have au:=z_ ag;clear ag;go_loopw [3,4] (fun v i wr=>∃ k:Nat,k≤n∧i=.int .i64 k∧wr.ownsRow (w.heap.size+1) 3 1 v k (ivs (nats (List.range k)))∧Below (w.heap.size+1) (w.alloc (.cells #[.slice A n ca,.slice B m cb] 43)) wr) (fun _ i _=>n-(intOf i).toNat)
 case atStart=>
  exact ⟨0,y_,rfl,au.out,b_.alloc (by simp) _⟩
 case round=>
  obtain ⟨k,hk,rfl,hown,aa⟩:=hrel;have HO:=z_ (qb7 hown);have c0:wr.cell? ⟨w.heap.size,0,none⟩=some (.slice A n ca):=by rw [aa.cell (p:=⟨w.heap.size,0,none⟩) (by simp)];simp
  have hsz:w.heap.size+1≤wr.heap.size:=by have:=aa.size;simpa using this
  by_cases az:k<n
  ·go_wp2_with (at_builtin;refine wpList_append_own _ rfl _ _ 60 rfl (w.heap.size+1) 3 i0 (.int .i64 0) 1 8 Tryz.underlying60 hi aD aE aF rfl (by decide) _ _ _ rfl (hown.alloc _) ⟨wr.heap.size,0,none⟩ 1 1 [.int .i64 (k:Int)] rfl rfl (qfn _ _ _) (qgn _ rfl) Aa_ o_ (by simp;omega) ?_)
   intro v2 w2 ad ab _;have aJ:=(aa.alloc hsz (.cells #[.int .i64 (k:Int)] 3)).grown ab (by simp;omega) HO.out;have ae:w2.ownsRow (w.heap.size+1) 3 1 v2 (k+1) (ivs (nats (List.range (k+1)))):=by rw [List.range_succ];simpa [ivs,nats] using ad
   clear ad ab hown aa;go_wp2;go_roundw
   case rel=>exact ⟨k+1,by omega,by go_num,ae,aJ⟩
   case measure=>simp [intOf];omega
  ·obtain rfl:k=n:=o_
   clear az;obtain ⟨g,cap,rfl,aK,aQ⟩:=qce hown Bd_;have ae:=z_ hown;have av:=z_ aa;clear hown aa hsz;go_wp2;clear c0;go_loopw [5] (fun i wr=>∃ t:Nat,t≤k∧i=.int .i64 t∧wr.ownsRow (w.heap.size+1) 3 1 (.slice (some ⟨g,0,none⟩) k cap) k (ivs (nats (qfg (prs Q) (List.range k) t)))∧Below (w.heap.size+1) (w.alloc (.cells #[.slice A k ca,.slice B m cb] 43)) wr) (fun i _=>k-(intOf i).toNat)
   case atStart=>exact ⟨0,y_,rfl,ae.out,av.out⟩
   case round=>
    obtain ⟨t,ht,rfl,hown,aa⟩:=hrel;have c0:wr.cell? ⟨w.heap.size,0,none⟩=some (.slice A k ca):=by rw [aa.cell (p:=⟨w.heap.size,0,none⟩) (by simp)];simp
    by_cases az:t<k
    ·have ah:=z_ hown
     have ai:=z_ aa;clear hown aa;go_wp2;clear c0;go_loopw [6] (fun i wr=>∃ j:Nat,j≤m∧i=.int .i64 j∧wr.ownsRow (w.heap.size+1) 3 1 (.slice (some ⟨g,0,none⟩) k cap) k (ivs (nats (midK k (prs Q) t j)))∧Below (w.heap.size+1) (w.alloc (.cells #[.slice A k ca,.slice B m cb] 43)) wr) (fun i _=>m-(intOf i).toNat)
     case atStart=>exact ⟨0,y_,rfl,by rw [qul];exact ah.out,ai.out⟩
     case round=>
      obtain ⟨j,hj,rfl,hown,aa⟩:=hrel;have c1:wr.cell? ⟨w.heap.size,1,none⟩=some (.slice B m cb):=by rw [aa.cell (p:=⟨w.heap.size,1,none⟩) (by simp)];simp
      by_cases aw:j<m
      ·obtain ⟨gq,o,rfl,hg,hcell,ac⟩:=HB.out.cellAt aw
       have ao:Below w.heap.size w wr:=(b_.alloc n_ _).trans (aa.mono o_);rw [← ao.cell (p:=⟨gq,o+j*2,none⟩) hg] at hcell;rw [← ao.cell (p:=⟨gq,o+j*2+1,none⟩) hg] at ac;have af:=aq.out.get (k:=j) Af_;have hs:=qum k (prs Q) t j (by rw [qgt];have:=HM.out;omega);rw [qow] at hs;have aA:=aI.out j Af_;have aj:=quo aq.out.inR t j (Q.getD j (0,0)).1.toNat o_;have ak:=quo aq.out.inR t j (Q.getD j (0,0)).2.toNat o_;have ax:=z_ (qxy k (prs Q) t j);obtain ⟨x,hx⟩:=e_ ((Q.getD j (0,0)).1);obtain ⟨y,hy⟩:=e_ ((Q.getD j (0,0)).2);rw [← hx,← hy] at af hs aA;rw [← hx] at aj;rw [← hy] at ak;rw [← hx] at hcell;rw [← hy] at ac;obtain ⟨x',rfl⟩:∃ x':Nat,x=(x':Int):=⟨x.toNat,by omega⟩;obtain ⟨y',rfl⟩:∃ y':Nat,y=(y':Int):=⟨y.toNat,by omega⟩;simp only [Int.toNat_natCast] at hs aj ak;have aL:x'≠y':=o_;have aM:y'≠x':=o_;clear aA;obtain ⟨U,hU⟩:=e_ (midK k (prs Q) t j);rw [← hU] at hs aj ak hown ax;have HS:Hid (midK k (prs Q) t (j+1)=(U.set x' (min (U.getD x' 0) (U.getD y' 0))).set y' (min (U.getD x' 0) (U.getD y' 0))):=z_ (by rw [hs,qff]);have aN:x'<k:=o_;have aO:y'<k:=o_;obtain ⟨d0,f0⟩:=qbg hown aN;obtain ⟨d1,f1⟩:=qbg hown aO;have al:=z_ hown;obtain ⟨a,ha⟩:=e_ (U.getD x' 0);obtain ⟨b,hb⟩:=e_ (U.getD y' 0);rw [← ha,← hb] at HS;rw [← ha] at d0 aj;rw [← hb] at d1 ak;have aB:=z_ (fun W=>qvd a b o_ o_ W);obtain ⟨c,hc⟩:=e_ (min a b);rw [← hc] at aB HS;clear hx hy hs hU ha hb hown hc aj ak;have am:=z_ aa;have aP:=z_ ao;clear aa ao;go_wp2;go_quiet (fail)
       go_wp2;go_quiet ((go_at_call 184;exact (aB.out _).mono (fun _ _ h=>⟨h.1,_,h.2.symm⟩)))
       go_wp2;go_roundw
       case rel=>
        refine ⟨j+1,by omega,by go_num,?_,?_⟩
        ·have:=qa4 (qa4 al.out x' (.int .i64 ((c:Nat):Int))) y' (.int .i64 ((c:Nat):Int))
         rw [qd0,qc3,qd0,qc3] at this;rw [HS.out];first|exact this|exact own_below this (b_.drew)
        ·repeat (first|exact am.out|refine Below.setCell ?_ aK _|refine Below.drew ?_|refine qa3 ?_ _)
       case measure=>simp [intOf];omega
      ·obtain rfl:j=m:=o_
       have an:Hid (wr.ownsRow (w.heap.size+1) 3 1 (.slice (some ⟨g,0,none⟩) k cap) k (ivs (nats (qfg (prs Q) (List.range k) (t+1))))):=z_ (by rw [← qun,qgt,← HM.out];exact hown);clear hown;go_wp2;go_roundw
       case rel=>exact ⟨t+1,by omega,by go_num,an.out,aa⟩
       case measure=>simp [intOf];omega
    ·exact c53_
end sortu

namespace sorts
open mem split strl subs sortn sets sortm sortp sorti sortu
theorem qr5 (x:Int)(n:Nat)(_hn:1≤n):inI x 0 ((n:Int)-1)=decide (0≤x∧x<n):=by
 rw [inI,decide_eq_decide];omega
theorem qj6 (h:qbx P=false):okS P Q=false:=by rw [okS,h];rfl
theorem qr6 (h:qd7 P.length Q=false):okS P Q=false:=by rw [okS,h];simp
theorem c54_{p:Prop}(h:p:=by
 go_wp2;go_quiet ((go_at_call 128;exact (qcc _ _ _ _ (by first|exact HI.out|exact ag.out) _).mono (fun _ _ h=>⟨h.1,_,h.2.symm⟩)))
 go_wp2;go_ret;exact ⟨qa0 HQ.out.symm,qa3 ac.out _⟩
):p:=h
theorem j13_{p:Prop}(h:p:=by
 go_enter Tryz.func131,Tryz.ntmps131
 go_wp2;go_ret;exact ⟨qa0 HQ.out.symm,b_.alloc n_ _⟩
):p:=h
theorem c55_{p:Prop}(h:p:=by
 have HQ:Hid (r=false):=z_ (by rw [← HR.out];exact qj6 (by simp [qbx];omega));exact j13_
):p:=h
theorem c56_{p:Prop}(h:p:=by
 go_round
 case rel=>exact ⟨l+1,by omega,by go_num,z_ (by have:=aG.out;rw [aK.out] at this;exact this)⟩
 case measure=>simp [intOf];omega
):p:=h
theorem c57_{p:Prop}(h:p:=by
 go_wp2;go_ret;exact ⟨qa0 HQ.out.symm,qa3 ac.out _⟩
):p:=h
set_option maxHeartbeats 4000000 in
theorem qnm (P:List (List UInt8))(Q:List (Int×Int))(va vb:Value)(r:Bool)(hr:okS P Q=r)(w:World)(h:HasS w va vb P Q):
  Calls Tryz.prog 131 #[.agg #[va,vb]] w fun e w'=>e=.returned (.bool r)∧Below w.heap.size w w':=by
 obtain ⟨A,ca,B,cb,rfl,rfl,aL,aM,h'⟩:=h.shape;have HH:=z_ h';have HR:=z_ hr;have ay:P.length≤ca:=by obtain ⟨A',c',e,h1,h2,_⟩:=h'.a;simp only [Value.slice.injEq] at e;rw [e.2.2,← qba P];exact h1
 clear h h' hr;by_cases aN:P.length<1
 ·exact c55_
 by_cases aO:8<P.length
 ·exact c55_
 have aP:decide ((P.length:Int)<1)=false:=by simp;omega
 have aQ:decide ((8:Int)<(P.length:Int))=false:=by simp;omega
 by_cases hq:16<Q.length
 ·have HQ:Hid (r=false):=z_ (by rw [← HR.out];exact qr6 (by simp [qd7];omega))
  exact j13_
 have aR:decide ((16:Int)<(Q.length:Int))=false:=by simp;omega
 obtain ⟨n,hn⟩:=e_ (P.length);obtain ⟨m,hm⟩:=e_ (Q.length);rw [← hn] at HH aL ay aN aO aP aQ ⊢;rw [← hm] at HH aM hq aR ⊢;have aI:=z_ (fun h=>qj6 (P:=P) (Q:=Q) h);have aS:=z_ (fun h=>qr6 (P:=P) (Q:=Q) h);have HN:=z_ hn;have HM:=z_ hm;clear hn hm;go_enter Tryz.func131,Tryz.ntmps131
 go_wp2;go_loopw [3] (fun i wr=>∃ k:Nat,k≤n∧i=.int .i64 k∧Hid (qb5 P k=true)∧Below (w.heap.size+1) (w.alloc (.cells #[.slice A n ca,.slice B m cb] 43)) wr) (fun i _=>n-(intOf i).toNat)
 case atStart=>exact ⟨0,y_,rfl,z_ rfl,Below.refl _ _⟩
 case round=>
  obtain ⟨k,hk,rfl,HX,aa⟩:=hrel;have c0:wr.cell? ⟨w.heap.size,0,none⟩=some (.slice A n ca):=by rw [aa.cell (p:=⟨w.heap.size,0,none⟩) (by simp)];simp
  have ab:Below w.heap.size w wr:=(b_.alloc n_ _).trans (aa.mono o_);by_cases ap:k<n
  ·have af:=HH.out.below n_ ab
   obtain ⟨g,o,rfl,hg,hcell⟩:=af.a.cellAt ap;rw [qea P k Ac_] at hcell;have HT:=z_ (qqi af.a (k:=k) o_);rw [qqj] at HT;have HS:=z_ (qed P k);have HB:=z_ (qfe P k P.length Ac_);have az:=z_ (af.short k Ac_);obtain ⟨x,hx⟩:=e_ (P.getD k []);rw [← hx] at hcell HS HB az;have HC:=z_ (fun r hr q=>qug (P.take k) x (.slice (some ⟨g,o,none⟩) k ca) r hr (wr.drewN q) (HT.out.below n_ (qa3 b_ q)));have aj:=z_ aa;have ac:=z_ ab;clear hx af aa ab;cases ak:qb3 x with
   | false=>
    have HQ:Hid (r=false):=z_ (by rw [← HR.out];exact aI.out (by rw [qbx,HB.out (.inl ak)];simp));have av:=z_ (fun W=>qfs x az.out false ak W);clear ak;go_wp2;go_quiet ((go_at_call 132;exact (av.out _).mono (fun _ _ h=>⟨h.1,_,h.2.symm⟩)))
    exact c57_
   | true=>
    have av:=z_ (fun W=>qfs x az.out true ak W);by_cases hmm:x∈P.take k
    ·have HQ:Hid (r=false):=z_ (by rw [← HR.out];exact aI.out (by rw [qbx,HB.out (.inr hmm)];simp))
     have aA:=z_ (HC.out true (by simpa using hmm));clear ak hmm;go_wp2;go_quiet (first|(go_at_call 132;exact (av.out _).mono (fun _ _ h=>⟨h.1,_,h.2.symm⟩))|(go_at_call 178;exact (aA.out _).mono (fun _ _ h=>⟨h.1,_,h.2.symm⟩)))
     exact c57_
    ·have aw:Hid (qb5 P (k+1)=true):=z_ (by rw [HS.out,HX.out,ak];simpa using hmm)
     have aA:=z_ (HC.out false (by simpa using hmm));clear ak hmm;go_wp2;go_quiet (first|(go_at_call 132;exact (av.out _).mono (fun _ _ h=>⟨h.1,_,h.2.symm⟩))|(go_at_call 178;exact (aA.out _).mono (fun _ _ h=>⟨h.1,_,h.2.symm⟩)))
     go_wp2;go_roundw
     case rel=>exact ⟨k+1,by omega,by go_num,aw,qa3 aj.out _⟩
     case measure=>simp [intOf];omega
  ·obtain rfl:k=n:=o_
   have al:Hid (qbx P=true):=z_ (by
    have h1:=HX.out;rw [HN.out] at h1;have h2:=HN.out
    rw [qbx,h1];simp;omega)
   have aj:=z_ aa;clear ab aa;go_wp2;clear c0;go_loopw [4] (fun i wr=>∃ j:Nat,j≤m∧i=.int .i64 j∧Hid (qe3 k Q j=true)∧Below (w.heap.size+1) (w.alloc (.cells #[.slice A k ca,.slice B m cb] 43)) wr) (fun i _=>m-(intOf i).toNat)
   case atStart=>exact ⟨0,y_,rfl,z_ rfl,aj.out⟩
   case round=>
    obtain ⟨j,hj,rfl,aw,aa⟩:=hrel;have c0:wr.cell? ⟨w.heap.size,0,none⟩=some (.slice A k ca):=by rw [aa.cell (p:=⟨w.heap.size,0,none⟩) (by simp)];simp
    have c1:wr.cell? ⟨w.heap.size,1,none⟩=some (.slice B m cb):=by rw [aa.cell (p:=⟨w.heap.size,1,none⟩) (by simp)];simp
    have ab:Below w.heap.size w wr:=(b_.alloc n_ _).trans (aa.mono o_);by_cases ap:j<m
    ·have af:=HH.out.below n_ ab
     obtain ⟨g,o,rfl,hg,hcell,am⟩:=af.b.cellAt ap;have aT:=af.in64.get j
     have ae:Hid (qfh k (Q.getD j (0,0))=false→r=false):=z_ (by
      intro h;rw [← HR.out];refine aS.out ?_
      rw [qd7,← HN.out,qqr k Q j Af_ h];simp)
     have HG:Hid (qfh k (Q.getD j (0,0))=true→qe3 k Q (j+1)=true):=z_ (by intro h;rw [qis k Q j Af_,aw.out,h];rfl);have HS:Hid (qfh k (Q.getD j (0,0))=(decide (0≤(Q.getD j (0,0)).1∧(Q.getD j (0,0)).1<k)&&decide (0≤(Q.getD j (0,0)).2∧(Q.getD j (0,0)).2<k)&&decide ((Q.getD j (0,0)).1≠(Q.getD j (0,0)).2))):=z_ rfl;obtain ⟨s,hs⟩:=e_ (qfh k (Q.getD j (0,0)));rw [← hs] at ae HG HS;obtain ⟨x,hx⟩:=e_ ((Q.getD j (0,0)).1);obtain ⟨y,hy⟩:=e_ ((Q.getD j (0,0)).2);rw [← hx,← hy] at aT HS;rw [← hx] at hcell;rw [← hy] at am;have aq:=z_ aa;have ac:=z_ ab;clear hs hx hy af aa ab;have ax:=z_ (qr5 x k o_);have aB:=z_ (qr5 y k o_);cases h1:inI x 0 ((k:Int)-1) with
     | false=>
      have HI:=z_ h1;have HQ:Hid (r=false):=z_ (ae.out (by rw [HS.out,← ax.out,h1];rfl));clear h1;go_wp2;go_quiet ((go_at_call 128;exact (qcc _ _ _ _ HI.out _).mono (fun _ _ h=>⟨h.1,_,h.2.symm⟩)))
      exact c57_
     | true=>
      have HI:=z_ h1;cases h2:inI y 0 ((k:Int)-1) with
      | false=>
       have ag:=z_ h2;have HQ:Hid (r=false):=z_ (ae.out (by rw [HS.out,← ax.out,← aB.out,h1,h2];rfl));clear h1 h2;exact c54_
      | true=>
       have ag:=z_ h2;by_cases h3:x=y
       ·have HQ:Hid (r=false):=z_ (ae.out (by rw [HS.out,← ax.out,← aB.out,h1,h2,h3];simp))
        have he:(x==y)=true:=by simpa using h3
        clear h1 h2 h3;exact c54_
       ·have aU:Hid (qe3 k Q (j+1)=true):=z_ (HG.out (by rw [HS.out,← ax.out,← aB.out,h1,h2];simpa using h3))
        have he:(x==y)=false:=by simpa using h3
        clear h1 h2 h3;go_wp2;go_quiet ((go_at_call 128;exact (qcc _ _ _ _ (by first|exact HI.out|exact ag.out) _).mono (fun _ _ h=>⟨h.1,_,h.2.symm⟩)))
        go_wp2;go_roundw
        case rel=>exact ⟨j+1,by omega,by go_num,aU,qa3 aq.out _⟩
        case measure=>simp [intOf];omega
    ·obtain rfl:j=m:=o_
     have ah:Hid (qd7 k Q=true):=z_ (by
      have h1:=aw.out;have h2:=HM.out;rw [qe3,List.take_of_length_le o_] at h1
      rw [qd7,h1];simp;omega)
     obtain ⟨an,aC⟩:=qgu ah.out;have ai:PIn P.length Q:=by rw [← HN.out];exact an
     have aD:=z_ (qgd P Q Ac_ Ac_ o_ ai _ _ wr (HH.out.below n_ ab));rw [← HN.out] at aD;have ao:Hid (okS P Q=!circ k (clo k (prs Q))):=z_ (by rw [okS,al.out,← HN.out,ah.out];simp);have ad:=fun i=>qqn an.inR i
     have aE:=qc9 k (prs Q);obtain ⟨U,hU⟩:=e_ (clo k (prs Q));rw [← hU] at aD ao ad aE;have aX:=pow8 (n:=k) o_;have aY:Hid (∀ i,U.getD i 0<65536):=z_ (fun i=>by have:=ad i;omega);have ac:=z_ ab;have aZ:=z_ aE;clear hU an ai aC ad ab aa aE;go_wp2_with (go_at_call 179;refine aD.out.mono ?_;rintro e w1 ⟨uv,rfl,hown,aJ⟩;obtain ⟨gu,cu,rfl,a6,a7⟩:=qce hown Bd_;have au:=z_ hown;clear hown)
     go_loop [6] (fun i=>∃ h:Nat,h≤k∧i=.int .i64 h∧Hid (∀ a b,a<h→b<a→¬ ((U.getD b 0).testBit a=true∧(U.getD a 0).testBit b=true))) (fun i=>k-(intOf i).toNat)
     case atStart=>exact ⟨0,y_,rfl,z_ (fun a b h=>by omega)⟩
     case round=>
      obtain ⟨h,hh,rfl,HY⟩:=hrel;by_cases ap:h<k
      ·obtain ⟨d0,_⟩:=qbg au.out ap
       go_wp2;go_loop [7] (fun i=>∃ l:Nat,l≤h∧i=.int .i64 l∧Hid (∀ b,b<l→¬ ((U.getD b 0).testBit h=true∧(U.getD h 0).testBit b=true))) (fun i=>h-(intOf i).toNat)
       case atStart=>exact ⟨0,y_,rfl,z_ (fun b h=>by omega)⟩
       case round=>
        obtain ⟨l,hl,rfl,HZ⟩:=hrel;by_cases ad:l<h
        ·obtain ⟨d1,_⟩:=qbg au.out (show l<k by omega)
         have HT:Hid ((U.getD h 0).testBit l=true→(U.getD l 0).testBit h=true→r=false):=z_ (fun e2 e1=>by rw [← HR.out,ao.out,qmy ap ad e1 e2];rfl)
         have HF:Hid (¬ ((U.getD l 0).testBit h=true∧(U.getD h 0).testBit l=true)→∀ b,b<l+1→¬ ((U.getD b 0).testBit h=true∧(U.getD h 0).testBit b=true)):=z_ (fun e b hb=>by
          by_cases aV:b=l
          ·subst aV;exact e
          ·exact HZ.out b o_)
         have aF:=z_ (qeq (U.getD h 0) l o_);have ag:=z_ (qeq (U.getD l 0) h o_);obtain ⟨s,hs⟩:=e_ (U.getD l 0);obtain ⟨t,ht⟩:=e_ (U.getD h 0);rw [← hs] at d1 ag;rw [← ht] at d0 aF;rw [← hs,← ht] at HT HF;have aK:=z_ ht;clear hs ht;cases h1:t.testBit l with
         | false=>
          have HD:Hid (hasI t l=false):=z_ (aF.out.trans h1);have aG:=z_ (HF.out (by rw [h1];simp));clear h1;go_wp2_with (go_at_call 80;refine (qcg _ _ _ HD.out _).mono ?_;rintro e w2 ⟨rfl,rfl⟩)
          exact c56_
         | true=>
          have HD:Hid (hasI t l=true):=z_ (aF.out.trans h1);cases h2:s.testBit h with
          | false=>
           have aH:Hid (hasI s h=false):=z_ (ag.out.trans h2);have aG:=z_ (HF.out (by rw [h2];simp));clear h1 h2;go_wp2_with (go_at_call 80;refine (qcg _ _ _ (by first|exact HD.out|exact aH.out) _).mono ?_;rintro e w2 ⟨rfl,rfl⟩)
           exact c56_
          | true=>
           have aH:Hid (hasI s h=true):=z_ (ag.out.trans h2);have HQ:=z_ (HT.out h1 h2);clear h1 h2;go_wp2_with (go_at_call 80;refine (qcg _ _ _ (by first|exact HD.out|exact aH.out) _).mono ?_;rintro e w2 ⟨rfl,rfl⟩)
           go_ret;exact ⟨qa0 HQ.out.symm,ac.out.trans (aJ.mono ac.out.size)⟩
        ·obtain rfl:l=h:=o_
         go_wp2;go_round
         case rel=>
          refine ⟨l+1,by omega,by go_num,z_ (fun a b ha hb=>?_)⟩;by_cases aW:a=l
          ·subst aW;exact HZ.out b hb
          ·exact HY.out a b o_ hb
         case measure=>simp [intOf];omega
      ·obtain rfl:h=k:=o_
       have HQ:Hid (r=true):=z_ (by rw [← HR.out,ao.out,qk0 (fun a b ha hb=>HY.out a b ha hb)];rfl);go_wp2;go_ret;exact ⟨qa0 HQ.out.symm,ac.out.trans (aJ.mono ac.out.size)⟩
end sorts

namespace tsm
open setm sortm sorti sigm
def orL (f:α→Nat)(L:List α):Nat:=L.foldl (fun s x=>s ||| f x) 0
theorem qrr {α:Type}(f:α→Nat)(j:Nat):∀ (L:List α) (s:Nat),(L.foldl (fun s x=>s ||| f x) s).testBit j=(s.testBit j || L.any fun x=>(f x).testBit j)
 | [],s=>by simp
 | x::L,s=>by rw [List.foldl_cons,qrr f j L,Nat.testBit_or,List.any_cons,Bool.or_assoc]
theorem qc0 (f:α→Nat)(L:List α)(j:Nat):(orL f L).testBit j=L.any fun x=>(f x).testBit j:=by
 rw [orL,qrr,Nat.zero_testBit,Bool.false_or]
theorem qm4 (f:α→Nat)(L:List α)(x:α):orL f (L++[x])=orL f L ||| f x:=by rw [orL,List.foldl_append];rfl
theorem qnv (f:α→Nat)(L:List α)(n:Nat)(h:∀ x∈L,f x<2 ^ n):orL f L<2 ^ n:=
 Nat.lt_pow_two_of_testBit _ fun j hj=>by
  rw [qc0,List.any_eq_false];intro x hx;rw [Nat.testBit_lt_two_pow (w_ (h x hx) (Nat.pow_le_pow_right (by decide) hj))];simp
theorem qjc{f g:α→Nat}{L:List α}(h:∀ x∈L,f x=g x):orL f L=orL g L:=by
 apply Nat.eq_of_testBit_eq
 intro j;rw [qc0,qc0,Bool.eq_iff_iff,List.any_eq_true,List.any_eq_true];constructor
 ·rintro ⟨x,hx,e⟩;exact ⟨x,hx,by rw [← h x hx];exact e⟩
 ·rintro ⟨x,hx,e⟩;exact ⟨x,hx,by rw [h x hx];exact e⟩
theorem qBc{f:α→Nat}{L M:List α}(h:∀ x,x∈L↔x∈M):orL f L=orL f M:=by
 apply Nat.eq_of_testBit_eq
 intro j;rw [qc0,qc0,Bool.eq_iff_iff,List.any_eq_true,List.any_eq_true];exact ⟨fun ⟨x,hx,e⟩=>⟨x,(h x).1 hx,e⟩,fun ⟨x,hx,e⟩=>⟨x,(h x).2 hx,e⟩⟩
theorem qBd{β:Type}(f:β→Nat)(g:α→β)(L:List α):orL f (L.map g)=orL (fun x=>f (g x)) L:=by
 apply Nat.eq_of_testBit_eq
 intro j;rw [qc0,qc0,List.any_map];rfl
def upC (U:List Nat)(S:Nat):Nat:=orL (fun k=>U.getD k 0) (els S)
theorem qm5 (U:List Nat)(S j:Nat):(upC U S).testBit j=true↔∃ k,k<16∧S.testBit k=true∧(U.getD k 0).testBit j=true:=by
 rw [upC,qc0,List.any_eq_true];constructor
 ·rintro ⟨k,hk,e⟩;exact ⟨k,(ql4.1 hk).1,(ql4.1 hk).2,e⟩
 ·rintro ⟨k,h1,h2,e⟩;exact ⟨k,ql4.2 ⟨h1,h2⟩,e⟩
theorem qjd (hU:Lim U)(S:Nat):upC U S<2 ^ U.length:=qnv _ _ _ fun k _=>hU.2 k
theorem qpj (U:List Nat)(f:α→Nat)(L:List α):upC U (orL f L)=orL (fun x=>upC U (f x)) L:=by
 apply Nat.eq_of_testBit_eq
 intro j;rw [Bool.eq_iff_iff,qm5,qc0,List.any_eq_true];constructor
 ·rintro ⟨k,h1,h2,e⟩
  rw [qc0,List.any_eq_true] at h2;obtain ⟨x,hx,h2⟩:=h2;exact ⟨x,hx,(qm5 _ _ _).2 ⟨k,h1,h2,e⟩⟩
 ·rintro ⟨x,hx,e⟩
  obtain ⟨k,h1,h2,e⟩:=(qm5 _ _ _).1 e;exact ⟨k,h1,by rw [qc0,List.any_eq_true];exact ⟨x,hx,h2⟩,e⟩
def closeTo (U:List Nat)(S:Nat):Nat→Nat
 | 0=>0
 | k+1=>if S.testBit k then closeTo U S k ||| U.getD k 0 else closeTo U S k
theorem qfm (U:List Nat)(S j:Nat):∀ k,(closeTo U S k).testBit j=true↔∃ i,i<k∧S.testBit i=true∧(U.getD i 0).testBit j=true
 | 0=>by simp [closeTo]
 | k+1=>by
  rw [closeTo];have ih:=qfm U S j k;by_cases hs:S.testBit k=true
  ·rw [if_pos hs,Nat.testBit_or,Bool.or_eq_true,ih]
   constructor
   ·rintro (⟨i,h1,h2⟩|h)
    ·exact ⟨i,by omega,h2⟩
    ·exact ⟨k,by omega,hs,h⟩
   ·rintro ⟨i,h1,h2,h3⟩
    by_cases e:i=k
    ·subst e;exact .inr h3
    ·exact .inl ⟨i,by omega,h2,h3⟩
  ·rw [if_neg hs,ih]
   constructor
   ·rintro ⟨i,h1,h2⟩;exact ⟨i,by omega,h2⟩
   ·rintro ⟨i,h1,h2,h3⟩
    have:i≠k:=fun e=>hs (e ▸ h2)
    exact ⟨i,by omega,h2,h3⟩
theorem qpk (h:S.testBit k=true):closeTo U S (k+1)=closeTo U S k ||| U.getD k 0:=by rw [closeTo,if_pos h]
theorem qnw (h:S.testBit k=false):closeTo U S (k+1)=closeTo U S k:=by rw [closeTo,if_neg (by simp [h])]
theorem qt9 (hU:Lim U)(S:Nat):closeTo U S U.length=upC U S:=by
 apply Nat.eq_of_testBit_eq
 intro j;rw [Bool.eq_iff_iff,qfm,qm5];constructor
 ·rintro ⟨i,h1,h2⟩;exact ⟨i,by have:=hU.1;omega,h2⟩
 ·rintro ⟨i,h1,h2,h3⟩
  refine ⟨i,?_,h2,h3⟩;apply Nat.lt_of_not_le
  intro aa;rw [List.getD,List.getElem?_eq_none aa] at h3;simp at h3
theorem qta (hU:Lim U)(S k:Nat):closeTo U S k<2 ^ U.length:=
 Nat.lt_pow_two_of_testBit _ fun j hj=>by
  cases h:(closeTo U S k).testBit j with
  | false=>rfl
  | true=>
   obtain ⟨i,_,_,h3⟩:=(qfm U S j k).1 h;rw [Nat.testBit_lt_two_pow (w_ (hU.2 i) (Nat.pow_le_pow_right (by decide) hj))] at h3;cases h3
def qje (A:List Nat)(d:List Int)(k:Nat):Bool:=(List.range k).all fun i=>(A.getD i 0).testBit (d.getD i 0).toNat
def fitD (A:List Nat)(d:List Int):Bool:=qje A d d.length
theorem qkl (A:List Nat)(d:List Int)(k:Nat):qje A d (k+1)=(qje A d k&&(A.getD k 0).testBit (d.getD k 0).toNat):=by
 rw [qje,List.range_succ,List.all_append];simp [qje]
theorem qz1{d:List Int}(hk:k<d.length)(h:(A.getD k 0).testBit (d.getD k 0).toNat=false):fitD A d=false:=by
 rw [fitD,qje,List.all_eq_false];exact ⟨k,List.mem_range.2 hk,by simp only [h];simp⟩
def givF (A:List Nat)(d:List Int×Int):Nat:=if fitD A d.1 then 2 ^ d.2.toNat else 0
def giveR (D:List (List Int×Int))(A:List Nat):Nat:=orL (givF A) D
theorem qkm (D:List (List Int×Int))(A:List Nat)(d:List Int×Int):giveR (D++[d]) A=giveR D A ||| givF A d:=qm4 _ _ _
theorem qCi (D:List (List Int×Int))(k:Nat)(h:k<D.length):D.take (k+1)=D.take k++[D.getD k ([],0)]:=by
 rw [List.take_succ_eq_append_getElem h];simp [List.getD,List.getElem?_eq_getElem h]
theorem qrs (h:k<D.length)(hf:fitD A (D.getD k ([],0)).1=true):giveR (D.take (k+1)) A=giveR (D.take k) A ||| 2 ^ (D.getD k ([],0)).2.toNat:=by
 rw [qCi D k h,qkm,givF,if_pos hf]
theorem qnx (h:k<D.length)(hf:fitD A (D.getD k ([],0)).1=false):giveR (D.take (k+1)) A=giveR (D.take k) A:=by
 rw [qCi D k h,qkm,givF,if_neg (by rw [hf];decide),Nat.or_zero]
def DeclN (n m:Nat)(D:List (List Int×Int)):Prop:=∀ d∈D,d.1.length=m∧inN n d.2=true∧∀ k,k<m→inN n (d.1.getD k 0)=true
theorem DeclN.take (h:DeclN n m D)(k:Nat):DeclN n m (D.take k):=fun d hd=>h d (List.mem_of_mem_take hd)
theorem qf2 (h:DeclN n m D)(A:List Nat):giveR D A<2 ^ n:=qnv _ _ _ fun d hd=>by
 obtain ⟨_,h2,_⟩:=h d hd;simp only [inN,decide_eq_true_eq] at h2;unfold givF;split
 ·exact Nat.pow_lt_pow_right (by decide) o_
 ·exact Nat.two_pow_pos n
def qe5 (g:Nat):Nat→Nat→List Nat
 | 0,_=>[]
 | f+1,l=>if l=0 then [] else l::qe5 g f ((l-1) &&& g)
def lefts (g:Nat):List Nat:=qe5 g g ((g-1) &&& g)
def leftsFrom (g l:Nat):List Nat:=qe5 g l l
theorem qe0 (g:Nat):∀ (f l:Nat),l≤f→qe5 g f l=qe5 g l l
 | 0,l,h=>by
                 have:l=0:=o_;subst this;rfl
 | f+1,l,h=>by
  by_cases hl:l=0
  ·subst hl;simp [qe5]
  ·obtain ⟨k,rfl⟩:∃ k,l=k+1:=⟨l-1,by omega⟩
   have aa:(k &&& g)≤k:=Nat.and_le_left;rw [qe5,if_neg hl,qe5,if_neg hl,Nat.add_sub_cancel,qe0 g f _ o_,qe0 g k _ aa]
theorem qkn (g:Nat):lefts g=leftsFrom g ((g-1) &&& g):=qe0 g g _ (Nat.le_trans Nat.and_le_right (Nat.le_refl g))
theorem qf8 (g:Nat):leftsFrom g 0=[]:=rfl
theorem qf9 (g l:Nat)(h:l≠0):leftsFrom g l=l::leftsFrom g ((l-1) &&& g):=by
 obtain ⟨k,rfl⟩:∃ k,l=k+1:=⟨l-1,by omega⟩;rw [leftsFrom,qe5,if_neg h,Nat.add_sub_cancel,qe0 g k _ Nat.and_le_left];rfl
theorem qko {g x:Nat}:∀ (f l:Nat),(g &&& l=l)→x∈qe5 g f l→0<x∧x≤l∧g &&& x=x
 | 0,l,_,h=>by simp [qe5] at h
 | f+1,l,hl,h=>by
  rw [qe5] at h;split at h
  ·simp at h
  ·rename_i h0
   rcases List.mem_cons.1 h with rfl|h
   ·exact ⟨by omega,Nat.le_refl _,hl⟩
   ·have hs:g &&& ((l-1) &&& g)=(l-1) &&& g:=by
     rw [Nat.and_comm (l-1) g,← Nat.and_assoc,Nat.and_self]
    obtain ⟨p1,p2,p3⟩:=qko f _ hs h;have:=@Nat.and_le_left (l-1) g;exact ⟨p1,by omega,p3⟩
theorem qw4 (h:x∈lefts g):0<x∧x<g∧g &&& x=x:=by
 have hs:g &&& ((g-1) &&& g)=(g-1) &&& g:=by
  rw [Nat.and_comm (g-1) g,← Nat.and_assoc,Nat.and_self]
 obtain ⟨p1,p2,p3⟩:=qko g _ hs h;have:=@Nat.and_le_left (g-1) g;exact ⟨p1,by omega,p3⟩
def befo (l r:Nat):Bool:=decide (l<r &&& (65536-r))
abbrev rest (g l:Nat):Nat:=g ^^^ l
theorem qz2 (h:g &&& l=l):rest g l=qC7 g l:=by rw [qC7,h]
theorem c71_{p:Prop}(h:p:=by
 cases h1:l.testBit j with
 | false=>cases g.testBit j<;>rfl
 | true=>rw [hb j h1];rfl
):p:=h
theorem qrt (h:g &&& l=l):l &&& rest g l=0∧rest g l &&& g=rest g l∧l ||| rest g l=g:=by
 have hb:∀ j,l.testBit j=true→g.testBit j=true:=fun j hj=>by
  have e:=congrArg (fun z=>Nat.testBit z j) h;simp only [Nat.testBit_and,hj,Bool.and_true] at e;exact e
 refine ⟨Nat.eq_of_testBit_eq fun j=>?_,Nat.eq_of_testBit_eq fun j=>?_,Nat.eq_of_testBit_eq fun j=>?_⟩
 ·rw [Nat.testBit_and,Nat.testBit_xor,Nat.zero_testBit]
  cases h1:l.testBit j with
  | false=>rfl
  | true=>rw [hb j h1];rfl
 ·rw [Nat.testBit_and,Nat.testBit_xor]
  exact c71_
 ·rw [Nat.testBit_or,Nat.testBit_xor]
  exact c71_
theorem qm6 (h:g &&& l=l)(h0:0<l):rest g l<g:=by
 obtain ⟨h1,h2,h3⟩:=qrt h;have h4:rest g l≤g:=by rw [← h2];exact Nat.and_le_right
 apply Nat.lt_of_le_of_ne h4
 intro e;rw [e,Nat.and_comm,h] at h1;omega
theorem qm7 (h:g &&& l=l)(h0:l<g):0<rest g l:=by
 obtain ⟨_,_,h3⟩:=qrt h;apply Nat.pos_of_ne_zero
 intro e;rw [e,Nat.or_zero] at h3;omega
def qd9 (com:Bool)(g:Nat):List Nat:=(lefts g).filter fun l=>com || befo l (rest g l)
theorem qkp{com:Bool}(h:x∈qd9 com g):0<x∧x<g∧g &&& x=x:=qw4 (List.mem_filter.1 h).1
section
variable (com:Bool) (U:List Nat) (D:List (List Int×Int)) (A:List Nat)
def qe7 (g:Nat):Option Nat:=(List.range 16).find? fun i=>g==2 ^ i
def valV (t:List Nat)(g:Nat):Nat:=
 match qe7 g with
 | some i=>A.getD i 0
 | none=>upC U (orL (fun l=>giveR D [t.getD l 0,t.getD (rest g l) 0]) (qd9 com g))
def tabV:Nat→List Nat
 | 0=>[]
 | k+1=>tabV k++[valV com U D A (tabV k) k]
def V (g:Nat):Nat:=valV com U D A (tabV com U D A g) g
theorem qi6:∀ k,(tabV com U D A k).length=k
 | 0=>rfl
 | k+1=>by rw [tabV,List.length_append,qi6 k];rfl
theorem qm8:∀ (k l:Nat),l<k→(tabV com U D A k).getD l 0=V com U D A l
 | 0,l,h=>absurd h (Nat.not_lt_zero _)
 | k+1,l,h=>by
  rw [tabV];by_cases e:l=k
  ·subst e
   rw [List.getD,List.getElem?_append_right (by rw [qi6];exact Nat.le_refl _),qi6,Nat.sub_self];rfl
  ·have hl:l<k:=o_
   rw [List.getD,List.getElem?_append_left (by rw [qi6];exact hl)];exact qm8 k l hl
theorem qw5 (h:i<16):V com U D A (2 ^ i)=A.getD i 0:=by
 have e:qe7 (2 ^ i)=some i:=by
  unfold qe7;rw [List.find?_range_eq_some];refine ⟨by simp,List.mem_range.2 h,fun j hj=>?_⟩;have:=Nat.pow_lt_pow_right (a:=2) (by decide) hj;simp;omega
 rw [V,valV,e]
theorem qru (h:qe7 g=none):V com U D A g=upC U (orL (fun l=>giveR D [V com U D A l,V com U D A (rest g l)]) (qd9 com g)):=by
 rw [V,valV,h];show upC U _=upC U _;rw [qjc fun l hl=>?_];obtain ⟨h1,h2,h3⟩:=qkp hl;rw [qm8 com U D A g l h2,qm8 com U D A g _ (qm6 h3 h1)]
theorem V_lt (hU:Lim U)(hA:∀ i,A.getD i 0<2 ^ U.length)(g:Nat):V com U D A g<2 ^ U.length:=by
 unfold V valV;split
 ·exact hA _
 ·exact qjd hU _
end
theorem qtb (_h:g<65536)(h2:2≤(els g).length):qe7 g=none:=by
 unfold qe7;rw [List.find?_eq_none];intro i hi e;have e':g=2 ^ i:=by simpa using e
 have aa:i<16:=List.mem_range.1 hi;have h3:∀ i:Fin 16,(els (2 ^ i.val)).length=1:=by decide +kernel
 have:=h3 ⟨i,aa⟩;rw [e'] at h2;simp only at this;omega
def cnt (g:Nat):Nat:=(els g).length
theorem qny:∀ g:Fin 128,cnt g.val≤7∧(cnt g.val=0→g.val=0)∧(cnt g.val=1→∃ i:Fin 7,g.val=2 ^ i.val):=by decide +kernel
theorem qw6:∀ g:Fin 128,∀ l∈lefts g.val,cnt l<cnt g.val∧cnt (rest g.val l)<cnt g.val:=by decide +kernel
theorem qtc:∀ n:Fin 8,∀ g:Fin 128,g.val<2 ^ n.val→cnt g.val≤n.val:=by decide +kernel
theorem qw7 (h:i<16):lefts (2 ^ i)=[]:=by
 have:∀ i:Fin 16,lefts (2 ^ i.val)=[]:=by decide +kernel
 exact this ⟨i,h⟩
def Done (com:Bool)(U:List Nat)(D:List (List Int×Int))(A:List Nat)(s g:Nat)(f:Nat→Nat):Prop:=
 ∀ x,0<x→x<2 ^ A.length→(cnt x<s∨cnt x=s∧x<g)→f x=V com U D A x
section
variable {com:Bool} {U:List Nat} {D:List (List Int×Int)} {A:List Nat}
theorem qw8 (h:Done com U D A s g f)(hn:cnt g≠s):Done com U D A s (g+1) f:=by
 intro x h0 hx hc;refine h x h0 hx ?_;rcases hc with hc|⟨hc,hg⟩
 ·exact .inl hc
 ·refine .inr ⟨hc,?_⟩
  have:x≠g:=fun e=>hn (e ▸ hc)
  omega
theorem qw9 (h:Done com U D A s g f){v:Nat}(hv:v=V com U D A g):Done com U D A s (g+1) (fun x=>if x=g then v else f x):=by
 intro x h0 hx hc;by_cases e:x=g
 ·subst e;simp only [if_pos];exact hv
 ·simp only [if_neg e]
  refine h x h0 hx ?_;rcases hc with hc|⟨hc,hg⟩
  ·exact .inl hc
  ·exact .inr ⟨hc,by omega⟩
theorem qwa (h:Done com U D A s g f)(hg:2 ^ A.length≤g):Done com U D A (s+1) 0 f:=by
 intro x h0 hx hc;refine h x h0 hx ?_;rcases hc with hc|⟨_,hc⟩
 ·by_cases e:cnt x=s
  ·exact .inr ⟨e,by omega⟩
  ·exact .inl o_
 ·exact absurd hc (Nat.not_lt_zero _)
theorem qm9 (h7:A.length≤7):2 ^ A.length≤128:=Nat.le_trans (Nat.pow_le_pow_right (by decide) h7) (by decide)
theorem qtd (h7:A.length≤7)(h:∀ i,i<A.length→f (2 ^ i)=A.getD i 0):Done com U D A 2 0 f:=by
 intro x h0 hx hc;have hp:=qm9 h7;rcases hc with hc|⟨_,hc⟩
 ·obtain ⟨_,h1,h2⟩:=qny ⟨x,by omega⟩
  simp only at h1 h2;have aa:cnt x=1:=by
   have:cnt x≠0:=fun e=>by have:=h1 e;omega
   omega
  obtain ⟨i,hi⟩:=h2 aa;have ab:i.val<A.length:=by
   rw [hi] at hx;exact (Nat.pow_lt_pow_iff_right (by decide)).1 hx
  rw [hi,h _ ab,qw5];omega
 ·exact absurd hc (Nat.not_lt_zero _)
theorem qwb (h7:A.length≤7)(h:Done com U D A s g f)(hc:cnt g=s)(h2:2≤s)(hg:g<2 ^ A.length):
  V com U D A g=upC U (orL (fun l=>giveR D [f l,f (rest g l)]) (qd9 com g)):=by
 have hp:=qm9 h7;rw [qru com U D A (qtb o_ (by show 2≤cnt g;omega))];congr 1
 refine (qjc fun l hl=>?_).symm;obtain ⟨h3,h4,h5⟩:=qkp hl;have h6:=qw6 ⟨g,by omega⟩ l (List.mem_filter.1 hl).1;simp only at h6;have h8:=qm6 h5 h3;have h9:=qm7 h5 h4;rw [h l h3 o_ (.inl o_),h _ h9 o_ (.inl o_)]
theorem qte (h7:A.length≤7)(h1:1≤A.length)(h:Done com U D A (A.length+1) g f):f (2 ^ A.length-1)=V com U D A (2 ^ A.length-1):=by
 have hp:=qm9 h7;have h3:2 ^ 1≤2 ^ A.length:=Nat.pow_le_pow_right (by decide) h1;refine h _ o_ o_ (.inl ?_);have:=qtc ⟨A.length,by omega⟩ ⟨2 ^ A.length-1,by omega⟩ (by show 2 ^ A.length-1<2 ^ A.length;omega);simp only at this;omega
end
def iv (i j:Nat):Nat:=2 ^ (j+1)-2 ^ i
theorem qz3:∀ i:Fin 7,∀ j:Fin 7,i.val<j.val→qd9 false (iv i.val j.val)=((List.range (j.val-i.val)).map fun k=>iv i.val (i.val+k)).reverse∧qe7 (iv i.val j.val)=none∧(∀ k:Fin 7,i.val+k.val<j.val→rest (iv i.val j.val) (iv i.val (i.val+k.val))=iv (i.val+k.val+1) j.val):=by decide +kernel
theorem qCj (i:Nat):iv i i=2 ^ i:=by unfold iv;rw [Nat.pow_succ];omega
theorem qz4 (n:Nat)(h:1≤n):iv 0 (n-1)=2 ^ n-1:=by unfold iv;rw [show n-1+1=n by omega]
def qe1 (U:List Nat)(D:List (List Int×Int))(A:List Nat)(i j k:Nat):Nat:=orL (fun k=>upC U (giveR D [V false U D A (iv i (i+k)),V false U D A (iv (i+k+1) j)])) (List.range k)
theorem qnz (U:List Nat)(D:List (List Int×Int))(A:List Nat)(i j k:Nat):qe1 U D A i j (k+1)=qe1 U D A i j k ||| upC U (giveR D [V false U D A (iv i (i+k)),V false U D A (iv (i+k+1) j)]):=by
 rw [qe1,List.range_succ,qm4];rfl
theorem qpl (U:List Nat)(D:List (List Int×Int))(A:List Nat)(aa:i<j)(hj:j<7):qe1 U D A i j (j-i)=V false U D A (iv i j):=by
 obtain ⟨h1,h2,h3⟩:=qz3 ⟨i,by omega⟩ ⟨j,hj⟩ aa;simp only at h1 h2 h3;rw [qru false U D A h2,h1,qpj,qe1];refine Eq.trans ?_ (qBc (L:=(List.range (j-i)).map fun k=>iv i (i+k)) (fun x=>by rw [List.mem_reverse]));rw [qBd];refine qjc fun k hk=>?_
 have ab:=List.mem_range.1 hk;rw [h3 ⟨k,by omega⟩ (by show i+k<j;omega)]
def sortsA (U:List Nat)(D:List (List Int×Int))(ass com:Bool)(A:List Nat):Nat:=if ass || com then V com U D A (2 ^ A.length-1) else upC U (giveR D A)
theorem qpm:qd9 true 3=[2,1]∧qe7 3=none:=by decide +kernel
theorem qCy (U:List Nat)(D:List (List Int×Int))(a b:Nat):V true U D [a,b] 3=upC U (giveR D [a,b]) ||| upC U (giveR D [b,a]):=by
 obtain ⟨h1,h2⟩:=qpm;rw [qru true U D _ h2,h1,qpj];have e1:V true U D [a,b] 1=a:=qw5 true U D [a,b] (i:=0) (by decide);have e2:V true U D [a,b] 2=b:=qw5 true U D [a,b] (i:=1) (by decide);show (0 ||| upC U (giveR D [V true U D [a,b] 2,V true U D [a,b] (rest 3 2)])) ||| upC U (giveR D [V true U D [a,b] 1,V true U D [a,b] (rest 3 1)])=_
 rw [show rest 3 2=1 from rfl,show rest 3 1=2 from rfl,e1,e2,Nat.zero_or,Nat.or_comm]
theorem qwc (hU:Lim U)(D:List (List Int×Int))(ass com:Bool)(hA:∀ i,A.getD i 0<2 ^ U.length):sortsA U D ass com A<2 ^ U.length:=by
 unfold sortsA;split
 ·exact V_lt com U D A hU hA _
 ·exact qjd hU _
end tsm

namespace tsi
open mem subs setm sets sortp sorti rowl sigm sigs tsm
def u16s (A:List Nat):List Value:=A.map fun (a:Nat)=>Value.int .u16 (a:Int)
theorem qi7 (A:List Nat):(u16s A).length=A.length:=by simp [u16s]
theorem qrv (A:List Nat)(k:Nat)(h:k<A.length):(u16s A).getD k undef=.int .u16 ((A.getD k 0:Nat):Int):=by
 simp [u16s,List.getD,List.getElem?_map,List.getElem?_eq_getElem h]
theorem qwd (A:List Nat)(a:Nat):u16s (A++[a])=u16s A++[.int .u16 (a:Int)]:=by simp [u16s]
theorem qpn (s t:Nat)(_hs:s<65536)(ht:t<65536)(r:Bool)(hr:befo s t=r)(w:World):
  Calls Tryz.prog 248 #[.int .u16 (s:Int),.int .u16 (t:Int)] w fun e w'=>e=.returned (.bool r)∧w=w':=by
 subst hr
 have H:Hid (decide ((s:Int)<bits .and .u16 (t:Int) (IntKind.u16.wrap (-(t:Int))))=befo s t):=z_ (by
  have e:IntKind.u16.wrap (-(t:Int))=(((65536-t) % 65536:Nat):Int):=by
   simp [IntKind.wrap,IntKind.bits,IntKind.signed];omega
  rw [e,ql3 t _ ht o_,befo,decide_eq_decide];by_cases h0:t=0
  ·subst h0;simp
  ·rw [Nat.mod_eq_of_lt o_];omega)
 go_enter Tryz.func248,Tryz.ntmps248
 go_wp2;go_ret;exact ⟨qa0 (by rw [← H.out];try simp),rfl⟩
theorem qz5 (U:List Nat)(L:List Nat)(k:Nat):orL (fun k=>U.getD k 0) (L++[k])=orL (fun k=>U.getD k 0) L ||| U.getD k 0:=qm4 _ _ _
theorem qkq (U:List Nat)(hU:Lim U)(S:Nat)(hS:S<65536)(v:Value)(w:World)(hM:MapU w v U):
  Calls Tryz.prog 240 #[v,.int .u16 (S:Int)] w fun e w'=>e=.returned (.int .u16 ((upC U S:Nat):Int))∧Below w.heap.size w w':=by
 have HE:=z_ (fun W=>qxq S hS W);have HM:=z_ hM;have HU:=z_ hU;have aj:=z_ (fun L=>w_ (qnv (fun k=>U.getD k 0) L U.length (fun k _=>hU.2 k)) (Nat.le_trans (pow8 hU.1) (by decide:256≤65536)));have HT:=z_ (fun j (h:j<(els S).length)=>qCu (els S) j h);have ac:=z_ (fun j (h:j<(els S).length)=>qC8 h);have ab:=z_ (qe9 S 16);rw [show qc2 S 16=els S from rfl] at ab;unfold upC;obtain ⟨E,hE⟩:=e_ (els S);rw [← hE] at HE HT ac ab ⊢;obtain ⟨m,hm⟩:=e_ (E.length);rw [← hm] at HE HT ac ab;have ak:m≤16:=ab.out;have ad:=z_ hm;clear hM hU hE hm;go_enter Tryz.func240,Tryz.ntmps240
 go_wp2_with (go_at_call 245;refine (HE.out _).mono ?_;rintro e w1 ⟨ev,rfl,hown,af⟩;obtain ⟨A,c,rfl,hh⟩:=(Has.of_own hown).shape (n:=m) (by rw [qau];simp [nats];exact ad.out.symm);have HH:=z_ hh;clear hown hh)
 go_loop [5,11] (fun s i=>∃ j:Nat,j≤m∧i=.int .i64 j∧s=.int .u16 ((orL (fun k=>U.getD k 0) (E.take j):Nat):Int)) (fun _ i=>m-(intOf i).toNat)
 case atStart=>exact ⟨0,y_,rfl,rfl⟩
 case round=>
  obtain ⟨j,hj,rfl,rfl⟩:=hrel;by_cases ae:j<m
  ·obtain ⟨g,o,rfl,hg,hcell⟩:=HH.out.cellAt ae
   rw [qak _ j (by simp [nats];have:=ad.out;omega),qav] at hcell;have hk:=ac.out j ae;have aa:=qz5 U (E.take j) (E.getD j 0);rw [← HT.out j ae] at aa;have ag:=aj.out (E.take j);obtain ⟨k,ah⟩:=e_ (E.getD j 0);rw [← ah] at hcell hk aa;have k1:=(HM.out.below af).look (x:=(k:Int)) o_ o_;rw [qgv] at k1;have ai:=HU.out.lt k;obtain ⟨G,hG⟩:=e_ (orL (fun k=>U.getD k 0) (E.take j));rw [← hG] at aa ag ⊢;obtain ⟨u,hu⟩:=e_ (U.getD k 0);rw [← hu] at k1 ai aa;have a1:=qqa G u ag ai;have al:=z_ aa;clear ah hG hu aa;go_wp2;go_round
   case rel=>exact ⟨j+1,by omega,by go_num,by rw [al.out]⟩
   case measure=>simp [intOf];omega
  ·obtain rfl:j=m:=o_
   have am:Hid (E.take j=E):=z_ (by rw [ad.out,List.take_length]);rw [am.out];go_wp2;go_ret;exact ⟨rfl,af⟩
theorem qma (A:List Nat)(d:List Int)(hA:∀ i,A.getD i 0<65536)(hd:∀ k,k<d.length→0≤d.getD k 0∧d.getD k 0<16)(hl:d.length≤A.length)(va vd:Value)(r:Bool)(hr:fitD A d=r)(w:World)(h1:Has w va (u16s A))(h2:Has w vd (ivs d)):
  Calls Tryz.prog 246 #[va,vd] w fun e w'=>e=.returned (.bool r)∧w=w':=by
 obtain ⟨m,hm⟩:=e_ (d.length);obtain ⟨p,hp⟩:=e_ (A.length);obtain ⟨Aa,ca,rfl,h1⟩:=h1.shape (n:=p) (by rw [qi7,hp]);obtain ⟨Ad,cd,rfl,h2⟩:=h2.shape (n:=m) (by rw [qau,hm]);have af:=h1.len.2;have ag:=h2.len.2;rw [← hm,← hp] at hl;rw [← hm] at hd;have H1:=z_ h1;have H2:=z_ h2;have HR:=z_ hr;have HM:=z_ hm;have HP:=z_ hp;have HA:=z_ hA;have HD:=z_ hd;clear h1 h2 hr hm hp hA hd;go_enter Tryz.func246,Tryz.ntmps246
 go_wp2;go_loop [5,6,9] (fun _ _ i=>∃ k:Nat,k≤m∧i=.int .i64 k∧Hid (qje A d k=true)) (fun _ _ i=>m-(intOf i).toNat)
 case atStart=>exact ⟨0,y_,rfl,z_ rfl⟩
 case round=>
  obtain ⟨k,hk,rfl,HF⟩:=hrel;by_cases ad:k<m
  ·obtain ⟨g,o,rfl,hg,hcell⟩:=H2.out.cellAt ad
   rw [qak _ k Af_] at hcell;obtain ⟨g2,o2,rfl,hg2,aa⟩:=H1.out.cellAt (show k<p by omega);rw [qrv _ k Bc_] at aa;have hd0:=HD.out k ad;have ac:=HA.out k;have HS:=z_ (qkl A d k);have HN:Hid ((A.getD k 0).testBit (d.getD k 0).toNat=false→fitD A d=false):=z_ (fun h=>qz1 Af_ h);obtain ⟨x,hx⟩:=e_ (d.getD k 0);rw [← hx] at hcell hd0 HS HN;obtain ⟨a,ha⟩:=e_ (A.getD k 0);rw [← ha] at aa ac HS HN;obtain ⟨j,rfl⟩:∃ j:Nat,x=(j:Int):=⟨x.toNat,by omega⟩;rw [Int.toNat_natCast] at HS HN;have ab:j<16:=o_;clear hx ha;have i1:(0:Int)≤(k:Int):=o_;have i2:(k:Int)<(p:Int):=o_;have i3:(k:Int)<(m:Int):=o_;cases hb:a.testBit j with
   | true=>
    have HC:=z_ (fun W=>qck a j ac ab true hb W);have ae:Hid (qje A d (k+1)=true):=z_ (by rw [HS.out,HF.out,hb];rfl);clear hb;go_wp2_with (go_at_call 153;refine (HC.out _).mono ?_;rintro e w1 ⟨rfl,rfl⟩)
    go_round
    case rel=>exact ⟨k+1,by omega,by go_num,ae⟩
    case measure=>simp [intOf];omega
   | false=>
    have HC:=z_ (fun W=>qck a j ac ab false hb W);have HQ:Hid (r=false):=z_ (by rw [← HR.out,HN.out hb]);clear hb;go_wp2_with (go_at_call 153;refine (HC.out _).mono ?_;rintro e w1 ⟨rfl,rfl⟩)
    go_ret;exact ⟨qa0 HQ.out.symm,rfl⟩
  ·obtain rfl:k=m:=o_
   have HQ:Hid (r=true):=z_ (by rw [← HR.out,fitD,← HM.out,HF.out]);go_wp2;go_ret;exact ⟨qa0 HQ.out.symm,rfl⟩
end tsi
end Go.Proofs.YtiilamngcoegiaaGreat
