
import Derived.Test.YtiilamngcoegiaaGreatSortn
import Derived.Maps.OwnSet
import Derived.Maps.OwnOps
import Derived.Maps.Views
namespace Go.Proofs.YtiilamngcoegiaaGreat.sortp
open Go.ChangeShapes Go.WideShapes Go.ChangeAt Go.RowKit
open Go.Maps (Keyed)
open mem split subs sortn setm sets sortm
def qfa (n:Nat)(p:Int×Int):Bool:=decide (0≤p.1∧p.1<n)&&decide (0≤p.2∧p.2<n)&&decide (p.1≠p.2)
def qdr (n:Nat)(Q:List (Int×Int))(k:Nat):Bool:=(Q.take k).all (qfa n)
def qcu (n:Nat)(Q:List (Int×Int)):Bool:=decide (Q.length≤16)&&Q.all (qfa n)
def prs (Q:List (Int×Int)):List (Nat×Nat):=Q.map fun p=>(p.1.toNat,p.2.toNat)
theorem qgk (Q:List (Int×Int)):(prs Q).length=Q.length:=by simp [prs]
theorem qoo (Q:List (Int×Int))(k:Nat):(prs Q).getD k (0,0)=((Q.getD k (0,0)).1.toNat,(Q.getD k (0,0)).2.toNat):=by
 by_cases h:k<Q.length
 ·simp [prs,List.getD,List.getElem?_eq_getElem h]
 ·simp [prs,List.getD,List.getElem?_eq_none (Nat.le_of_not_lt h)]
theorem qib (n:Nat)(Q:List (Int×Int))(k:Nat)(h:k<Q.length):qdr n Q (k+1)=(qdr n Q k&&qfa n (Q.getD k (0,0))):=by
 rw [qdr,qAd Q k h,List.all_append];simp [qdr]
theorem qqq (n:Nat)(Q:List (Int×Int))(k:Nat)(h:k<Q.length)(hb:qfa n (Q.getD k (0,0))=false):Q.all (qfa n)=false:=by
 simp only [List.all_eq_false];exact ⟨Q[k],List.getElem_mem h,by simpa [List.getD,List.getElem?_eq_getElem h] using hb⟩
def PIn (n:Nat)(Q:List (Int×Int)):Prop:=∀ p∈Q,(0≤p.1∧p.1<n)∧(0≤p.2∧p.2<n)
theorem PIn.get {n:Nat}{Q:List (Int×Int)}(h:PIn n Q){k:Nat}(hk:k<Q.length):(0≤(Q.getD k (0,0)).1∧(Q.getD k (0,0)).1<n)∧(0≤(Q.getD k (0,0)).2∧(Q.getD k (0,0)).2<n):=by
 have:=h _ (List.getElem_mem hk);simpa [List.getD,List.getElem?_eq_getElem hk] using this
theorem PIn.inR {n:Nat}{Q:List (Int×Int)}(h:PIn n Q):InR n (prs Q):=by
 intro p hp;obtain ⟨q,hq,rfl⟩:=List.mem_map.1 hp;have:=h q hq;exact ⟨by show q.1.toNat<n;omega,by show q.2.toNat<n;omega⟩
theorem qgl {n:Nat}{Q:List (Int×Int)}(h:qcu n Q=true):PIn n Q∧Q.length≤16:=by
 simp only [qcu,qfa,Bool.and_eq_true,decide_eq_true_eq,List.all_eq_true] at h;exact ⟨fun p hp=>⟨(h.2 p hp).1.1,(h.2 p hp).1.2⟩,h.1⟩
def circ (n:Nat)(U:List Nat):Bool:=(List.range n).any fun h=>(List.range h).any fun l=>(U.getD l 0).testBit h&&(U.getD h 0).testBit l
theorem qmo {n:Nat}{U:List Nat}{h l:Nat}(hh:h<n)(hl:l<h)(h1:(U.getD l 0).testBit h=true)(h2:(U.getD h 0).testBit l=true):circ n U=true:=by
 simp only [circ,List.any_eq_true,List.mem_range,Bool.and_eq_true];exact ⟨h,hh,l,hl,h1,h2⟩
theorem qjk {n:Nat}{U:List Nat}(h:∀ h l,h<n→l<h→¬ ((U.getD l 0).testBit h=true∧(U.getD h 0).testBit l=true)):circ n U=false:=by
 cases hc:circ n U with
 | false=>rfl
 | true=>
  simp only [circ,List.any_eq_true,List.mem_range,Bool.and_eq_true] at hc;obtain ⟨a,ha,b,hb,h1,h2⟩:=hc;exact absurd ⟨h1,h2⟩ (h a b ha hb)
def okS (P:List (List UInt8))(Q:List (Int×Int)):Bool:=qbt P&&qcu P.length Q&&!circ P.length (clo P.length (prs Q))
theorem qax {P:List (List UInt8)}{Q:List (Int×Int)}(h:okS P Q=true):1≤P.length∧P.length≤8∧PIn P.length Q∧Q.length≤16∧circ P.length (clo P.length (prs Q))=false:=by
 simp only [okS,qbt,Bool.and_eq_true,decide_eq_true_eq,Bool.not_eq_true'] at h;obtain ⟨⟨⟨h1,_⟩,h2⟩,h3⟩:=h;obtain ⟨h4,h5⟩:=qgl h2;exact ⟨h1.1,h1.2,h4,h5,h3⟩
theorem mlaw:Keyed Tryz.prog 3:=Maps.int_keyed Tryz.underlying3
theorem qxp (w:World):(zeroValue 176).run Tryz.prog w=.ok (.int .u16 0) w:=by kernel_rfl
def lk (x:Int):Lit:=.int .i64 x
def lv (n:Nat):DataW Unit:=.lit (.int .u16 (n:Int))
def Fits (D:DataW Unit)(U:List Nat):Prop:=
 Maps.Tidy D∧Maps.size D=U.length∧(∀ i:Nat,i<U.length→Maps.has D (lk i)=true∧∀ z,D.atKey (lk i) z=lv (U.getD i 0))∧∀ x:Int,¬ (0≤x∧x<U.length)→Maps.has D (lk x)=false
theorem qjl (x:Int):WideAt.IsKeyLit (lk x):=trivial
theorem qxq {x y:Int}(h:x≠y):lk x≠lk y:=fun e=>h (by simpa [lk] using e)
theorem qxr:Fits (.map []) []:=⟨Maps.tidy_empty,rfl,fun i h=>by simp at h,fun x _=>rfl⟩
theorem quj {D:DataW Unit}{U:List Nat}(h:Fits D U)(v:Nat):Fits (D.put (lk U.length) (lv v)) (U++[v]):=by
 obtain ⟨h1,h2,h3,h4⟩:=h;have ab:Maps.has D (lk U.length)=false:=h4 _ o_;refine ⟨h1.put (qjl _) _,?_,fun i hi=>?_,fun x hx=>?_⟩
 ·rw [Maps.size_put h1,ab,h2];simp
 ·by_cases ac:i=U.length
  ·subst ac
   refine ⟨Maps.has_put_same h1.isMap (qjl _) _,fun z=>?_⟩;rw [Maps.atKey_put_same h1.isMap (qjl _)];simp [List.getD]
  ·have aa:lk (i:Int)≠lk (U.length:Int):=qxq o_
   have hlt:i<U.length:=by simp at hi;omega
   refine ⟨by rw [Maps.has_put_other aa];exact (h3 i hlt).1,fun z=>?_⟩;rw [Maps.atKey_put_other aa,(h3 i hlt).2 z];simp [List.getD,List.getElem?_append_left hlt]
 ·simp at hx
  rw [Maps.has_put_other (qxq o_)];exact h4 x o_
theorem qxs {D:DataW Unit}{U:List Nat}(h:Fits D U)(k:Nat)(hk:k<U.length)(v:Nat):Fits (D.put (lk k) (lv v)) (U.set k v):=by
 obtain ⟨h1,h2,h3,h4⟩:=h;refine ⟨h1.put (qjl _) _,?_,fun i hi=>?_,fun x hx=>?_⟩
 ·rw [Maps.size_put h1,(h3 k hk).1,h2];simp
 ·rw [List.length_set] at hi
  rw [qct _ _ hk];by_cases aa:i=k
  ·subst aa
   rw [if_pos rfl];exact ⟨Maps.has_put_same h1.isMap (qjl _) _,fun z=>Maps.atKey_put_same h1.isMap (qjl _) _ _⟩
  ·have ab:lk (i:Int)≠lk (k:Int):=qxq o_
   rw [if_neg aa];exact ⟨by rw [Maps.has_put_other ab];exact (h3 i hi).1,fun z=>by rw [Maps.atKey_put_other ab];exact (h3 i hi).2 z⟩
 ·rw [List.length_set] at hx
  rw [Maps.has_put_other (qxq o_)];exact h4 x hx
def MapU (w:World)(v:Value)(U:List Nat):Prop:=
 (v=.map none∧U=[])∨∃ b n D,v=.map (some b)∧w.ownsMap Tryz.prog 3 (plainElem (H:=Unit) Tryz.prog 176) b n D∧Fits D U
def atU (U:List Nat)(x:Int):Nat:=if 0≤x then U.getD x.toNat 0 else 0
theorem qgm (U:List Nat)(k:Nat):atU U (k:Int)=U.getD k 0:=by simp [atU]
theorem qAf (U:List Nat)(x:Int)(h:¬ (0≤x∧x<U.length)):atU U x=0:=by
 unfold atU;split
 ·rw [List.getD,List.getElem?_eq_none o_];rfl
 ·rfl
theorem quk {D:DataW Unit}{U:List Nat}(h:Fits D U)(x:Int):D.atKey (lk x) (lv 0)=lv (atU U x):=by
 obtain ⟨h1,h2,h3,h4⟩:=h;by_cases hx:0≤x∧x<U.length
 ·have e:x=((x.toNat:Nat):Int):=o_
  rw [e,(h3 x.toNat o_).2,qgm]
 ·rw [Maps.atKey_of_not_has (h4 x hx),qAf U x hx]
theorem qxt {D:DataW Unit}{U:List Nat}(h:Fits D U)(x:Int):Maps.has D (lk x)=decide (0≤x∧x<U.length):=by
 obtain ⟨h1,h2,h3,h4⟩:=h;by_cases hx:0≤x∧x<U.length
 ·have e:x=((x.toNat:Nat):Int):=o_
  rw [e,(h3 x.toNat o_).1];simp;omega
 ·rw [h4 x hx];simp;omega
theorem qgn {x:Int}(h1:-9223372036854775808≤x)(h2:x≤9223372036854775807):keyOf Tryz.prog 3 (.int .i64 x)=some (lk x):=Maps.keyOf_int_mk Tryz.underlying3 (WalkArith.wf_i64 o_)
theorem c27_ {p:Prop}(h:p:=by
 simp only [lv,DataW.lit.injEq,Lit.int.injEq,true_and] at this;rw [this]
):p:=h
theorem MapU.look {w:World}{v:Value}{U:List Nat}(h:MapU w v U){x:Int}(h1:-9223372036854775808≤x)(h2:x≤9223372036854775807):
  (Instr.lookup 89 v (.int .i64 x) false).run Tryz.prog w=.ok (.int .u16 ((atU U x:Nat):Int)) w:=by
 rcases h with ⟨rfl,rfl⟩|⟨b,n,D,rfl,hown,hF⟩
 ·rw [Maps.look_nil false mlaw Tryz.underlying89 (qxp w) (qgn h1 h2)]
  simp [atU]
 ·obtain ⟨c,aa,ab,ac⟩:=hown.lookup_int mlaw Tryz.underlying89 Tryz.underlying176 (qxp w) (qgn h1 h2)
  rw [aa];have:=(quk hF x).symm.trans ab;exact c27_
theorem MapU.look_ok {w:World}{v:Value}{U:List Nat}(h:MapU w v U){x:Int}(h1:-9223372036854775808≤x)(h2:x≤9223372036854775807):
  (Instr.lookup 89 v (.int .i64 x) true).run Tryz.prog w=.ok (.tuple #[.int .u16 ((atU U x:Nat):Int),.bool (decide (0≤x∧x<U.length))]) w:=by
 rcases h with ⟨rfl,rfl⟩|⟨b,n,D,rfl,hown,hF⟩
 ·rw [Maps.look_nil true mlaw Tryz.underlying89 (qxp w) (qgn h1 h2)]
  have:decide (0≤x∧x<(([]:List Nat).length:Int))=false:=by first|(simp;done)|(simp;omega)
  rw [this];simp [atU]
 ·obtain ⟨v,ps,aa,hv⟩:=hown.look_ok mlaw Tryz.underlying89 (qxp w) (plainElem_int Tryz.underlying176 (by decide)) (qgn h1 h2)
  obtain ⟨c,rfl,hc,ab⟩:=plainElem_int_inv Tryz.underlying176 hv;rw [aa,qxt hF];have:=(quk hF x).symm.trans (congrArg Prod.fst hc);exact c27_
theorem MapU.len {w:World}{v:Value}{U:List Nat}(h:MapU w v U)(ty:TypeId):(Builtin.len_ #[89] ty #[v]).run Tryz.prog w=.ok (.int .i64 (U.length:Nat)) w:=by
 rcases h with ⟨rfl,rfl⟩|⟨b,n,D,rfl,hown,hF⟩
 ·rw [Maps.len_nil Tryz.underlying89];rfl
 ·rw [hown.len Tryz.underlying89,hF.2.1]
theorem qjm {w w':World}{P:Program}{k:TypeId}{R:Value→Option (DataW Unit×List MemPlace)}{b n:Nat}{D:DataW Unit}(h:w.ownsMap P k R b n D)(hb:Below w.heap.size w w'):w'.ownsMap P k R b n D:=
 h.kept (row:=none) ⟨hb.os,hb.tape,hb.output,hb.size,fun k hk _=>hb.block k hk⟩ (by simp)
theorem MapU.below {w w':World}{v:Value}{U:List Nat}(h:MapU w v U)(hb:Below w.heap.size w w'):MapU w' v U:=by
 rcases h with ⟨rfl,rfl⟩|⟨b,n,D,rfl,hown,hF⟩
 ·exact .inl ⟨rfl,rfl⟩
 ·exact .inr ⟨b,n,D,rfl,qjm hown hb,hF⟩
theorem j9_ {p:Prop}(h:p:=by
 go_enter Tryz.func174,Tryz.ntmps174
 go_wp2;go_ret;exact ⟨qa0 (by first|exact HQ.out.symm|(rw [HQ.out];simp;omega)),rfl⟩
):p:=h
theorem c26_ {p:Prop}(h:p:=by
 have HQ:Hid (r=false):=z_ (by rw [← HR.out];simp;omega);exact j9_
):p:=h
theorem qbk (x:Int)(n:Nat)(r:Bool)(hr:decide (0≤x∧x<n)=r)(w:World):
  Calls Tryz.prog 174 #[.int .i64 x,.int .i64 n] w fun e w'=>e=.returned (.bool r)∧w=w':=by
 have HR:=z_ hr;clear hr;by_cases h1:0≤x
 ·by_cases h2:x<n
  ·have HQ:Hid (r=true):=z_ (by rw [← HR.out];simp;omega)
   exact j9_
  ·exact c26_
 ·exact c26_
theorem j8_ {p:Prop}(h:p:=by
 (repeat (first|exact aa|refine Below.setCell ?_ (by first|exact aa.size|(have:=aa.size;simp;omega)) _|refine Below.alloc ?_ (by first|exact aa.size|(have:=aa.size;simp;omega)) _))
):p:=h
theorem c24_ {p:Prop}(h:p:=by
 go_wp2_with (go_at_call 174;refine (qbk _ n _ (by first|exact HI.out|exact ac.out) _).mono ?_;rintro e w1 ⟨rfl,rfl⟩)
 go_ret;refine ⟨qa0 HQ.out.symm,?_⟩;exact j8_
):p:=h
theorem c25_ {p:Prop}(h:p:=by
 exact j8_
):p:=h
theorem qop (n:Nat)(_hn:n≤1000)(Q:List (Int×Int))(ad:In64 Q)(v:Value)(r:Bool)(hr:qcu n Q=r)(w:World)(h:HasP w v Q):
  Calls Tryz.prog 148 #[v,.int .i64 n] w fun e w'=>e=.returned (.bool r)∧Below w.heap.size w w':=by
 obtain ⟨m,hm⟩:=e_ (Q.length);obtain ⟨A,c,rfl,h⟩:=h.shape hm.symm;have hl:=h.len.2;have HH:=z_ h;have HR:=z_ hr;have HM:=z_ hm;have ae:=z_ ad;clear h hr hm ad;by_cases af:16<m
 ·have HQ:Hid (r=false):=z_ (by rw [← HR.out];have:=HM.out;simp [qcu];omega)
  go_enter Tryz.func148,Tryz.ntmps148
  go_wp2;go_ret;exact ⟨qa0 HQ.out.symm,Below.refl _ _⟩
 ·have ai:decide ((16:Int)<(m:Int))=false:=by simp;omega
  go_enter Tryz.func148,Tryz.ntmps148
  go_wp2;go_loopw [6,12] (fun _ i wr=>∃ k:Nat,k≤m∧i=.int .i64 k∧Hid (qdr n Q k=true)∧Below w.heap.size w wr) (fun _ i _=>m-(intOf i).toNat)
  case atStart=>exact ⟨0,y_,rfl,z_ rfl,Below.refl _ _⟩
  case round=>
   obtain ⟨k,hk,rfl,HX,aa⟩:=hrel;by_cases hlt:k<m
   ·obtain ⟨g,o,rfl,hg,hcell,ab⟩:=HH.out.cellAt hlt
    rw [← aa.cell (p:=⟨g,o+k*2,none⟩) hg] at hcell;rw [← aa.cell (p:=⟨g,o+k*2+1,none⟩) hg] at ab;have ag:=ae.out.get k;have HB:Hid (qfa n (Q.getD k (0,0))=false→r=false):=z_ (by intro h;rw [← HR.out,qcu,qqq n Q k (by have:=HM.out;omega) h];simp);have HG:Hid (qfa n (Q.getD k (0,0))=true→qdr n Q (k+1)=true):=z_ (by intro h;rw [qib n Q k (by have:=HM.out;omega),HX.out,h];rfl);have HS:Hid (qfa n (Q.getD k (0,0))=(decide (0≤(Q.getD k (0,0)).1∧(Q.getD k (0,0)).1<n)&&decide (0≤(Q.getD k (0,0)).2∧(Q.getD k (0,0)).2<n)&&decide ((Q.getD k (0,0)).1≠(Q.getD k (0,0)).2))):=z_ rfl;obtain ⟨s,hs⟩:=e_ (qfa n (Q.getD k (0,0)));rw [← hs] at HB HG HS;obtain ⟨x,hx⟩:=e_ ((Q.getD k (0,0)).1);obtain ⟨y,hy⟩:=e_ ((Q.getD k (0,0)).2);rw [← hx,← hy] at ag HS;rw [← hx] at hcell;rw [← hy] at ab;clear hs hx hy;cases h1:decide (0≤x∧x<(n:Int)) with
    | false=>
     have HI:=z_ (fun W=>qbk x n false h1 W);have HQ:Hid (r=false):=z_ (HB.out (by rw [HS.out,h1];rfl));clear h1;go_wp2_with (go_at_call 174;refine (HI.out _).mono ?_;rintro e w1 ⟨rfl,rfl⟩)
     go_ret;refine ⟨qa0 HQ.out.symm,?_⟩;exact c25_
    | true=>
     have HI:=z_ h1;cases h2:decide (0≤y∧y<(n:Int)) with
     | false=>
      have ac:=z_ h2;have HQ:Hid (r=false):=z_ (HB.out (by rw [HS.out,h1,h2];rfl));clear h1 h2;exact c24_
     | true=>
      have ac:=z_ h2;by_cases h3:x=y
      ·have HQ:Hid (r=false):=z_ (HB.out (by rw [HS.out,h1,h2,h3];simp))
       have he:(x==y)=true:=by simpa using h3
       clear h1 h2 h3;exact c24_
      ·have ah:Hid (qdr n Q (k+1)=true):=z_ (HG.out (by rw [HS.out,h1,h2];simpa using h3))
       have he:(x==y)=false:=by simpa using h3
       clear h1 h2 h3;go_wp2_with (go_at_call 174;refine (qbk _ n _ (by first|exact HI.out|exact ac.out) _).mono ?_;rintro e w1 ⟨rfl,rfl⟩)
       go_roundw
       case rel=>
        refine ⟨k+1,by omega,by go_num,ah,?_⟩;exact c25_
       case measure=>simp [intOf];omega
   ·obtain rfl:k=m:=o_
    have HQ:Hid (r=true):=z_ (by
     rw [← HR.out,qcu];have h:=HX.out;rw [qdr,List.take_of_length_le (by have:=HM.out;omega)] at h
     rw [h,← HM.out];simp;omega)
    go_wp2;go_ret;exact ⟨qa0 HQ.out.symm,aa⟩
theorem qj9 (w:World){ac:Array Oper}{rest:List Oper}{o:Oper}{a:Act}{Q:Exit→Act→World→Prop}
  (hg:o.guard=none) (m x:Operand) (ad:o.op=Op.lookup 89 m x false) {v:Value} {U:List Nat} (hm:a.eval m=v) (hM:MapU w v U)
  (aa:Int) (hx:a.eval x=.int .i64 aa) (h1:-9223372036854775808≤aa) (h2:aa≤9223372036854775807)
  (hK:wpList Tryz.prog ac Q rest (a.put o.dst (.int .u16 ((atU U aa:Nat):Int))) w):wpList Tryz.prog ac Q (o::rest) a w:=by
 refine wpList_plain hg fun K' ae=>?_
 have ab:=hM.look h1 h2;unfold Oper.wp;simp [execOp,ad,hm,hx,ab,Result.andThen];exact ae _ _ hK
theorem qzx (n:Nat)(h:n<65536):plainElem (H:=Unit) Tryz.prog 176 (.int .u16 (n:Int))=some (lv n,[]):=plainElem_int Tryz.underlying176 (WalkArith.wf_u16 o_)
theorem qjn (k:Nat):qc9 (k+1)=qc9 k++[2 ^ k]:=by simp [qc9,List.range_succ]
theorem qey (n:Nat)(hn:n≤16)(Q:List (Int×Int))(hQ:Q.length≤32)(al:PIn n Q)(v:Value)(w:World)(h:HasP w v Q):
  Calls Tryz.prog 149 #[.int .i64 n,v] w fun e w'=>∃ b,e=.returned (.map (some b))∧MapU w' (.map (some b)) (clo n (prs Q))∧Below w.heap.size w w':=by
 obtain ⟨m,hm⟩:=e_ (Q.length);obtain ⟨A,c,rfl,h⟩:=h.shape hm.symm;have hl:=h.len.2;rw [← hm] at hQ;have HH:=z_ h;have HM:=z_ hm;have ao:=z_ al;have ap:=z_ (fun k (hk:k<16) W=>qma 0 k o_ hk W);clear h hm al;have hmm:=@run_makeMap Tryz.prog;go_enter Tryz.func149,Tryz.ntmps149
 go_wp2;clear hmm;go_loopw [6,11] (fun _ i wr=>∃ k:Nat,k≤n∧i=.int .i64 k∧(∃ D,wr.ownsMap Tryz.prog 3 (plainElem (H:=Unit) Tryz.prog 176) w.heap.size k D∧Fits D (qc9 k))∧Below w.heap.size w wr) (fun _ i _=>n-(intOf i).toNat)
 case atStart=>exact ⟨0,y_,rfl,⟨_,World.ownsMap_made _ _ _ _,qxr⟩,b_.alloc n_ _⟩
 case round=>
  obtain ⟨k,hk,rfl,⟨D,hown,hF⟩,ae⟩:=hrel;by_cases hlt:k<n
  ·have hp:2 ^ k<65536:=qq7 o_
   have ah:=z_ hown;clear hown
   go_wp2_with (first
    | (go_at_call 186;refine (ap.out k o_ _).mono ?_;rintro e w1 ⟨rfl,rfl⟩)
    | (at_mapUpdate;refine wpList_mapUpdate_own _ rfl _ _ _ 89 rfl 3 176 mlaw Tryz.underlying89 _ w.heap.size k _ rfl ah.out (by unfold maxLen;omega) _ _ _ rfl rfl (qgn o_ o_) (lv (2 ^ k)) [] ?_ ?_))
   ·show plainElem _ _ (Value.int .u16 ((2:Int) ^ k))=_
    rw [show ((2:Int) ^ k)=((2 ^ k:Nat):Int) by simp];exact qzx _ hp
   intro w2 ac ab;have HB:=ae.grown ab ae.size (by intro j hj;cases hj;exact Nat.le_refl _)
   have aw:Hid (Fits (D.put (lk k) (lv (2 ^ k))) (qc9 (k+1))):=z_ (by
    have:=quj hF (2 ^ k);rw [qcm] at this
    rw [qjn];exact this)
   clear ab ae;go_wp2;go_roundw
   case rel=>exact ⟨k+1,by omega,by go_num,⟨_,ac,aw.out⟩,HB⟩
   case measure=>simp [intOf];omega
  ·obtain rfl:k=n:=o_
   clear hlt;go_wp2;go_loopw [8,20,22,23,24,25,26,27,28,29,30,31,32,33,34,35,36,37] (fun _ i _ _ _ _ _ _ _ _ _ _ _ _ _ _ _ _ wr=>∃ t:Nat,t≤k∧i=.int .i64 t∧(∃ D q,q≤16+t*32∧wr.ownsMap Tryz.prog 3 (plainElem (H:=Unit) Tryz.prog 176) w.heap.size q D∧Fits D (qdu (prs Q) (qc9 k) t))∧Below w.heap.size w wr) (fun _ i _ _ _ _ _ _ _ _ _ _ _ _ _ _ _ _ _=>k-(intOf i).toNat)
   case atStart=>exact ⟨0,y_,rfl,⟨D,k,by omega,hown,hF⟩,ae⟩
   case round=>
    obtain ⟨t,ht,rfl,⟨D2,q,hq,ac,aq⟩,af⟩:=hrel;clear hown hF ae;by_cases hlt:t<k
    ·go_wp2
     go_loopw [8,24,25,26,27,28,29,30,31,32,33,34,35,36,37] (fun _ i _ _ _ _ _ _ _ _ _ _ _ _ _ wx=>∃ j:Nat,j≤m∧i=.int .i64 j∧(∃ D q,q≤16+t*32+j∧wx.ownsMap Tryz.prog 3 (plainElem (H:=Unit) Tryz.prog 176) w.heap.size q D∧Fits D (midU k (prs Q) t j))∧Below w.heap.size w wx) (fun _ i _ _ _ _ _ _ _ _ _ _ _ _ _ _=>m-(intOf i).toNat)
     case atStart=>exact ⟨0,y_,rfl,⟨D2,q,by omega,ac,by rw [qmj];exact aq⟩,af⟩
     case round=>
      obtain ⟨j,hj,rfl,⟨D3,q3,aC,ad,ai⟩,aa⟩:=hrel;clear ac aq af;by_cases au:j<m
      ·obtain ⟨g,o,rfl,hg,hcell,ag⟩:=HH.out.cellAt au
       rw [← aa.cell (p:=⟨g,o+j*2,none⟩) hg] at hcell;rw [← aa.cell (p:=⟨g,o+j*2+1,none⟩) hg] at ag;have al:=ao.out.get (k:=j) (by have:=HM.out;omega);have hs:=qmk k (prs Q) t j (by rw [qgk];have:=HM.out;omega);rw [qoo] at hs;have am:=ql1 ao.out.inR t j (Q.getD j (0,0)).1.toNat;have an:=ql1 ao.out.inR t j (Q.getD j (0,0)).2.toNat;have aD:2 ^ k≤65536:=Nat.pow_le_pow_right (n:=2) (by decide) (show k≤16 by omega);have aj:=z_ (qqn k (prs Q) t j);obtain ⟨x,hx⟩:=e_ ((Q.getD j (0,0)).1);obtain ⟨y,hy⟩:=e_ ((Q.getD j (0,0)).2);rw [← hx,← hy] at al hs;rw [← hx] at hcell am;rw [← hy] at ag an;obtain ⟨x',rfl⟩:∃ x':Nat,x=(x':Int):=⟨x.toNat,by omega⟩;obtain ⟨y',rfl⟩:∃ y':Nat,y=(y':Int):=⟨y.toNat,by omega⟩;simp only [Int.toNat_natCast] at hs am an;obtain ⟨U,hU⟩:=e_ (midU k (prs Q) t j);rw [← hU] at hs am an ai aj;have HS:Hid (midU k (prs Q) t (j+1)=U.set x' (U.getD x' 0 ||| U.getD y' 0)):=z_ (by rw [hs,qgh]);have ax:=qq6 (U.getD x' 0) (U.getD y' 0) o_ o_;have hM:MapU wr (.map (some w.heap.size)) U:=.inr ⟨_,_,_,rfl,ad,ai⟩;have ay:=z_ hM;have ah:=z_ ad;have az:=qgm U x';have aA:=qgm U y';obtain ⟨a,ha⟩:=e_ (U.getD x' 0);obtain ⟨b,hb⟩:=e_ (U.getD y' 0);rw [← ha,← hb] at ax HS;rw [← ha] at am az;rw [← hb] at an aA;have aB:a ||| b<65536:=Nat.or_lt_two_pow (n:=16) o_ o_
       clear hx hy hs hU ha hb hM ad
       go_wp2_with (first
        | (at_lookup;refine qj9 _ rfl _ _ rfl rfl (ay.out.below (by (repeat (first|exact Below.refl _ _|refine Below.setCell ?_ (by simp) _|refine Below.alloc ?_ (by simp) _)))) _ rfl o_ o_ ?_)
        | (at_mapUpdate;refine wpList_mapUpdate_own _ rfl _ _ _ 89 rfl 3 176 mlaw Tryz.underlying89 _ w.heap.size q3 _ rfl (qjm ah.out (by (repeat (first|exact Below.refl _ _|refine Below.setCell ?_ (by simp) _|refine Below.alloc ?_ (by simp) _)))) (by unfold maxLen;omega) _ _ _ rfl rfl (qgn o_ o_) (lv (a ||| b)) [] ?_ ?_))
       ·show plainElem _ _ (Value.int .u16 ((a ||| b:Nat):Int))=_
        exact qzx _ aB
       intro w2 ak ab;have HB:Below w.heap.size w w2:=Below.grown (w:=_) (by repeat (first|exact aa|refine Below.setCell ?_ (by first|exact aa.size|(have:=aa.size;simp;omega)) _|refine Below.alloc ?_ (by first|exact aa.size|(have:=aa.size;simp;omega)) _)) ab (by have:=aa.size;simp;omega) (by intro j hj;cases hj;exact Nat.le_refl _);have av:Hid (Fits (D3.put (lk x') (lv (a ||| b))) (midU k (prs Q) t (j+1))):=z_ (by rw [HS.out];exact qxs ai x' (by have:=aj.out;omega) _);clear ab ai;go_wp2;go_roundw
       case rel=>exact ⟨j+1,by omega,by go_num,⟨_,_,by omega,ak,av.out⟩,HB⟩
       case measure=>simp [intOf];omega
      ·obtain rfl:j=m:=o_
       have av:Hid (Fits D3 (qdu (prs Q) (qc9 k) (t+1))):=z_ (by rw [← qml,qgk,← HM.out];exact ai);clear ai;go_wp2;go_roundw
       case rel=>exact ⟨t+1,by omega,by go_num,⟨_,q3,by omega,ad,av.out⟩,aa⟩
       case measure=>simp [intOf];omega
    ·obtain rfl:t=k:=o_
     go_wp2;go_ret;exact ⟨_,rfl,.inr ⟨_,_,_,rfl,ac,aq⟩,af⟩
end Go.Proofs.YtiilamngcoegiaaGreat.sortp
