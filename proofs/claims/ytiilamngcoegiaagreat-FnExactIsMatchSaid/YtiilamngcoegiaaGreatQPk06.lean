/- parts -/
import Derived.Laws.StructEq
import Derived.ChangeKeysEq
import Derived.Deep.RegionHeld3
import Derived.Deep.QuietTactic
import Derived.BigQuiet
import Derived.Test.YtiilamngcoegiaaGreatQZk
import Derived.Deep.Quiet
import Derived.Laws.Cover3
import Derived.Test.YtiilamngcoegiaaGreatQPk07
namespace Go.Proofs.YtiilamngcoegiaaGreat
open Go.ChangeShapes Go.WideShapes Go.ChangeAt Go.RowKit
variable {lo n g o g' o' lo' k j:Nat}{κ:Int→Nat}{O:List sigm.OpM}{w w0 w1 wr:World}{a2 a3 a4 b0 b1 b2 b3 b4:Value}{x:Int}{L:List Int}{D:List (List Int×Int)}
namespace sigi
open mem split subs setm sortp sorti rowl sigm sigs
abbrev Shp:=Nat×Nat×Nat×Nat×Nat
def pl (κ:Int→Nat)(L:List Int)(i:Nat):Nat:=if i<L.length then κ (L.getD i 0) else 0
def shp (κ:Int→Nat)(d:List Int×Int):Shp:=(d.1.length,pl κ d.1 0,pl κ d.1 1,pl κ d.1 2,κ d.2)
def zsh:Shp:=(0,0,0,0,0)
def shcs (s:Shp):List Value:=[.int .i64 (s.1:Int),.int .u16 (s.2.1:Int),.int .u16 (s.2.2.1:Int),.int .u16 (s.2.2.2.1:Int),.int .u16 (s.2.2.2.2:Int)]
def shv (s:Shp):Value:=.agg #[.int .i64 (s.1:Int),.int .u16 (s.2.1:Int),.int .u16 (s.2.2.1:Int),.int .u16 (s.2.2.2.1:Int),.int .u16 (s.2.2.2.2:Int)]
theorem qAq{d e:List Int×Int}(hd:okD n d=true)(he:okD n e=true):shp κ d=shp κ e↔kD κ d=kD κ e:=by
 obtain ⟨l,x⟩:=d;obtain ⟨m,y⟩:=e;have h1:=(qaj hd).1;have h2:=(qaj he).1;simp only [shp,kD,Prod.mk.injEq];match l,m,h1,h2 with
 | [],[],_,_=>simp [pl]
 | [],_::_,_,_=>simp
 | _::_,[],_,_=>simp
 | [a],[b],_,_=>simp [pl]
 | [a],_::_::_,_,_=>simp
 | _::_::_,[b],_,_=>simp
 | [a,a'],[b,b'],_,_=>simp [pl,and_assoc]
 | [a,a'],_::_::_::_,_,_=>simp
 | _::_::_::_,[b,b'],_,_=>simp
 | [a,a',aa],[b,b',ab],_,_=>simp [pl,and_assoc]
 | _::_::_::_::_,_,h,_=>simp at h
 | _,_::_::_::_::_,_,h=>simp at h
theorem qn4 (w:World)(a b x0 x1 x2 y0 y1 y2 r s:Int):
  (Op.equalIn 10000 179 (.agg #[.int .i64 a,.int .u16 x0,.int .u16 x1,.int .u16 x2,.int .u16 r]) (.agg #[.int .i64 b,.int .u16 y0,.int .u16 y1,.int .u16 y2,.int .u16 s])).run Tryz.prog w =
   .ok (decide (a=b∧x0=y0∧x1=y1∧x2=y2∧r=s)) w:=by
 have h1:Tryz.prog.stoodInHeld 179=false:=by kernel_rfl
 have h2:Tryz.prog.underlying 179=some (.struct (Tryz.prog.fieldsOf 179)):=by kernel_rfl
 have hi:Tryz.prog.info? 176=some (Tryz.prog.info? 176).get! := by kernel_rfl
 have hc:Tryz.prog.cellsOf 176=1:=by kernel_rfl
 have e1:∀ a b:Int,∀ W,(Op.equalIn 9999 3 (.int .i64 a) (.int .i64 b)).run Tryz.prog W=.ok (a==b) W:=fun a b W=>run_equalIn_int W 9998 _ _ _ a b Tryz.underlying3
 have e2:∀ a b:Int,∀ W,(Op.equalIn 9999 176 (.int .u16 a) (.int .u16 b)).run Tryz.prog W=.ok (a==b) W:=fun a b W=>run_equalIn_int W 9998 _ _ _ a b Tryz.underlying176
 have e3:∀ a b:Int,∀ W,(Op.equalIn 9998 176 (.int .u16 a) (.int .u16 b)).run Tryz.prog W=.ok (a==b) W:=fun a b W=>run_equalIn_int W 9997 _ _ _ a b Tryz.underlying176
 have e4:∀ xs ys W,(Op.equalIn 9999 177 (.agg xs) (.agg ys)).run Tryz.prog W=(Op.eqItems 9998 176 (Tryz.prog.cellsOf 176) xs ys (List.range 3)).run Tryz.prog W:=
  fun xs ys W=>run_equalIn_array W 9998 xs ys Tryz.underlying177 hi
 rw [run_equalIn_agg w 9999 _ _ _ h2 h1];simp only [Program.fieldsOf,Tryz.underlying179];simp [Op.eqFields,part,e1,e2,e4,hc,List.range_succ,Op.eqItems,e3]
 (repeat' split)<;>simp_all
theorem qA7 (s t:Shp):decide ((s.1:Int)=(t.1:Int)∧(s.2.1:Int)=(t.2.1:Int)∧(s.2.2.1:Int)=(t.2.2.1:Int)∧(s.2.2.2.1:Int)=(t.2.2.2.1:Int)∧(s.2.2.2.2:Int)=(t.2.2.2.2:Int))=decide (s=t):=by
 obtain ⟨a,b,c,d,e⟩:=s;obtain ⟨a',b',c',d',e'⟩:=t;simp only [Prod.mk.injEq,decide_eq_decide];omega
theorem qn5 (s t:Shp)(r:Bool)(hr:decide (s=t)=r)(w:World):(binOp .eql 179 (shv s) (shv t)).run Tryz.prog w=.ok (.bool r) w:=by
 rw [shv,shv,run_eql_struct,qn4,qA7,hr];rfl
theorem qn6 (s t:Shp)(r:Bool)(hr:decide (s=t)=r)(w:World):(binOp .neq 179 (shv s) (shv t)).run Tryz.prog w=.ok (.bool (!r)) w:=by
 rw [shv,shv,run_neq_struct,qn4,qA7,hr];rfl
theorem qjr (a b:Nat)(w:World):
  Calls Tryz.prog 236 #[.int .u16 (a:Int),.int .u16 (b:Int)] w fun e w'=>e=.returned (shv (2,a,a,0,b))∧Below w.heap.size w w':=by
 go_enter Tryz.func236,Tryz.ntmps236
 go_wp2;refine bodyPost_ret (v:=shv (2,a,a,0,b)) (by simp [results,Tryz.results236,go_sem,shv]) rfl ⟨rfl,?_⟩;repeat (first|exact Below.refl _ _|refine Below.setCell ?_ Ab_ _|refine Below.alloc ?_ Ab_ _)
theorem qAr{cs:Array Value}{t:TypeId}{fz:Nat×Nat}(h:w.heap[g]? =some (.cells cs t fz))(j:Nat)(u:Value):(w.setCell ⟨g,j,none⟩ u).heap[g]? =some (.cells (cs.setIfInBounds j u) t fz):=by
 simp [World.setCell,Array.getElem?_modify,h]
def shpR (r:Bool)(κ:Int→Nat)(d:List Int×Int):Shp:=if r then shp κ d else zsh
def plk (κ:Int→Nat)(L:List Int)(k i:Nat):Nat:=if i<k then κ (L.getD i 0) else 0
theorem quv (hk:k<L.length)(h:inN n (L.getD k 0)=false):okD n (L,x)=false:=by
 have:L.all (inN n)=false:=by
  rw [List.all_eq_false];refine ⟨L[k],List.getElem_mem hk,?_⟩;simpa [List.getD,List.getElem?_eq_getElem hk] using h
 simp [okD,this]
theorem qqu (h1:L.length≤3)(h2:inN n x=true)(h3:∀ k,k<L.length→inN n (L.getD k 0)=true):okD n (L,x)=true:=by
 simp only [okD,Bool.and_eq_true,decide_eq_true_eq,List.all_eq_true];refine ⟨⟨h1,h2⟩,fun y hy=>?_⟩;obtain ⟨k,hk,rfl⟩:=List.getElem_of_mem hy;have:=h3 k hk;simpa [List.getD,List.getElem?_eq_getElem hk] using this
def κU (U:List Nat)(x:Int):Nat:=U.getD x.toNat 0
theorem qAs{U:List Nat}(h:inN U.length x=true):atU U x=κU U x:=by
 simp only [inN,decide_eq_true_eq] at h;simp [atU,κU,h.1]
theorem c32_{p:Prop}(h:p:=by
 repeat (first|exact Below.refl _ _|refine Below.setCell ?_ Ab_ _|refine Below.alloc ?_ Ab_ _)
):p:=h
theorem c33_{p:Prop}(h:p:=by
 repeat (refine Below.setCell ?_ Ab_ _)
 exact aa
):p:=h
set_option maxRecDepth 20000 in
theorem qp1 (U:List Nat)(_hU:Lim U)(L:List Int)(x:Int)(hx:I64 x)(hL:∀ y∈L,I64 y)(r:Bool)(hr:okD U.length (L,x)=r)(va mv:Value)(w:World)(h:Has w va (ivs L))(hM:MapU w mv U):
  Calls Tryz.prog 235 #[.agg #[va,.int .i64 x],mv] w fun e w'=>e=.returned (.tuple #[shv (shpR r (κU U) (L,x)),.bool r])∧Below w.heap.size w w':=by
 have ai:=z_ (fun x (hx:I64 x) r hr W (hW:Below w.heap.size w W)=>qiu U mv x hx.1 hx.2 r hr W (hM.below hW));have au:=z_ (fun x (hx:I64 x) W (hW:Below w.heap.size w W)=>(hM.below hW).look hx.1 hx.2);obtain ⟨m,hm⟩:=e_ (L.length);obtain ⟨A,ca,rfl,h'⟩:=h.shape ((qau L).trans hm.symm);have aF:=h'.len.2;have HH:=z_ h';have HM:=z_ hm;have HX:=z_ hx;have aj:=z_ hL;clear h h' hM hm hL hx;by_cases az:3<m
 ·have HR:Hid (r=false):=z_ (by rw [← hr,okD];have:=HM.out;simp;omega)
  clear hr;go_enter Tryz.func235,Tryz.ntmps235
  go_wp2;refine bodyPost_ret (v:=.tuple #[shv zsh,.bool false]) (by simp [results,Tryz.results235,go_sem,shv,zsh]) rfl ⟨by rw [HR.out];rfl,?_⟩;exact c32_
 cases ab:inN U.length x with
 | false=>
  have HR:Hid (r=false):=z_ (by rw [← hr,okD,ab];simp);have HS:=z_ (fun W hW=>ai.out x HX.out false ab W hW);clear hr ab;go_enter Tryz.func235,Tryz.ntmps235
  go_wp2_with fail
  refine (HS.out _ ?_).mono ?_
  ·exact c32_
  rintro e w1 ⟨rfl,rfl⟩;go_wp2;refine bodyPost_ret (v:=.tuple #[shv zsh,.bool false]) (by simp [results,Tryz.results235,go_sem,shv,zsh]) rfl ⟨by rw [HR.out];rfl,?_⟩;repeat (first|exact Below.refl _ _|refine Below.setCell ?_ Ab_ _|refine Below.alloc ?_ Ab_ _)
 | true=>
  have HS:=z_ (fun W hW=>ai.out x HX.out true ab W hW);have ak:=z_ (fun W hW=>au.out x HX.out W hW);have av:=qAs ab;have al:=z_ ab;rw [av] at ak;obtain ⟨c,hc⟩:=e_ (κU U x);rw [← hc] at ak;have HC:=z_ hc;clear ab av hc;go_enter Tryz.func235,Tryz.ntmps235
  go_wp2_with fail
  refine (HS.out _ ?_).mono ?_
  ·exact c32_
  rintro e w1 ⟨rfl,hw⟩;have aw:Below w.heap.size w w1:=by rw [← hw];exact v_
  have am:w1.heap.size=w.heap.size+2:=by rw [← hw];simp
  have k0:w1.heap[w.heap.size]? =some (.cells #[.slice A m ca,.int .i64 x] 199 (0,0)):=by rw [← hw,Below.heap_alloc _ _ _ (by simp)];exact qa5 _ _ _ rfl
  have k1:w1.heap[w.heap.size+1]? =some (.cells #[.int .i64 0,.int .u16 0,.int .u16 0,.int .u16 0,.int .u16 0] 179 (0,0)):=by rw [← hw];exact qa5 _ _ _ (by simp)
  have c0:=h_ w1 _ 0 _ _ _ k0;have c1:=h_ w1 _ 1 _ _ _ k0;have ae:=ak.out w1 aw;have K1:=z_ k1;clear hw k0 k1;go_wp2_with fail
  go_loopw [32] (fun i wr=>∃ k:Nat,k≤m∧i=.int .i64 k∧Hid (∀ j,j<k→inN U.length (L.getD j 0)=true)∧
    Hid (wr.heap[w.heap.size+2]? =some (.cells #[.int .i64 (m:Int),.int .u16 ((plk (κU U) L k 0:Nat):Int),.int .u16 ((plk (κU U) L k 1:Nat):Int),.int .u16 ((plk (κU U) L k 2:Nat):Int),.int .u16 (c:Int)] 179 (0,0)))∧
    Hid (wr.heap[w.heap.size+1]? =some (.cells #[.int .i64 0,.int .u16 0,.int .u16 0,.int .u16 0,.int .u16 0] 179 (0,0)))∧Below w.heap.size w wr) (fun i _=>m-(intOf i).toNat)
  case atStart=>
   refine ⟨0,y_,rfl,z_ (fun j hj=>by omega),z_ ?_,z_ ?_,aw.alloc o_ _⟩
   ·exact qa5 _ _ _ am.symm
   ·rw [Below.heap_alloc _ _ _ o_];exact K1.out
  case round=>
   obtain ⟨k,hk,rfl,ax,ad,HZ,aa⟩:=hrel;by_cases aA:k<m
   ·obtain ⟨ga,oa,rfl,aB,an⟩:=HH.out.cellAt aA
    rw [qak L k Af_,← aa.cell (p:=⟨ga,oa+k,none⟩) aB] at an;have ac:I64 (L.getD k 0):=aj.out _ (by rw [List.getD_eq_getElem?_getD,List.getElem?_eq_getElem Af_];exact List.getElem_mem _);have ay:=z_ (fun r hr W hW=>ai.out (L.getD k 0) ac r hr W hW);have aG:=z_ aa;have d0:=h_ wr _ 0 _ _ _ HZ.out;have d1:=h_ wr _ 1 _ _ _ HZ.out;have d2:=h_ wr _ 2 _ _ _ HZ.out;have d3:=h_ wr _ 3 _ _ _ HZ.out;have d4:=h_ wr _ 4 _ _ _ HZ.out;have af:∀ j,wr.frozen? ⟨w.heap.size+1,j,none⟩=false:=fun j=>g_ wr _ j _ _ HZ.out
    cases ag:inN U.length (L.getD k 0) with
    | false=>
     have HR:Hid (r=false):=z_ (by rw [← hr];exact quv Af_ ag);have ah:=z_ (ay.out false ag wr aa);obtain ⟨y,hy⟩:=e_ (L.getD k 0);rw [← hy] at an ah;have f0:=af 0;have f1:=af 1;have f2:=af 2;have f3:=af 3;have f4:=af 4;clear ag hr ac hy af c0 c1 ae;go_wp2_with fail
     refine ah.out.mono ?_;rintro e w2 ⟨rfl,rfl⟩;go_wp2;refine bodyPost_ret (v:=.tuple #[shv zsh,.bool false]) (by simp [results,Tryz.results235,go_sem,shv,zsh,d0,d1,d2,d3,d4]) rfl ⟨by rw [HR.out];rfl,?_⟩;exact c33_
    | true=>
     have ah:=z_ (ay.out true ag wr aa);have ao:=au.out (L.getD k 0) ac wr aa;rw [qAs ag] at ao;obtain ⟨y,hy⟩:=e_ (L.getD k 0);rw [← hy] at an ah ao;obtain ⟨z,hz⟩:=e_ (κU U y);rw [← hz] at ao;have aC:=z_ hz;have ap:=z_ hy;have aq:=z_ ag;have aD:k<3:=o_;obtain ⟨v0,aH⟩:∃ v,wr.cell? ⟨w.heap.size+2,1+k,none⟩=some v:=by
      rw [h_ wr _ (1+k) _ _ _ ad.out];exact ⟨_,Array.getElem?_eq_getElem (by simp;omega)⟩
     have aI:=g_ wr _ (1+k) _ _ ad.out;clear ag hr ac hy hz af c0 c1 ae d0 d1 d2 d3 d4;go_wp2_with fail
     refine ah.out.mono ?_;rintro e w2 ⟨rfl,rfl⟩;go_wp2;go_roundw
     case rel=>
      refine ⟨k+1,by omega,by go_num,z_ (fun j hj=>?_),z_ ?_,z_ ?_,aa.setCell Ab_ _⟩
      ·by_cases e:j=k
       ·subst e;rw [← ap.out];rw [ap.out];exact aq.out
       ·exact ax.out j o_
      ·rw [qAr ad.out]
       have hz:=aC.out;have hy:=ap.out;match k,aD with
       | 0,_=>simp [plk,hz,hy]
       | 1,_=>simp [plk,hz,hy]
       | 2,_=>simp [plk,hz,hy]
      ·rw [Below.heap_setCell _ _ _ _ (by simp)];exact HZ.out
     case measure=>simp [intOf];omega
   ·obtain rfl:k=m:=o_
    have HR:Hid (r=true):=z_ (by rw [← hr];exact qqu Af_ al.out (fun j hj=>ax.out j Af_))
    have aE:Hid (shpR r (κU U) (L,x)=(k,plk (κU U) L k 0,plk (κU U) L k 1,plk (κU U) L k 2,c)):=z_ (by
     rw [HR.out];have:=HM.out;subst this;rw [HC.out]
     rfl)
    have s0:=h_ wr _ 0 _ _ _ ad.out;have s1:=h_ wr _ 1 _ _ _ ad.out;have s2:=h_ wr _ 2 _ _ _ ad.out;have s3:=h_ wr _ 3 _ _ _ ad.out;have s4:=h_ wr _ 4 _ _ _ ad.out;have d0:=h_ wr _ 0 _ _ _ HZ.out;have d1:=h_ wr _ 1 _ _ _ HZ.out;have d2:=h_ wr _ 2 _ _ _ HZ.out;have d3:=h_ wr _ 3 _ _ _ HZ.out;have d4:=h_ wr _ 4 _ _ _ HZ.out;have f0:=g_ wr _ 0 _ _ HZ.out;have f1:=g_ wr _ 1 _ _ HZ.out;have f2:=g_ wr _ 2 _ _ HZ.out;have f3:=g_ wr _ 3 _ _ HZ.out;have f4:=g_ wr _ 4 _ _ HZ.out;clear hr c0 c1 ae;generalize plk (κU U) L k 0=p0 at *
    generalize plk (κU U) L k 1=p1 at *
    generalize plk (κU U) L k 2=p2 at *
    go_wp2;refine bodyPost_ret (v:=.tuple #[shv (k,p0,p1,p2,c),.bool true]) (by simp [results,Tryz.results235,go_sem,shv,d0,d1,d2,d3,d4]) rfl ⟨by rw [aE.out,HR.out],?_⟩;exact c33_
end sigi

namespace sigt
open mem join subs setm sortp sorti rowl sigs
theorem qsl (L:List Int)(x:Int)(hL:L.length≤1048576)(va:Value)(w:World)(h:Has w va (ivs L)):
  Calls Tryz.prog 185 #[.agg #[va,.int .i64 x]] w fun e w'=>∃ v,e=.returned (.agg #[v,.int .i64 x])∧HasL w.heap.size w' v (ivs L)∧Below w.heap.size w w':=by
 obtain ⟨A,ca,rfl,h'⟩:=h.shape (qau L);have ae:=z_ (fun W hW=>intl.qu4 L hL _ W (h'.below n_ hW));clear h h';go_enter Tryz.func185,Tryz.ntmps185
 go_wp2_with fail
 refine (ae.out _ ?_).mono ?_
 ·exact v_
 rintro e w1 ⟨v1,rfl,aa,ab⟩;obtain ⟨A1,c1,rfl,ad⟩:=HasL.shape (HasL.of_own aa) (qau L);have af:=z_ ad;have ac:w1.heap[w.heap.size+1]? =some (.cells #[.slice none 0 0,.int .i64 0] 199 (0,0)):=by rw [ab.block _ (by simp)];exact (Below.heap_alloc _ _ _ (by simp)).trans (qa5 _ _ _ (by simp))
 have d0:=h_ w1 _ 0 _ _ _ ac;have d1:=h_ w1 _ 1 _ _ _ ac;have e0:=g_ w1 _ 0 _ _ ac;have e1:=g_ w1 _ 1 _ _ ac;have ag:Below w.heap.size w w1:=(((b_.alloc n_ _).alloc (by simp) _).alloc (by simp;omega) _).trans (ab.mono (by simp;omega));obtain ⟨ah,ai⟩:=qml ab;have hz:w.heap.size+2<w1.heap.size:=by have:=ab.size;simp at this;omega
 clear aa ad ac ab;go_wp2;refine bodyPost_ret (v:=.agg #[.slice A1 L.length c1,.int .i64 x]) (by simp [results,Tryz.results185,go_sem,d0,d1]) rfl ⟨_,rfl,?_,?_⟩
 ·refine HasL.mono (lo:=w.heap.size+1+1+1) ?_ o_
  have h0:=HasL.mono af.out (lo':=w.heap.size+1+1+1) (by simp);repeat (first|exact h0|refine HasL.kept ?_ (Kept.set (by simp;omega) _)|refine HasL.kept ?_ (Kept.set (by simp) _))
 ·repeat (first|exact ag|refine Below.setCell ?_ Ab_ _)
theorem qn7:(Tryz.prog.info? 199).map (fun i=>(i.zero,i.size,i.bytes))=some (some (.agg #[.slice none 0 0,.int .i64 0]),2,32):=by kernel_rfl
theorem qp2 (D:List (List Int×Int))(hD:SmD D)(v:Value)(w:World)(h:HasD lo w v D):
  Calls Tryz.prog 146 #[v] w fun e w'=>∃ v',e=.returned v'∧HasD w.heap.size w' v' D∧Below w.heap.size w w':=by
 obtain ⟨n,hn⟩:=e_ (D.length);obtain ⟨A,c,rfl,h⟩:=HasR.shape h hn.symm;obtain ⟨i0,hi,an,ao,ap⟩:=info_parts qn7;have aw:n≤1048576:=by have:=hD.1;omega
 have HH:=z_ h;have HN:=z_ hn;have HD:=z_ hD.2;clear h hn hD;go_enter Tryz.func146,Tryz.ntmps146
 go_wp2_with (at_make;refine wpList_make_full _ rfl _ _ 122 rfl w.heap.size 199 i0 _ 2 Tryz.underlying122 hi an ao _ _ _ _ n rfl rfl rfl rfl (by rw [ap];omega) Aa_ n_ ?_)
 intro w1 hown ab;have ae:w.heap.size<w1.heap.size:=by
  rcases hown.2 with ⟨hv,_⟩|⟨g,cap,cur,hv,hb,hg,_⟩
  ·cases hv
  ·have:=(q_ hg);omega
 go_wp2
 go_loopw [4] (fun i wr=>∃ (j:Nat) (ys:List Value),j≤n∧i=.int .i64 j∧wr.ownsRow w.heap.size 199 2 (.slice (some ⟨w.heap.size,0,none⟩) n n) n ys∧
   Hid (∀ i,i<j→∃ cs,(∀ q,q<2→ys[i*2+q]? =some (cs.getD q undef))∧RD (w.heap.size+1) wr cs (D.getD i default))∧w.heap.size<wr.heap.size∧Below w.heap.size w wr) (fun i _=>n-(intOf i).toNat)
 case atStart=>exact ⟨0,_,y_,rfl,hown,z_ (fun i hi=>by omega),ae,b_.grown ab n_ (by intro k h;cases h)⟩
 case round=>
  obtain ⟨j,ys,hj,rfl,hown,HY,hsz,aa⟩:=hrel;by_cases aq:j<n
  ·obtain ⟨g,o,A2,c2,rfl,_,hg,aj,ak,hh,af,ag⟩:=qbb HH.out aq
   have hL:=HD.out j Ac_;rw [← aa.cell (p:=⟨g,o+j*2,none⟩) hg] at aj;rw [← aa.cell (p:=⟨g,o+j*2+1,none⟩) hg] at ak;have ah:=hh.has.below n_ aa;obtain ⟨⟨l,x⟩,hd⟩:∃ d,d=D.getD j default:=⟨_,rfl⟩;rw [← hd] at aj ak ah hL af ag;have HL:=z_ ah;have HX:=z_ hd;have HI:=z_ (And.intro af ag);have ac:=z_ hown;clear hh ah hd hown af ag;go_wp2_with fail
   refine (qsl l x hL _ _ HL.out).mono ?_;rintro e w2 ⟨v2,rfl,al,ad⟩;obtain ⟨A3,c3,rfl,am⟩:=HasL.shape al (qau l);have ai:=z_ (own_below ac.out ad);have HV:=z_ am;have au:=z_ ad;obtain ⟨⟨v0,ax⟩,ay⟩:=qaa ai.out (i:=j*2) o_;obtain ⟨⟨v1,az⟩,aA⟩:=qaa ai.out (i:=j*2+1) o_;clear al am;go_wp2;go_roundw
   case rel=>
    refine ⟨j+1,_,by omega,by go_num,qhd ai.out (j*2) _ _,z_ ?_,by simp [World.setCell];have:=ad.size;omega,((aa.trans (ad.mono aa.size)).setCell n_ _).setCell n_ _⟩;have hlen:ys.length=n*2:=by have:=ac.out.1;omega
    intro i hi;by_cases av:i=j
    ·subst av
     refine ⟨[.slice A3 l.length c3,.int .i64 x],qxk o_,_,by rw [← HX.out],?_,?_⟩
     ·rw [← HX.out]
      exact ((HV.out.mono o_).kept (Kept.set (by simp) _)).kept (Kept.set (by simp) _)
     ·rw [← HX.out];exact HI.out
    ·obtain ⟨cs,h1,h2⟩:=HY.out i o_
     refine ⟨cs,fun q hq=>?_,?_⟩
     ·rw [qxj o_];exact h1 q hq
     ·exact qa6.kept (qa6.kept (qa6.kept h2 (Kept.below au.out n_)) (Kept.set (by simp) _)) (Kept.set (by simp) _)
   case measure=>simp [intOf];omega
  ·obtain rfl:j=n:=o_
   have HW:Hid (HasD w.heap.size wr (.slice (some ⟨w.heap.size,0,none⟩) j j) D):=z_ (HasR.of_own hown HN.out.symm (fun i hi=>by
    obtain ⟨cs,h1,h2⟩:=HY.out i hi
    exact ⟨cs,h1,qa6.mono h2 o_⟩))
   clear hown;go_wp2;go_ret;exact ⟨_,rfl,HW.out,aa⟩
theorem c34_{p:Prop}(h:p:=by
 repeat (first|exact Below.refl _ _|refine Below.setCell ?_ Ab_ _|refine Below.alloc ?_ Ab_ _)
):p:=h
theorem qy8 (l:List UInt8)(D:List (List Int×Int))(hD:SmD D)(va:Value)(a b:Bool)(u:Int)(w:World)(h:HasD lo w va D):
  Calls Tryz.prog 89 #[.agg #[.string (bstr l),va,.bool a,.bool b,.int .i64 u]] w fun e w'=>∃ v,e=.returned (.agg #[.string (bstr l),v,.bool a,.bool b,.int .i64 u])∧HasD w.heap.size w' v D∧Below w.heap.size w w':=by
 obtain ⟨A,ca,rfl,h'⟩:=HasR.shape h rfl;have ac:=z_ (fun W (hW:Below w.heap.size w W)=>qp2 D hD _ W (h'.below qa6 n_ hW));obtain ⟨n,hn⟩:=e_ (D.length);have HN:=z_ hn;rw [← hn] at ac ⊢;clear h h' hn;go_enter Tryz.func89,Tryz.ntmps89
 go_wp2_with fail
 refine (ac.out _ ?_).mono ?_
 ·exact c34_
 rintro e w1 ⟨v1,rfl,ad,ab⟩;obtain ⟨A1,c1,rfl,ae⟩:=HasR.shape ad HN.out.symm;have af:=z_ (ae.mono qa6 (lo':=w.heap.size+1+1+1) (by simp));have aa:w1.heap[w.heap.size+1]? =some (.cells #[.string { data:=#[] },.slice none 0 0,.bool false,.bool false,.int .i64 0] 124 (0,0)):=by
  rw [ab.block _ (by simp)];exact (Below.heap_alloc _ _ _ (by simp)).trans (qa5 _ _ _ (by simp))
 have d0:w1.cell? ⟨w.heap.size+1,0,none⟩=some (.string { data:=#[] }):=h_ w1 _ 0 _ _ _ aa;have d1:=h_ w1 _ 1 _ _ _ aa;have d2:=h_ w1 _ 2 _ _ _ aa;have d3:=h_ w1 _ 3 _ _ _ aa;have d4:=h_ w1 _ 4 _ _ _ aa;have e0:=g_ w1 _ 0 _ _ aa;have e1:=g_ w1 _ 1 _ _ aa;have e2:=g_ w1 _ 2 _ _ aa;have e3:=g_ w1 _ 3 _ _ aa;have e4:=g_ w1 _ 4 _ _ aa;have ag:Below w.heap.size w w1:=by
  refine Below.trans ?_ (ab.mono ?_)
  ·exact c34_
  ·simp;omega
 obtain ⟨ah,ai⟩:=qml ab;have hz:w.heap.size+2<w1.heap.size:=by have:=ab.size;simp at this;omega
 clear ad ae aa ab;go_wp2;refine bodyPost_ret (v:=.agg #[.string (bstr l),.slice A1 n c1,.bool a,.bool b,.int .i64 u]) (by simp [results,Tryz.results89,go_sem,d0,d1,d2,d3,d4]) rfl ⟨_,rfl,?_,?_⟩
 ·refine HasR.mono qa6 (lo:=w.heap.size+1+1+1) ?_ o_
  repeat (refine HasR.kept qa6 ?_ (Kept.set Ab_ _))
  exact af.out
 ·repeat (refine Below.setCell ?_ Ab_ _)
  exact ag
end sigt

namespace sigj
open mem subs setm sortp sorti rowl sigm sigs sigi
theorem qiw (a b c d f:Nat):shv (a,b,c,d,f)=.agg #[.int .i64 (a:Int),.int .u16 (b:Int),.int .u16 (c:Int),.int .u16 (d:Int),.int .u16 (f:Int)]:=rfl
theorem qdw (hj:j<D.length)(h:okD n (D.getD j default)=false∨¬ kD κ (D.getD j default)=kD κ (hd0 D)):qaf n κ D=false:=by
 have:(D.all fun d=>okD n d&&decide (kD κ d=kD κ (hd0 D)))=false:=by
  rw [List.all_eq_false];refine ⟨D[j],List.getElem_mem hj,?_⟩;have e:D.getD j default=D[j]:=by simp [List.getD,List.getElem?_eq_getElem hj]
  rw [e] at h;rcases h with h|h
  ·simp [h]
  ·simp [h]
 simp [qaf,this]
theorem qhg (h1:1≤D.length)(h2:D.length≤4)(h3:∀ j,j<D.length→okD n (D.getD j default)=true∧kD κ (D.getD j default)=kD κ (hd0 D)):qaf n κ D=true:=by
 simp only [qaf,Bool.and_eq_true,decide_eq_true_eq,List.all_eq_true];refine ⟨⟨h1,h2⟩,fun d hd=>?_⟩;obtain ⟨k,hk,rfl⟩:=List.getElem_of_mem hd;have:=h3 k hk;have e:D.getD k default=D[k]:=by simp [List.getD,List.getElem?_eq_getElem hk]
 rw [e] at this;exact this
theorem c35_{p:Prop}(h:p:=by
 have HR:Hid (r=false):=z_ (by rw [← hr,qaf];have:=HN.out;simp;omega);clear hr;go_enter Tryz.func217,Tryz.ntmps217
 go_wp2;refine bodyPost_ret (v:=.tuple #[shv zsh,.bool false]) (by simp [results,Tryz.results217,go_sem,shv,zsh]) rfl ⟨by rw [HR.out];rfl,?_⟩;repeat (first|exact Below.refl _ _|refine Below.setCell ?_ Ab_ _|refine Below.alloc ?_ Ab_ _)
):p:=h
theorem c36_{p:Prop}(h:p:=by
 go_wp2;refine bodyPost_ret (v:=.tuple #[shv zsh,.bool false]) (by simp [results,Tryz.results217,go_sem,shv,zsh,d0,d1,d2,d3,d4,al]) rfl ⟨by rw [HR.out];rfl,?_⟩;repeat (first|refine Below.setCell ?_ Ab_ _|refine Below.alloc ?_ Ab_ _)
 exact ad
):p:=h
set_option maxRecDepth 20000 in
set_option maxHeartbeats 4000000 in
theorem qix (U:List Nat)(hU:Lim U)(D:List (List Int×Int))(r:Bool)(hr:qaf U.length (κU U) D=r)(va mv:Value)(w:World)(h:HasD lo w va D)(hM:MapU w mv U):
  Calls Tryz.prog 217 #[va,mv] w fun e w'=>e=.returned (.tuple #[shv (shpR r (κU U) (hd0 D)),.bool r])∧Below w.heap.size w w':=by
 have ap:Hid (∀ (d:List Int×Int) (r:Bool) (va:Value) (W:World),I64 d.2→(∀ y∈d.1,I64 y)→okD U.length d=r→Below w.heap.size w W→Has W va (ivs d.1)→
   Calls Tryz.prog 235 #[.agg #[va,.int .i64 d.2],mv] W fun e w'=>e=.returned (.tuple #[shv (shpR r (κU U) d),.bool r])∧Below W.heap.size W w'):=
  z_ (fun d r va W h1 h2 hr hW hH=>qp1 U hU d.1 d.2 h1 h2 r hr va mv W hH (hM.below hW))
 obtain ⟨n,hn⟩:=e_ (D.length);obtain ⟨A,ca,rfl,h'⟩:=HasR.shape h hn.symm;have aS:=h'.len.2.1;have aK:=h'.len.2.2;have HH:=z_ h';have HN:=z_ hn;clear h h' hn hM;by_cases aT:n<1
 ·exact c35_
 by_cases aU:4<n
 ·exact c35_
 obtain ⟨g,o,A2,c2,rfl,_,hg,ae,ag,hh,ah,ai⟩:=qbb HH.out (j:=0) o_;have hd:D.getD 0 default=hd0 D:=rfl;rw [hd] at ae ag hh ah ai;rw [show o+0*2=o by omega] at ae ag;have aq:=z_ (And.intro ah ai);have aw:=z_ hh.has;obtain ⟨m,hm⟩:=e_ ((hd0 D).1.length);rw [← hm] at ae aw;obtain ⟨x,hx⟩:=e_ ((hd0 D).2);rw [← hx] at ag;have HX:=z_ hx;clear hh ah ai hd hm hx;cases ac:okD U.length (hd0 D) with
 | false=>
  have HR:Hid (r=false):=z_ (by rw [← hr];exact qdw (j:=0) Ac_ (.inl ac));have HC:=z_ (fun va W hW hH=>ap.out (hd0 D) false va W aq.out.1 aq.out.2 ac hW hH);rw [← HX.out] at HC;clear ac hr;go_enter Tryz.func217,Tryz.ntmps217
  go_wp2_with fail
  refine (HC.out _ _ (b_.alloc n_ _) (aw.out.below n_ (b_.alloc n_ _))).mono ?_;rintro e w1 ⟨he,af⟩;rw [shpR,if_neg (by simp),zsh,qiw] at he;subst he;have ax:Below w.heap.size w w1:=(b_.alloc n_ _).trans (af.mono (by simp));have k1:w1.heap[w.heap.size]? =some (.cells #[.int .i64 0,.int .u16 0,.int .u16 0,.int .u16 0,.int .u16 0] 179 (0,0)):=by rw [af.block _ (by simp)];exact qa5 _ _ _ rfl
  have d0:=h_ w1 _ 0 _ _ _ k1;have d1:=h_ w1 _ 1 _ _ _ k1;have d2:=h_ w1 _ 2 _ _ _ k1;have d3:=h_ w1 _ 3 _ _ _ k1;have d4:w1.cell? ⟨w.heap.size,4,none⟩=some (.int .u16 0):=h_ w1 _ 4 _ _ _ k1;have f0:=g_ w1 _ 0 _ _ k1;have f1:=g_ w1 _ 1 _ _ k1;have f2:=g_ w1 _ 2 _ _ k1;have f3:=g_ w1 _ 3 _ _ k1;have f4:=g_ w1 _ 4 _ _ k1;have hz:w.heap.size<w1.heap.size:=by have:=af.size;simp at this;omega
  clear af k1;go_wp2;refine bodyPost_ret (v:=.tuple #[shv zsh,.bool false]) (by simp [results,Tryz.results217,go_sem,shv,zsh,d0,d1,d2,d3,d4,hz]) rfl ⟨by rw [HR.out];rfl,?_⟩;repeat (first|refine Below.setCell ?_ Ab_ _|refine Below.alloc ?_ Ab_ _)
  exact ax
 | true=>
  have HC:=z_ (fun va W hW hH=>ap.out (hd0 D) true va W aq.out.1 aq.out.2 ac hW hH);have ak:=z_ ac;rw [← HX.out] at HC;obtain ⟨⟨s0,s1,s2,s3,s4⟩,hs⟩:∃ s,s=shpR true (κU U) (hd0 D):=⟨_,rfl⟩;rw [← hs] at HC;have ay:Hid ((s0,s1,s2,s3,s4)=shp (κU U) (hd0 D)):=z_ hs;obtain ⟨A4,c4,az,HT⟩:∃ A4 c4,(∀ W,(Instr.sliceAt 122 (.slice (some ⟨g,o,none⟩) n ca) (some (.int .i64 1)) none none).run Tryz.prog W=.ok (.slice A4 (n-1) c4) W)∧Hid (HasD lo w (.slice A4 (n-1) c4) D.tail):=by
   have hel:Tryz.prog.elem 122=199:=by kernel_rfl
   have az:Tryz.prog.underlying 122=some (.slice (Tryz.prog.elem 122)):=by rw [hel];exact Tryz.underlying122
   obtain ⟨i0,hi,aV,aL,al⟩:=info_parts sigt.qn7;have hcs:Tryz.prog.cellsOf 199=2:=by kernel_rfl
   have am:∀ W,(Instr.sliceAt 122 (.slice (some ⟨g,o,none⟩) n ca) (some (.int .i64 1)) none none).run Tryz.prog W=.ok (sliced (some ⟨g,o,none⟩) 1 n ca 2) W:=fun W=>by
    rw [run_sliceAt_slice W _ _ _ _ _ az,run_slice_l W _ _ _ _ az .i64 1 o_ o_,hel,run_sizeOf W hi,hcs];rfl
   by_cases h1:ca=1
   ·have aM:n=1:=o_
    refine ⟨some ⟨g,o,none⟩,ca-1,fun W=>?_,z_ ?_⟩
    ·rw [am W,sliced,if_pos h1]
    ·have:D.tail=[]:=List.eq_nil_of_length_eq_zero (by rw [List.length_tail];have:=HN.out;omega)
     rw [this,aM,h1];exact HasR.nil _ _ _ Aa_ _
   ·refine ⟨some ⟨g,o+2,none⟩,ca-1,fun W=>?_,z_ (HasR.tail HH.out (by omega:1≤n))⟩
    rw [am W,sliced,if_neg h1];simp [Addr.add]
  clear ac hs;go_enter Tryz.func217,Tryz.ntmps217
  go_wp2_with fail
  refine (HC.out _ _ (b_.alloc n_ _) (aw.out.below n_ (b_.alloc n_ _))).mono ?_;rintro e w1 ⟨he,af⟩;rw [qiw] at he;subst he;have ax:Below w.heap.size w w1:=(b_.alloc n_ _).trans (af.mono (by simp));have k1:w1.heap[w.heap.size]? =some (.cells #[.int .i64 0,.int .u16 0,.int .u16 0,.int .u16 0,.int .u16 0] 179 (0,0)):=by rw [af.block _ (by simp)];exact qa5 _ _ _ rfl
  have K1:=z_ k1;have hz:w.heap.size<w1.heap.size:=by have:=af.size;simp at this;omega
  clear af k1 ae ag;go_wp2_with fail
  go_loopw [35] (fun i wr=>∃ k:Nat,k≤n-1∧i=.int .i64 k∧Hid (∀ j,j<k+1→okD U.length (D.getD j default)=true∧kD (κU U) (D.getD j default)=kD (κU U) (hd0 D))∧
    Hid (wr.heap[w.heap.size]? =some (.cells #[.int .i64 0,.int .u16 0,.int .u16 0,.int .u16 0,.int .u16 0] 179 (0,0)))∧
    Hid (wr.heap[w1.heap.size]? =some (.cells #[.int .i64 (s0:Int),.int .u16 (s1:Int),.int .u16 (s2:Int),.int .u16 (s3:Int),.int .u16 (s4:Int)] 179 (0,0)))∧w1.heap.size<wr.heap.size∧Below w.heap.size w wr) (fun i _=>n-1-(intOf i).toNat)
  case atStart=>
   refine ⟨0,y_,rfl,z_ (fun j hj=>?_),z_ ?_,z_ ?_,by simp,ax.alloc o_ _⟩
   ·obtain rfl:j=0:=o_
    exact ⟨ak.out,rfl⟩
   ·rw [Below.heap_alloc _ _ _ o_];exact K1.out
   ·exact qa5 _ _ _ rfl
  case round=>
   obtain ⟨k,hk,rfl,an,HZ,HS,aL,aa⟩:=hrel;by_cases aN:k<n-1
   ·obtain ⟨g',o',A3,c3,rfl,_,aG,ae,ag,hh,ah,ai⟩:=qbb HT.out aN
    have aH:D.tail.getD k default=D.getD (k+1) default:=by cases D<;>simp
    rw [aH] at ae ag hh ah ai;rw [← aa.cell (p:=⟨g',o'+k*2,none⟩) aG] at ae;rw [← aa.cell (p:=⟨g',o'+k*2+1,none⟩) aG] at ag;have au:=hh.has.below n_ aa;have aA:Hid (okD U.length (D.getD (k+1) default)=false∨¬ kD (κU U) (D.getD (k+1) default)=kD (κU U) (hd0 D)→r=false):=z_ (fun hb=>by rw [← hr];exact qdw Ac_ hb);have aB:Hid (okD U.length (D.getD (k+1) default)=true→(shp (κU U) (D.getD (k+1) default)=shp (κU U) (hd0 D)↔kD (κU U) (D.getD (k+1) default)=kD (κU U) (hd0 D))):=z_ (fun hb=>qAq hb ak.out)
    have aI:Hid (okD U.length (D.getD (k+1) default)=true→kD (κU U) (D.getD (k+1) default)=kD (κU U) (hd0 D)→∀ j,j<k+1+1→okD U.length (D.getD j default)=true∧kD (κU U) (D.getD j default)=kD (κU U) (hd0 D)):=z_ (fun h1 h2 j hj=>by
     by_cases e:j=k+1
     ·subst e;exact ⟨h1,h2⟩
     ·exact an.out j o_)
    obtain ⟨⟨l,x2⟩,hd⟩:∃ d,d=D.getD (k+1) default:=⟨_,rfl⟩;rw [← hd] at ae ag au ah ai aA aB aI;obtain ⟨m2,aJ⟩:=e_ (l.length);rw [← aJ] at ae au;have aC:=z_ au;have HI:=z_ (And.intro ah ai);clear hh au ah ai hd aJ aH hr;cases aj:okD U.length (l,x2) with
    | false=>
     have HR:=z_ (aA.out (.inl aj));have ao:=z_ (fun va W hW hH=>ap.out (l,x2) false va W HI.out.1 HI.out.2 aj hW hH);clear aj;go_wp2_with fail
     refine (ao.out _ _ (aa.alloc o_ _) (aC.out.below n_ (b_.alloc n_ _))).mono ?_;rintro e w2 ⟨he,ab⟩;rw [shpR,if_neg (by simp),zsh,qiw] at he;subst he;have ad:Below w.heap.size w w2:=(aa.alloc o_ _).trans (ab.mono (by simp;omega));have k2:w2.heap[w.heap.size]? =some (.cells #[.int .i64 0,.int .u16 0,.int .u16 0,.int .u16 0,.int .u16 0] 179 (0,0)):=by rw [ab.block _ (by simp;omega),Below.heap_alloc _ _ _ o_];exact HZ.out
     have d0:w2.cell? ⟨w.heap.size,0,none⟩=some (.int .i64 0):=h_ w2 _ 0 _ _ _ k2;have d1:w2.cell? ⟨w.heap.size,1,none⟩=some (.int .u16 0):=h_ w2 _ 1 _ _ _ k2;have d2:w2.cell? ⟨w.heap.size,2,none⟩=some (.int .u16 0):=h_ w2 _ 2 _ _ _ k2;have d3:w2.cell? ⟨w.heap.size,3,none⟩=some (.int .u16 0):=h_ w2 _ 3 _ _ _ k2;have d4:w2.cell? ⟨w.heap.size,4,none⟩=some (.int .u16 0):=h_ w2 _ 4 _ _ _ k2;have f0:=g_ w2 _ 0 _ _ k2;have f1:=g_ w2 _ 1 _ _ k2;have f2:=g_ w2 _ 2 _ _ k2;have f3:=g_ w2 _ 3 _ _ k2;have f4:=g_ w2 _ 4 _ _ k2;have al:w.heap.size<w2.heap.size:=by have:=ab.size;simp at this;omega
     clear ab k2;exact c36_
    | true=>
     have ao:=z_ (fun va W hW hH=>ap.out (l,x2) true va W HI.out.1 HI.out.2 aj hW hH);have aD:=z_ aj;obtain ⟨⟨t0,t1,t2,t3,t4⟩,aE⟩:∃ s,s=shpR true (κU U) (l,x2):=⟨_,rfl⟩;rw [← aE] at ao;have av:(t0,t1,t2,t3,t4)=shp (κU U) (l,x2):=aE;clear aj aE;cases hq:decide (((t0,t1,t2,t3,t4):Shp)=(s0,s1,s2,s3,s4)) with
     | false=>
      have aF:∀ W,(binOp .neq 179 (.agg #[.int .i64 (t0:Int),.int .u16 (t1:Int),.int .u16 (t2:Int),.int .u16 (t3:Int),.int .u16 (t4:Int)]) (.agg #[.int .i64 (s0:Int),.int .u16 (s1:Int),.int .u16 (s2:Int),.int .u16 (s3:Int),.int .u16 (s4:Int)])).run Tryz.prog W=.ok (.bool true) W:=fun W=>qn6 _ _ _ hq W
      have HR:=z_ (aA.out (.inr (fun e=>by
       have h3:=(aB.out aD.out).2 e;rw [← av,← ay.out] at h3
       simp [h3] at hq)))
      clear hq av;go_wp2_with fail
      refine (ao.out _ _ (aa.alloc o_ _) (aC.out.below n_ (b_.alloc n_ _))).mono ?_;rintro e w2 ⟨he,ab⟩;rw [qiw] at he;subst he;have ad:Below w.heap.size w w2:=(aa.alloc o_ _).trans (ab.mono (by simp;omega));have k2:w2.heap[w.heap.size]? =some (.cells #[.int .i64 0,.int .u16 0,.int .u16 0,.int .u16 0,.int .u16 0] 179 (0,0)):=by rw [ab.block _ (by simp;omega),Below.heap_alloc _ _ _ o_];exact HZ.out
      have k3:w2.heap[w1.heap.size]? =some (.cells #[.int .i64 (s0:Int),.int .u16 (s1:Int),.int .u16 (s2:Int),.int .u16 (s3:Int),.int .u16 (s4:Int)] 179 (0,0)):=by rw [ab.block _ (by simp;omega),Below.heap_alloc _ _ _ o_];exact HS.out
      have d0:w2.cell? ⟨w.heap.size,0,none⟩=some (.int .i64 0):=h_ w2 _ 0 _ _ _ k2;have d1:w2.cell? ⟨w.heap.size,1,none⟩=some (.int .u16 0):=h_ w2 _ 1 _ _ _ k2;have d2:w2.cell? ⟨w.heap.size,2,none⟩=some (.int .u16 0):=h_ w2 _ 2 _ _ _ k2;have d3:w2.cell? ⟨w.heap.size,3,none⟩=some (.int .u16 0):=h_ w2 _ 3 _ _ _ k2;have d4:w2.cell? ⟨w.heap.size,4,none⟩=some (.int .u16 0):=h_ w2 _ 4 _ _ _ k2;have f0:=g_ w2 _ 0 _ _ k2;have f1:=g_ w2 _ 1 _ _ k2;have f2:=g_ w2 _ 2 _ _ k2;have f3:=g_ w2 _ 3 _ _ k2;have f4:=g_ w2 _ 4 _ _ k2;have u0:w2.cell? ⟨w1.heap.size,0,none⟩=some (.int .i64 (s0:Int)):=h_ w2 _ 0 _ _ _ k3;have u1:w2.cell? ⟨w1.heap.size,1,none⟩=some (.int .u16 (s1:Int)):=h_ w2 _ 1 _ _ _ k3;have u2:w2.cell? ⟨w1.heap.size,2,none⟩=some (.int .u16 (s2:Int)):=h_ w2 _ 2 _ _ _ k3;have u3:w2.cell? ⟨w1.heap.size,3,none⟩=some (.int .u16 (s3:Int)):=h_ w2 _ 3 _ _ _ k3;have u4:w2.cell? ⟨w1.heap.size,4,none⟩=some (.int .u16 (s4:Int)):=h_ w2 _ 4 _ _ _ k3;have al:w.heap.size<w2.heap.size:=by have:=ab.size;simp at this;omega
      have aO:w1.heap.size<w2.heap.size:=by have:=ab.size;simp at this;omega
      clear ab k2 k3;exact c36_
     | true=>
      have aF:∀ W,(binOp .neq 179 (.agg #[.int .i64 (t0:Int),.int .u16 (t1:Int),.int .u16 (t2:Int),.int .u16 (t3:Int),.int .u16 (t4:Int)]) (.agg #[.int .i64 (s0:Int),.int .u16 (s1:Int),.int .u16 (s2:Int),.int .u16 (s3:Int),.int .u16 (s4:Int)])).run Tryz.prog W=.ok (.bool false) W:=fun W=>qn6 _ _ _ hq W
      have aP:=z_ (aI.out aD.out ((aB.out aD.out).1 (by rw [← av,← ay.out];exact of_decide_eq_true hq)));clear hq av;go_wp2_with fail
      refine (ao.out _ _ (aa.alloc o_ _) (aC.out.below n_ (b_.alloc n_ _))).mono ?_;rintro e w2 ⟨he,ab⟩;rw [qiw] at he;subst he;have ad:Below w.heap.size w w2:=(aa.alloc o_ _).trans (ab.mono (by simp;omega));have k2:w2.heap[w.heap.size]? =some (.cells #[.int .i64 0,.int .u16 0,.int .u16 0,.int .u16 0,.int .u16 0] 179 (0,0)):=by rw [ab.block _ (by simp;omega),Below.heap_alloc _ _ _ o_];exact HZ.out
      have k3:w2.heap[w1.heap.size]? =some (.cells #[.int .i64 (s0:Int),.int .u16 (s1:Int),.int .u16 (s2:Int),.int .u16 (s3:Int),.int .u16 (s4:Int)] 179 (0,0)):=by rw [ab.block _ (by simp;omega),Below.heap_alloc _ _ _ o_];exact HS.out
      have aQ:=z_ k2;have aR:=z_ k3;have u0:w2.cell? ⟨w1.heap.size,0,none⟩=some (.int .i64 (s0:Int)):=h_ w2 _ 0 _ _ _ k3;have u1:w2.cell? ⟨w1.heap.size,1,none⟩=some (.int .u16 (s1:Int)):=h_ w2 _ 1 _ _ _ k3;have u2:w2.cell? ⟨w1.heap.size,2,none⟩=some (.int .u16 (s2:Int)):=h_ w2 _ 2 _ _ _ k3;have u3:w2.cell? ⟨w1.heap.size,3,none⟩=some (.int .u16 (s3:Int)):=h_ w2 _ 3 _ _ _ k3;have u4:w2.cell? ⟨w1.heap.size,4,none⟩=some (.int .u16 (s4:Int)):=h_ w2 _ 4 _ _ _ k3;have aO:w1.heap.size<w2.heap.size:=by have:=ab.size;simp at this;omega
      clear ab k2 k3;go_wp2;go_roundw
      case rel=>
       refine ⟨k+1,by omega,by go_num,aP,z_ ?_,z_ ?_,by simp;omega,ad.alloc o_ _⟩
       ·rw [Below.heap_alloc _ _ _ o_];exact aQ.out
       ·rw [Below.heap_alloc _ _ _ o_];exact aR.out
      case measure=>simp [intOf];omega
   ·obtain rfl:k=n-1:=o_
    have HR:Hid (r=true):=z_ (by rw [← hr];exact qhg Ac_ Ac_ (fun j hj=>an.out j Ac_));have d0:wr.cell? ⟨w.heap.size,0,none⟩=some (.int .i64 0):=h_ wr _ 0 _ _ _ HZ.out;have d1:wr.cell? ⟨w.heap.size,1,none⟩=some (.int .u16 0):=h_ wr _ 1 _ _ _ HZ.out;have d2:wr.cell? ⟨w.heap.size,2,none⟩=some (.int .u16 0):=h_ wr _ 2 _ _ _ HZ.out;have d3:wr.cell? ⟨w.heap.size,3,none⟩=some (.int .u16 0):=h_ wr _ 3 _ _ _ HZ.out;have d4:wr.cell? ⟨w.heap.size,4,none⟩=some (.int .u16 0):=h_ wr _ 4 _ _ _ HZ.out;have f0:=g_ wr _ 0 _ _ HZ.out;have f1:=g_ wr _ 1 _ _ HZ.out;have f2:=g_ wr _ 2 _ _ HZ.out;have f3:=g_ wr _ 3 _ _ HZ.out;have f4:=g_ wr _ 4 _ _ HZ.out;have u0:wr.cell? ⟨w1.heap.size,0,none⟩=some (.int .i64 (s0:Int)):=h_ wr _ 0 _ _ _ HS.out;have u1:wr.cell? ⟨w1.heap.size,1,none⟩=some (.int .u16 (s1:Int)):=h_ wr _ 1 _ _ _ HS.out;have u2:wr.cell? ⟨w1.heap.size,2,none⟩=some (.int .u16 (s2:Int)):=h_ wr _ 2 _ _ _ HS.out;have u3:wr.cell? ⟨w1.heap.size,3,none⟩=some (.int .u16 (s3:Int)):=h_ wr _ 3 _ _ _ HS.out;have u4:wr.cell? ⟨w1.heap.size,4,none⟩=some (.int .u16 (s4:Int)):=h_ wr _ 4 _ _ _ HS.out;have al:w.heap.size<wr.heap.size:=o_;clear hr;go_wp2;refine bodyPost_ret (v:=.tuple #[shv (s0,s1,s2,s3,s4),.bool true]) (by simp [results,Tryz.results217,go_sem,shv,d0,d1,d2,d3,d4]) rfl ⟨by rw [HR.out,ay.out];rfl,?_⟩;repeat (first|refine Below.setCell ?_ Ab_ _|refine Below.alloc ?_ Ab_ _)
    exact aa
end sigj

namespace sigk
set_option maxRecDepth 20000
open mem split subs sortp sorti rowl sigm sigs sigi sigj
def RS:qhq Shp:=fun _ _ cs s=>cs=shcs s
theorem qg1:Steady RS:=⟨fun h _=>h,fun h _=>h⟩
instance:Inhabited Shp:=⟨zsh⟩
abbrev HasT (w:World)(v:Value)(S:List Shp):Prop:=HasR RS 5 0 w v S
theorem qll{A:Option Addr}{c:Nat}{S:List Shp}(h:HasT w (.slice A n c) S)(hj:j<n):
  ∃ g o,A=some ⟨g,o,none⟩∧g<w.heap.size∧w.cell? ⟨g,o+j*5,none⟩=some (.int .i64 ((S.getD j default).1:Int))∧w.cell? ⟨g,o+j*5+1,none⟩=some (.int .u16 ((S.getD j default).2.1:Int))∧
   w.cell? ⟨g,o+j*5+2,none⟩=some (.int .u16 ((S.getD j default).2.2.1:Int))∧w.cell? ⟨g,o+j*5+3,none⟩=some (.int .u16 ((S.getD j default).2.2.2.1:Int))∧w.cell? ⟨g,o+j*5+4,none⟩=some (.int .u16 ((S.getD j default).2.2.2.2:Int)):=by
 obtain ⟨g,o,cs,e,_,hg,hc,hr⟩:=h.get hj;have hr:cs=shcs (S.getD j default):=hr;subst hr;exact ⟨g,o,e,hg,hc 0 o_,hc 1 o_,hc 2 o_,hc 3 o_,hc 4 o_⟩
theorem qC9:∀ (S:List Shp) (j:Nat),j<S.length→∀ i,i<5→(S.flatMap shcs)[j*5+i]? =some ((shcs (S.getD j default)).getD i undef)
 | [],_,h,_,_=>by simp at h
 | s::S,0,_,i,hi=>by
  have hl:(shcs s).length=5:=rfl;rw [List.flatMap_cons,Nat.zero_mul,Nat.zero_add,List.getElem?_append_left o_];simp [List.getD,List.getElem?_eq_getElem (show i<(shcs s).length by omega)]
 | s::S,j+1,h,i,hi=>by
  have hl:(shcs s).length=5:=rfl;rw [List.flatMap_cons,List.getElem?_append_right o_,show (j+1)*5+i-(shcs s).length=j*5+i by omega,qC9 S j Bg_ i hi];simp
theorem HasT.of_own {w:World}{base n:Nat}{e:TypeId}{v:Value}{S:List Shp}(h:w.ownsRow base e 5 v n (S.flatMap shcs))(hS:S.length=n):HasT w v S:=
 (HasR.of_own (R:=RS) h hS (fun j hj=>⟨_,qC9 S j o_,rfl⟩)).mono qg1 y_
def qn8 (a c:Bool)(u:Int)(s:Shp):Bool:=if a || decide (u≠0) then decide (s=(2,s.2.1,s.2.1,0,s.2.1)) else (!c || decide (s=(2,s.2.1,s.2.1,0,s.2.2.2.2)))
def qlm (u:Int)(s:Shp)(S:List Shp):Bool:=decide (u=0) || (decide (0≤u∧u≤S.length)&&decide (S.getD (u.toNat-1) default=(0,0,0,0,s.2.2.2.2)))
theorem qy9{o:OpM}(h:okD n (hd0 o.decls)=true):qn8 o.ass o.com o.unt (shp κ (hd0 o.decls))=qdf κ o:=by
 have h1:=(qaj h).1;unfold qn8 qdf shp ar a0 a1 rs;generalize (hd0 o.decls).2=x
 generalize (hd0 o.decls).1=L at h1
 match L,h1 with
 | [],_=>cases o.ass<;>cases o.com<;>by_cases hu:o.unt=0<;>simp [hu]
 | [a],_=>cases o.ass<;>cases o.com<;>by_cases hu:o.unt=0<;>simp [hu]
 | [a,b],_=>cases o.ass<;>cases o.com<;>by_cases hu:o.unt=0<;>simp [hu,pl]<;>(first|done|omega|(rw [Bool.eq_iff_iff];simp;omega))
 | [a,b,c],_=>cases o.ass<;>cases o.com<;>by_cases hu:o.unt=0<;>simp [hu]
 | _::_::_::_::_,h=>simp at h
def shps (κ:Int→Nat)(O:List OpM):List Shp:=O.map fun o=>shp κ (hd0 o.decls)
theorem qg2 (κ:Int→Nat)(O:List OpM):(shps κ O).length=O.length:=by simp [shps]
theorem qg3 (κ:Int→Nat)(O:List OpM)(k:Nat)(h:k<O.length):(shps κ O).getD k default=shp κ (hd0 (O.getD k default).decls):=by
 simp [shps,List.getD,List.getElem?_eq_getElem h]
theorem qya{o:OpM}:qlm o.unt (shp κ (hd0 o.decls)) (shps κ O)=qe4 κ O o:=by
 unfold qlm qe4;rw [qg2];by_cases h0:o.unt=0
 ·simp [h0]
 by_cases h1:0≤o.unt∧o.unt≤O.length
 ·have hk:o.unt.toNat-1<O.length:=o_
  rw [qg3 κ O _ hk];have e:O.getD (o.unt.toNat-1) default=qc7 O o:=rfl;rw [e];have e2:decide (shp κ (hd0 (qc7 O o).decls)=(0,0,0,0,(shp κ (hd0 o.decls)).2.2.2.2))=(decide (ar (qc7 O o)=0)&&decide (κ (rs (qc7 O o))=κ (rs o))):=by
   rw [← Bool.decide_and,decide_eq_decide];simp only [shp,ar,rs,Prod.mk.injEq];constructor
   ·rintro ⟨h,_,_,_,h2⟩;exact ⟨h,h2⟩
   ·rintro ⟨h,h2⟩
    exact ⟨h,by rw [pl,if_neg o_],by rw [pl,if_neg o_],by rw [pl,if_neg o_],h2⟩
  rw [e2];simp [h0,h1]
 ·simp [h0,h1]
theorem quw:(Tryz.prog.info? 9).map (fun i=>(i.zero,i.size,i.bytes))=some (some (.string .empty),1,16):=by kernel_rfl
theorem qjy (P Q:List (List UInt8)):ssv (P++Q)=ssv P++ssv Q:=by simp [ssv]
theorem qln (O:List OpM)(k:Nat)(h:k<O.length):nms (O.take (k+1))=nms (O.take k)++[(O.getD k default).name]:=by
 have e:O.getD k default=O[k]:=by simp [List.getD,List.getElem?_eq_getElem h]
 rw [e,List.take_succ_eq_append_getElem h,nms,List.map_append];rfl
theorem c37_{p:Prop}(h:p:=by
 repeat (first|exact Below.refl _ _|refine Below.setCell ?_ (by simp) _|refine Below.alloc ?_ (by simp) _)
):p:=h
theorem qp3 (O:List OpM)(hO:O.length≤14)(v:Value)(w:World)(h:HasO lo w v O):
  Calls Tryz.prog 171 #[v] w fun e w'=>∃ v',e=.returned v'∧Has w' v' (ssv (nms O))∧Below w.heap.size w w':=by
 obtain ⟨n,hn⟩:=e_ (O.length);obtain ⟨A,c,rfl,h⟩:=HasR.shape h hn.symm;obtain ⟨i0,hi,ah,ai,aj⟩:=info_parts quw;have hl:=h.len.2.1;have HH:=z_ h;have HN:=z_ hn;rw [← hn] at hO;clear h hn;go_enter Tryz.func171,Tryz.ntmps171
 go_wp2_with (at_make;refine wpList_make_own _ rfl _ _ 22 rfl w.heap.size 9 i0 _ 1 Tryz.underlying22 hi ah ai _ _ _ n rfl rfl (by go_num) (by rw [aj];omega) Aa_ n_ ?_)
 intro w1 hown ad;have ap:Below w.heap.size w w1:=(Below.refl w.heap.size w).grown ad n_ Be_;clear ad;go_wp2;go_loopw [3,11] (fun v i wr=>∃ k:Nat,k≤n∧i=.int .i64 k∧wr.ownsRow w.heap.size 9 1 v k (ssv (nms (O.take k)))∧Below w.heap.size w wr) (fun _ i _=>n-(intOf i).toNat)
 case atStart=>exact ⟨0,y_,rfl,hown,ap⟩
 case round=>
  obtain ⟨k,hk,rfl,ab,aa⟩:=hrel;clear hown;have HO:=z_ (qb7 ab);by_cases aq:k<n
  ·obtain ⟨g,o,A2,c2,rfl,_,hg,ak,al,am,an,ao,hh,_,_⟩:=qcm HH.out aq
   have kw:∀ x,w.cell? ⟨g,x,none⟩=wr.cell? ⟨g,x,none⟩:=fun x=>(aa.cell (p:=⟨g,x,none⟩) hg).symm
   rw [kw] at ak al am an ao;have HB:=z_ (qln O k Ac_);obtain ⟨⟨nm,D,a,b,u⟩,hd⟩:∃ d,d=O.getD k default:=⟨_,rfl⟩;rw [← hd] at ak al am an ao HB;have ag:=z_ ab;clear hh hd ab kw;go_wp2_with (at_builtin;refine wpList_append_own _ rfl _ _ 22 rfl w.heap.size 9 i0 _ 1 16 Tryz.underlying22 hi ah ai aj rfl (by decide) _ _ _ rfl (own_below ag.out ?_) ⟨wr.heap.size+1,0,none⟩ 1 1 [.string (bstr nm)] rfl rfl ?_ (qgn _ rfl) Aa_ o_ An_ ?_)
   ·exact c37_
   intro v2 w2 ae ac _;have au:Below w.heap.size w w2:=Below.grown (w:=_) (by repeat (first|exact aa|refine Below.alloc ?_ Ap_ _)) ac An_ HO.out;have af:w2.ownsRow w.heap.size 9 1 v2 (k+1) (ssv (nms (O.take (k+1)))):=by
    rw [HB.out,qjy];exact ae
   clear ae ac aa;go_wp2;go_roundw
   case rel=>exact ⟨k+1,by omega,by go_num,af,au⟩
   case measure=>simp [intOf];omega
  ·obtain rfl:k=n:=o_
   go_wp2;go_ret;refine ⟨_,rfl,?_,aa⟩;have h1:=Has.of_own ab;rw [List.take_of_length_le Ac_] at h1;exact h1
theorem qjs (κ:Int→Nat)(O:List OpM)(k:Nat)(h:k<O.length):shps κ (O.take (k+1))=shps κ (O.take k)++[shp κ (hd0 (O.getD k default).decls)]:=by
 have e:O.getD k default=O[k]:=by simp [List.getD,List.getElem?_eq_getElem h]
 rw [e,List.take_succ_eq_append_getElem h,shps,List.map_append];rfl
theorem qyb (s:Shp):∀ x∈shcs s,x.oneCell'=true:=by
 intro x hx;simp [shcs] at hx;rcases hx with rfl|rfl|rfl|rfl|rfl<;>rfl
theorem qsm (w:World)(a b c d e:Value)(t:TypeId):∀ (j:Nat) (x:Value),[a,b,c,d,e][j]? =some x→(w.alloc (.cells #[a,b,c,d,e] t)).cell? ((⟨w.heap.size,0,none⟩:Addr).add j)=some x:=by
 intro j x hj;match j,hj with
 | 0,hj=>simp at hj;subst hj;simp [Addr.add]
 | 1,hj=>simp at hj;subst hj;simp [Addr.add]
 | 2,hj=>simp at hj;subst hj;simp [Addr.add]
 | 3,hj=>simp at hj;subst hj;simp [Addr.add]
 | 4,hj=>simp at hj;subst hj;simp [Addr.add]
theorem qk5:(Tryz.prog.info? 179).map (fun i=>(i.zero,i.size,i.bytes))=some (some (.agg #[.int .i64 0,.int .u16 0,.int .u16 0,.int .u16 0,.int .u16 0]),5,16):=by kernel_rfl
set_option maxHeartbeats 1000000 in
theorem qhh (U:List Nat)(hU:Lim U)(O:List OpM)(hO:O.length≤14)(r:Bool)(hr:(O.all fun o=>qaf U.length (κU U) o.decls)=r)(v mv:Value)(w:World)(h:HasO lo w v O)(hM:MapU w mv U):
  Calls Tryz.prog 172 #[v,mv] w fun e w'=>∃ v',e=.returned (.tuple #[v',.bool r])∧(r=true→HasT w' v' (shps (κU U) O))∧(r=false→v'=.slice none 0 0)∧Below w.heap.size w w':=by
 have ap:Hid (∀ (D:List (List Int×Int)) (r:Bool) (va:Value) (W:World),qaf U.length (κU U) D=r→Below w.heap.size w W→HasD lo W va D→
   Calls Tryz.prog 217 #[va,mv] W fun e w'=>e=.returned (.tuple #[shv (shpR r (κU U) (hd0 D)),.bool r])∧Below W.heap.size W w'):=
  z_ (fun D r va W hr hW hH=>qix U hU D r hr va mv W hH (hM.below hW))
 obtain ⟨n,hn⟩:=e_ (O.length);obtain ⟨A,c,rfl,h⟩:=HasR.shape h hn.symm;obtain ⟨i0,hi,aq,au,av⟩:=info_parts qk5;have hl:=h.len.2.1;have HH:=z_ h;have HN:=z_ hn;rw [← hn] at hO;clear h hn hM;go_enter Tryz.func172,Tryz.ntmps172
 go_wp2_with (at_make;refine wpList_make_own _ rfl _ _ 172 rfl w.heap.size 179 i0 _ 5 Tryz.underlying172 hi aq au _ _ _ n rfl rfl (by go_num) (by rw [av];omega) Aa_ n_ ?_)
 intro w1 hown ae;have aE:Below w.heap.size w w1:=(Below.refl w.heap.size w).grown ae n_ Be_;clear ae;go_wp2;go_loopw [6,16] (fun v i wr=>∃ k:Nat,k≤n∧i=.int .i64 k∧Hid (∀ j,j<k→qaf U.length (κU U) (O.getD j default).decls=true)∧wr.ownsRow w.heap.size 179 5 v k ((shps (κU U) (O.take k)).flatMap shcs)∧Below w.heap.size w wr) (fun _ i _=>n-(intOf i).toNat)
 case atStart=>exact ⟨0,y_,rfl,z_ (fun j hj=>by omega),hown,aE⟩
 case round=>
  obtain ⟨k,hk,rfl,ak,ac,aa⟩:=hrel;clear hown;by_cases aF:k<n
  ·obtain ⟨g,o,A2,c2,rfl,_,hg,aw,ax,ay,az,aA,hh,_,_⟩:=qcm HH.out aF
   have kw:∀ x,w.cell? ⟨g,x,none⟩=wr.cell? ⟨g,x,none⟩:=fun x=>(aa.cell (p:=⟨g,x,none⟩) hg).symm
   rw [kw] at aw ax ay az aA;have an:=hh.below qa6 n_ aa;have HB:=z_ (qjs (κU U) O k Ac_)
   have al:Hid (qaf U.length (κU U) (O.getD k default).decls=false→r=false):=z_ (fun hb=>by
    rw [← hr,List.all_eq_false];have aB:k<O.length:=by have:=HN.out;omega
    refine ⟨O[k],List.getElem_mem aB,?_⟩;have e:O.getD k default=O[k]:=by simp [List.getD,List.getElem?_eq_getElem aB]
    rw [← e,hb];simp)
   have af:Hid (qaf U.length (κU U) (O.getD k default).decls=true→∀ j,j<k+1→qaf U.length (κU U) (O.getD j default).decls=true):=z_ (fun hb j hj=>by
    by_cases e:j=k
    ·subst e;exact hb
    ·exact ak.out j o_)
   obtain ⟨⟨nm,D,a,b,u⟩,hd⟩:∃ d,d=O.getD k default:=⟨_,rfl⟩;rw [← hd] at aw ax ay az aA HB al af an;have aC:=z_ an;have ao:=z_ ac;clear hh hd ac kw an hr;cases ai:qaf U.length (κU U) D with
   | false=>
    have HR:=z_ (al.out ai);have HC:=z_ (fun va W hW hH=>ap.out D false va W ai hW hH);clear ai;go_wp2_with fail
    refine (HC.out _ _ (aa.alloc aa.size _) (aC.out.below qa6 n_ (b_.alloc n_ _))).mono ?_;rintro e w2 ⟨he,aj⟩;rw [shpR,if_neg (by simp),zsh,qiw] at he;subst he;have ab:Below w.heap.size w w2:=(aa.alloc aa.size _).trans (aj.mono An_);clear aj;go_wp2;refine bodyPost_ret (v:=.tuple #[.slice none 0 0,.bool false]) (by simp [results,Tryz.results172,go_sem]) rfl ?_;exact ⟨_,by rw [HR.out],fun e=>(by rw [HR.out] at e;cases e),fun _=>rfl,ab.alloc ab.size _⟩
   | true=>
    have HC:=z_ (fun va W hW hH=>ap.out D true va W ai hW hH);have HG:=z_ (af.out ai);obtain ⟨s,hs⟩:=e_ (shpR true (κU U) (hd0 D));rw [← hs] at HC;have aD:s=shp (κU U) (hd0 D):=hs;have aG:Hid (shps (κU U) (O.take (k+1))=shps (κU U) (O.take k)++[s]):=z_ (by rw [aD];exact HB.out);obtain ⟨s0,s1,s2,s3,s4⟩:=s;clear ai hs aD;go_wp2_with fail
    refine (HC.out _ _ (aa.alloc aa.size _) (aC.out.below qa6 n_ (b_.alloc n_ _))).mono ?_;rintro e w2 ⟨he,aj⟩;rw [qiw] at he;subst he;have ab:Below w.heap.size w w2:=(aa.alloc aa.size _).trans (aj.mono An_);have ag:=z_ (own_below (own_below ao.out (b_.alloc n_ _)) aj);have HO:=z_ (qb7 ag.out);clear aj;go_wp2_with (at_builtin;refine wpList_append_own _ rfl _ _ 172 rfl w.heap.size 179 i0 _ 5 16 Tryz.underlying172 hi aq au av rfl (by decide) _ _ _ rfl (own_below ag.out ?_) ⟨w2.heap.size+1,0,none⟩ 1 1 (shcs (s0,s1,s2,s3,s4)) rfl rfl ?_ (qyb _) Aa_ o_ (by have:=ab.size;simp;omega) ?_)
    ·exact c37_
    ·intro j y hj
     have:=qsm (w2.alloc (.cells #[.int .i64 (s0:Int),.int .u16 (s1:Int),.int .u16 (s2:Int),.int .u16 (s3:Int),.int .u16 (s4:Int)] 179)) _ _ _ _ _ 179 j y hj;simpa using this
    intro v2 w3 ah ad _;have aH:Below w.heap.size w w3:=Below.grown (w:=_) (by repeat (first|exact ab|refine Below.alloc ?_ (by first|exact ab.size|(have:=ab.size;simp;omega)) _)) ad (by have:=ab.size;simp;omega) HO.out;have am:w3.ownsRow w.heap.size 179 5 v2 (k+1) ((shps (κU U) (O.take (k+1))).flatMap shcs):=by
     rw [aG.out,List.flatMap_append];simpa using ah
    clear ah ad aa ab;go_wp2;go_roundw
    case rel=>exact ⟨k+1,by omega,by go_num,HG,am,aH⟩
    case measure=>simp [intOf];omega
  ·obtain rfl:k=n:=o_
   have HR:Hid (r=true):=z_ (by
    rw [← hr,List.all_eq_true];intro o ho;obtain ⟨j,hj,rfl⟩:=List.getElem_of_mem ho;have:=ak.out j Ac_
    simpa [List.getD,List.getElem?_eq_getElem hj] using this)
   obtain ⟨A5,c5,rfl,_⟩:=qaz ac;go_wp2;refine bodyPost_ret (v:=.tuple #[.slice A5 k c5,.bool true]) (by simp [results,Tryz.results172,go_sem]) rfl ?_;refine ⟨_,by rw [HR.out],fun _=>?_,fun e=>(by rw [HR.out] at e;cases e),aa⟩;rw [List.take_of_length_le Ac_] at ac;exact HasT.of_own ac (by rw [qg2];exact HN.out.symm)
end sigk

namespace sigq
set_option maxRecDepth 20000
set_option maxHeartbeats 2000000
open mem subs setm sortp sorti rowl sigm sigs sigi sigk
theorem qn9{a0 a1:Value}(h:(w0.cell? ⟨g,o,none⟩=some a0∧w0.cell? ⟨g,o+1,none⟩=some a1∧w0.cell? ⟨g,o+2,none⟩=some a2∧w0.cell? ⟨g,o+3,none⟩=some a3∧w0.cell? ⟨g,o+4,none⟩=some a4)∧Below wr.heap.size wr w0)(hp:g<wr.heap.size)(hb:Below w0.heap.size w0 w1):
  (w1.cell? ⟨g,o,none⟩=some a0∧w1.cell? ⟨g,o+1,none⟩=some a1∧w1.cell? ⟨g,o+2,none⟩=some a2∧w1.cell? ⟨g,o+3,none⟩=some a3∧w1.cell? ⟨g,o+4,none⟩=some a4)∧Below wr.heap.size wr w1:=by
 have hs:=h.2.size;have k:∀ x,w1.cell? ⟨g,x,none⟩=w0.cell? ⟨g,x,none⟩:=fun x=>hb.cell (p:=⟨g,x,none⟩) (by show g<_;omega)
 rw [k,k,k,k,k];exact ⟨h.1,h.2.trans (hb.mono hs)⟩
theorem ql7{b a0 a1:Value}(h:(w0.cell? ⟨g',o',none⟩=some b∧w0.cell? ⟨g,o,none⟩=some a0∧w0.cell? ⟨g,o+1,none⟩=some a1∧w0.cell? ⟨g,o+2,none⟩=some a2∧w0.cell? ⟨g,o+3,none⟩=some a3∧w0.cell? ⟨g,o+4,none⟩=some a4)∧Below wr.heap.size wr w0)(hp:g<wr.heap.size∧g'<wr.heap.size)(hb:Below w0.heap.size w0 w1):
  (w1.cell? ⟨g',o',none⟩=some b∧w1.cell? ⟨g,o,none⟩=some a0∧w1.cell? ⟨g,o+1,none⟩=some a1∧w1.cell? ⟨g,o+2,none⟩=some a2∧w1.cell? ⟨g,o+3,none⟩=some a3∧w1.cell? ⟨g,o+4,none⟩=some a4)∧Below wr.heap.size wr w1:=by
 have hs:=h.2.size;have k:∀ x,w1.cell? ⟨g,x,none⟩=w0.cell? ⟨g,x,none⟩:=fun x=>hb.cell (p:=⟨g,x,none⟩) (by show g<_;omega)
 rw [k,k,k,k,k,hb.cell (p:=⟨g',o',none⟩) Am_];exact ⟨h.1,h.2.trans (hb.mono hs)⟩
theorem j10_{p:Prop}(h:p:=by
 go_wp2;have hh:Below W2.heap.size W2 w3:=by go_split_ands;assumption
 go_ret;exact ⟨rfl,aa.trans (hh.mono aa.size)⟩
):p:=h
theorem c38_{p:Prop}(h:p:=by
 have aa:Below w.heap.size w W2:=by rw [← hW];exact (b_.alloc n_ _).alloc (by simp) _
 have hz:w.heap.size+1<W2.heap.size:=by rw [← hW];simp
 have k1:W2.heap[w.heap.size+1]? =some (.cells #[.int .i64 (s0:Int),.int .u16 (s1:Int),.int .u16 (s2:Int),.int .u16 (s3:Int),.int .u16 (s4:Int)] 179 (0,0)):=by rw [← hW];exact qa5 _ _ _ (by simp)
 have c0:=h_ W2 _ 0 _ _ _ k1;have c1:=h_ W2 _ 1 _ _ _ k1;have c2:=h_ W2 _ 2 _ _ _ k1;have c3:=h_ W2 _ 3 _ _ _ k1;have c4:=h_ W2 _ 4 _ _ _ k1;clear hW k1
 go_region_held3 (fun w'=>(w'.cell? ⟨w.heap.size+1,0,none⟩=some (.int .i64 (s0:Int))∧w'.cell? ⟨w.heap.size+1,1,none⟩=some (.int .u16 (s1:Int))∧w'.cell? ⟨w.heap.size+1,2,none⟩=some (.int .u16 (s2:Int))∧w'.cell? ⟨w.heap.size+1,3,none⟩=some (.int .u16 (s3:Int))∧w'.cell? ⟨w.heap.size+1,4,none⟩=some (.int .u16 (s4:Int)))∧Below W2.heap.size W2 w')
  (first|(refine ⟨⟨?_,?_,?_,?_,?_⟩,b_.drew⟩<;>assumption)|(go_split_ands;exact qn9 (g:=w.heap.size+1) (o:=0) ⟨⟨by assumption,by assumption,by assumption,by assumption,by assumption⟩,by assumption⟩ hz (by assumption)))
  ((go_at_call 236;go_split_ands;refine (ad.out _ _ _).mono ?_;rintro e w3 ⟨rfl,ae⟩))
 exact j10_
):p:=h
theorem qdg (l:List UInt8)(A:Option Addr)(n ca:Nat)(a c:Bool)(u:Int)(s0 s1 s2 s3 s4:Nat)(r:Bool)(hr:qn8 a c u (s0,s1,s2,s3,s4)=r)(w:World):
  Calls Tryz.prog 218 #[.agg #[.string (bstr l),.slice A n ca,.bool a,.bool c,.int .i64 u],.agg #[.int .i64 (s0:Int),.int .u16 (s1:Int),.int .u16 (s2:Int),.int .u16 (s3:Int),.int .u16 (s4:Int)]] w
   fun e w'=>e=.returned (.bool r)∧Below w.heap.size w w':=by
 have ac:∀ (t:Nat) (q:Bool),decide (((s0,s1,s2,s3,s4):Shp)=(2,s1,s1,0,t))=q→∀ W,(binOp .eql 179 (.agg #[.int .i64 (s0:Int),.int .u16 (s1:Int),.int .u16 (s2:Int),.int .u16 (s3:Int),.int .u16 (s4:Int)]) (.agg #[.int .i64 2,.int .u16 (s1:Int),.int .u16 (s1:Int),.int .u16 0,.int .u16 (t:Int)])).run Tryz.prog W=.ok (.bool q) W:=
  fun t q hq W=>qn5 _ (2,s1,s1,0,t) _ hq W
 have HC:=z_ ac;clear ac;have ad:Hid (∀ (a b:Nat) (W:World),Calls Tryz.prog 236 #[.int .u16 (a:Int),.int .u16 (b:Int)] W fun e w'=>e=.returned (.agg #[.int .i64 2,.int .u16 (a:Int),.int .u16 (a:Int),.int .u16 0,.int .u16 (b:Int)])∧Below W.heap.size W w'):=z_ (fun a b W=>qjr a b W);by_cases ab:a=true∨u≠0
 ·have HR:Hid (decide (((s0,s1,s2,s3,s4):Shp)=(2,s1,s1,0,s1))=r):=z_ (by
   rw [← hr,qn8]
   rw [if_pos (by rcases ab with h|h<;>simp [h])])
  have hq:=HC.out s1 r HR.out;clear hr;cases a with
  | true=>
   clear ab;go_enter Tryz.func218,Tryz.ntmps218
   go_wp2_with fail
   generalize hW:((w.alloc (.cells #[.string (bstr l),.slice A n ca,.bool true,.bool c,.int .i64 u] 124)).alloc (.cells #[.int .i64 (s0:Int),.int .u16 (s1:Int),.int .u16 (s2:Int),.int .u16 (s3:Int),.int .u16 (s4:Int)] 179))=W2
   exact c38_
  | false=>
   have hu:(u != 0)=true:=by simpa using ab
   clear ab;go_enter Tryz.func218,Tryz.ntmps218
   go_wp2_with fail
   generalize hW:((w.alloc (.cells #[.string (bstr l),.slice A n ca,.bool false,.bool c,.int .i64 u] 124)).alloc (.cells #[.int .i64 (s0:Int),.int .u16 (s1:Int),.int .u16 (s2:Int),.int .u16 (s3:Int),.int .u16 (s4:Int)] 179))=W2
   exact c38_
 ·have ha:a=false:=by cases a<;>simp_all
  have hu:u=0:=by
   by_cases h:u=0
   ·exact h
   ·exact absurd (Or.inr h) ab
  subst ha hu;clear ab;cases c with
  | false=>
   have HR:Hid (r=true):=z_ (by rw [← hr,qn8];simp);clear hr;go_enter Tryz.func218,Tryz.ntmps218
   go_wp2;go_quiet (fail)
   go_wp2;go_ret;exact ⟨qa0 HR.out.symm,qa3 ((b_.alloc n_ _).alloc (by simp) _) _⟩
  | true=>
   have HR:Hid (decide (((s0,s1,s2,s3,s4):Shp)=(2,s1,s1,0,s4))=r):=z_ (by rw [← hr,qn8];simp);have hq:=HC.out s4 r HR.out;clear hr;go_enter Tryz.func218,Tryz.ntmps218
   go_wp2_with fail
   generalize hW:((w.alloc (.cells #[.string (bstr l),.slice A n ca,.bool false,.bool true,.int .i64 0] 124)).alloc (.cells #[.int .i64 (s0:Int),.int .u16 (s1:Int),.int .u16 (s2:Int),.int .u16 (s3:Int),.int .u16 (s4:Int)] 179))=W2
   have aa:Below w.heap.size w W2:=by rw [← hW];exact (b_.alloc n_ _).alloc (by simp) _
   have hz:w.heap.size+1<W2.heap.size:=by rw [← hW];simp
   have k1:W2.heap[w.heap.size+1]? =some (.cells #[.int .i64 (s0:Int),.int .u16 (s1:Int),.int .u16 (s2:Int),.int .u16 (s3:Int),.int .u16 (s4:Int)] 179 (0,0)):=by rw [← hW];exact qa5 _ _ _ (by simp)
   have b3:W2.cell? ⟨w.heap.size,3,none⟩=some (.bool true):=by rw [← hW];simp
   have c0:=h_ W2 _ 0 _ _ _ k1;have c1:=h_ W2 _ 1 _ _ _ k1;have c2:=h_ W2 _ 2 _ _ _ k1;have c3:=h_ W2 _ 3 _ _ _ k1;have c4:=h_ W2 _ 4 _ _ _ k1;clear hW k1
   go_region_held3 (fun w'=>(w'.cell? ⟨w.heap.size,3,none⟩=some (.bool true)∧w'.cell? ⟨w.heap.size+1,0,none⟩=some (.int .i64 (s0:Int))∧w'.cell? ⟨w.heap.size+1,1,none⟩=some (.int .u16 (s1:Int))∧w'.cell? ⟨w.heap.size+1,2,none⟩=some (.int .u16 (s2:Int))∧w'.cell? ⟨w.heap.size+1,3,none⟩=some (.int .u16 (s3:Int))∧w'.cell? ⟨w.heap.size+1,4,none⟩=some (.int .u16 (s4:Int)))∧Below W2.heap.size W2 w')
    (first|(refine ⟨⟨?_,?_,?_,?_,?_,?_⟩,b_.drew⟩<;>assumption)|(go_split_ands;exact ql7 (g:=w.heap.size+1) (o:=0) (g':=w.heap.size) ⟨⟨by assumption,by assumption,by assumption,by assumption,by assumption,by assumption⟩,by assumption⟩ ⟨hz,by omega⟩ (by assumption)))
    ((go_at_call 236;go_split_ands;refine (ad.out _ _ _).mono ?_;rintro e w3 ⟨rfl,ae⟩))
   exact j10_
theorem j11_{p:Prop}(h:p:=by
 go_enter Tryz.func219,Tryz.ntmps219
 go_wp2;go_ret;exact ⟨qa0 HR.out.symm,(b_.alloc n_ _).alloc (by simp) _⟩
):p:=h
theorem c39_{p:Prop}(h:p:=by
 have HR:Hid (r=false):=z_ (by rw [← hr,qlm];simp [h0];omega);clear hr h hm;exact j11_
):p:=h
theorem qhi (l:List UInt8)(A:Option Addr)(n ca:Nat)(a c:Bool)(u:Int)(hu:I64 u)(s0 s1 s2 s3 s4:Nat)(S:List Shp)(r:Bool)(hr:qlm u (s0,s1,s2,s3,s4) S=r)(vT:Value)(w:World)(h:HasT w vT S):
  Calls Tryz.prog 219 #[.agg #[.string (bstr l),.slice A n ca,.bool a,.bool c,.int .i64 u],.agg #[.int .i64 (s0:Int),.int .u16 (s1:Int),.int .u16 (s2:Int),.int .u16 (s3:Int),.int .u16 (s4:Int)],vT] w
   fun e w'=>e=.returned (.bool r)∧Below w.heap.size w w':=by
 obtain ⟨m,hm⟩:=e_ (S.length);obtain ⟨B,cb,rfl,h⟩:=HasR.shape h hm.symm;have hl:=h.len.2.1;obtain ⟨ad,ae⟩:=hu;by_cases h0:u=0
 ·have HR:Hid (r=true):=z_ (by rw [← hr,qlm];simp [h0])
  clear hr h hm;subst h0;exact j11_
 have af:(u==0)=false:=by simpa using h0
 by_cases aa:u<0
 ·exact c39_
 by_cases ab:(m:Int)<u
 ·exact c39_
 obtain ⟨k,rfl⟩:∃ k:Nat,u=(k:Int)+1:=⟨(u-1).toNat,by omega⟩;have hk:k<m:=o_
 have HR:Hid (decide (S.getD k default=(0,0,0,0,s4))=r):=z_ (by
  rw [← hr,qlm];have e:((k:Int)+1).toNat-1=k:=o_;rw [e];simp [h0];intro _
  omega)
 obtain ⟨g,o,rfl,hg,c0,c1,c2,c3,c4⟩:=qll h hk;obtain ⟨⟨t0,t1,t2,t3,t4⟩,ht⟩:∃ s,s=S.getD k default:=⟨_,rfl⟩;rw [← ht] at HR c0 c1 c2 c3 c4
 have ac:∀ W,(binOp .eql 179 (.agg #[.int .i64 (t0:Int),.int .u16 (t1:Int),.int .u16 (t2:Int),.int .u16 (t3:Int),.int .u16 (t4:Int)]) (.agg #[.int .i64 0,.int .u16 0,.int .u16 0,.int .u16 0,.int .u16 (s4:Int)])).run Tryz.prog W=.ok (.bool r) W:=
  fun W=>qn5 (t0,t1,t2,t3,t4) (0,0,0,0,s4) _ HR.out W
 clear hr h hm ht HR;go_enter Tryz.func219,Tryz.ntmps219
 go_wp2;go_quiet (fail)
 go_wp2;go_ret;exact ⟨rfl,qa3 ((b_.alloc n_ _).alloc (by simp) _) _⟩
end sigq

namespace sige
open mem subs setm sortp sorti rowl sigm sigs
theorem qp4 (L:List Int)(x:Int)(va vb:Value)(w:World)(ha:Has w va (ivs L))(hb:Has w vb (ivs L)):
  Calls Tryz.prog 203 #[.agg #[va,.int .i64 x],.agg #[vb,.int .i64 x]] w fun e w'=>e=.returned (.bool true)∧Below w.heap.size w w':=by
 have HE:=z_ (fun W hW=>intl.qAh L va vb W (ha.below n_ hW) (hb.below n_ hW));obtain ⟨A,ca,rfl,_⟩:=ha.shape (qau L);obtain ⟨B,cb,rfl,_⟩:=hb.shape (qau L);clear ha hb;go_enter Tryz.func203,Tryz.ntmps203
 go_wp2_with fail
 refine (HE.out _ ((b_.alloc n_ _).alloc (by simp) _)).mono ?_;rintro e w1 ⟨rfl,aa⟩;have ab:Below w.heap.size w w1:=((b_.alloc n_ _).alloc (by simp) _).trans (aa.mono (by simp;omega));have ac:w1.cell? ⟨w.heap.size,1,none⟩=some (.int .i64 x):=by rw [aa.cell (p:=⟨w.heap.size,1,none⟩) (by simp;omega)];simp
 have ad:w1.cell? ⟨w.heap.size+1,1,none⟩=some (.int .i64 x):=by rw [aa.cell (p:=⟨w.heap.size+1,1,none⟩) (by simp)];simp
 clear aa;go_wp2;go_ret;exact ⟨rfl,ab⟩
theorem qna (D:List (List Int×Int))(va vb:Value)(w:World)(ha:HasD lo w va D)(hb:HasD lo' w vb D):
  Calls Tryz.prog 163 #[va,vb] w fun e w'=>e=.returned (.bool true)∧Below w.heap.size w w':=by
 obtain ⟨n,hn⟩:=e_ (D.length);obtain ⟨A,ca,rfl,ha⟩:=HasR.shape ha hn.symm;obtain ⟨B,cb,rfl,hb⟩:=HasR.shape hb hn.symm;have ao:=ha.len.2.1;have HA:=z_ ha;have HB:=z_ hb;clear ha hb hn;go_enter Tryz.func163,Tryz.ntmps163
 go_wp2;go_loopw [5] (fun i wr=>∃ k:Nat,k≤n∧i=.int .i64 k∧Below w.heap.size w wr) (fun i _=>n-(intOf i).toNat)
 case atStart=>exact ⟨0,y_,rfl,Below.refl _ _⟩
 case round=>
  obtain ⟨k,hk,rfl,aa⟩:=hrel;by_cases al:k<n
  ·obtain ⟨ga,oa,A2,a2,rfl,_,ah,ai,ab,am,_,_⟩:=qbb HA.out al
   obtain ⟨gb,ob,B2,b2,rfl,_,aj,ak,ac,an,_,_⟩:=qbb HB.out al;rw [← aa.cell (p:=⟨ga,oa+k*2,none⟩) ah] at ai;rw [← aa.cell (p:=⟨ga,oa+k*2+1,none⟩) ah] at ab;rw [← aa.cell (p:=⟨gb,ob+k*2,none⟩) aj] at ak;rw [← aa.cell (p:=⟨gb,ob+k*2+1,none⟩) aj] at ac;have ad:ga<wr.heap.size:=w_ ah aa.size;have ae:gb<wr.heap.size:=w_ aj aa.size;have af:=am.has.below n_ aa;have ag:=an.has.below n_ aa;obtain ⟨⟨l,x⟩,hd⟩:∃ d,d=D.getD k default:=⟨_,rfl⟩;rw [← hd] at ai ab ak ac af ag;obtain ⟨m,hm⟩:=e_ (l.length);rw [← hm] at ai ak af ag;have HE:=z_ (fun W hW=>qp4 l x _ _ W (af.below n_ hW) (ag.below n_ hW));clear af ag am an hd hm;go_wp2_with fail
   go_region_held3 (fun w'=>(w'.cell? ⟨ga,oa+k*2,none⟩=some (.slice A2 m a2)∧w'.cell? ⟨ga,oa+k*2+1,none⟩=some (.int .i64 x)∧w'.cell? ⟨gb,ob+k*2,none⟩=some (.slice B2 m b2)∧w'.cell? ⟨gb,ob+k*2+1,none⟩=some (.int .i64 x))∧Below wr.heap.size wr w')
    (first|(refine ⟨⟨?_,?_,?_,?_⟩,b_.drew⟩<;>assumption)|(go_split_ands;exact qmo (p:=⟨ga,oa+k*2,none⟩) (q:=⟨ga,oa+k*2+1,none⟩) (r:=⟨gb,ob+k*2,none⟩) (s:=⟨gb,ob+k*2+1,none⟩) ⟨⟨by assumption,by assumption,by assumption,by assumption⟩,by assumption⟩ ⟨ad,ad,ae,ae⟩ (by assumption)))
    ((go_at_call 203;go_split_ands;refine (HE.out _ (by assumption)).mono ?_;rintro e w1 ⟨rfl,ap⟩))
   go_wp2;go_roundw
   case rel=>
    have hh:(w1.cell? ⟨ga,oa+k*2,none⟩=some (.slice A2 m a2)∧w1.cell? ⟨ga,oa+k*2+1,none⟩=some (.int .i64 x)∧w1.cell? ⟨gb,ob+k*2,none⟩=some (.slice B2 m b2)∧w1.cell? ⟨gb,ob+k*2+1,none⟩=some (.int .i64 x))∧Below wr.heap.size wr w1:=by assumption
    exact ⟨k+1,by omega,by go_num,aa.trans (hh.2.mono aa.size)⟩
   case measure=>simp [intOf];omega
  ·obtain rfl:k=n:=o_
   go_wp2;go_ret;exact ⟨rfl,aa⟩
theorem qux (l:List UInt8)(D:List (List Int×Int))(a b:Bool)(u:Int)(va vb:Value)(w:World)(ha:HasD lo w va D)(hb:HasD lo' w vb D):
  Calls Tryz.prog 103 #[.agg #[.string (bstr l),va,.bool a,.bool b,.int .i64 u],.agg #[.string (bstr l),vb,.bool a,.bool b,.int .i64 u]] w fun e w'=>e=.returned (.bool true)∧Below w.heap.size w w':=by
 have HE:=z_ (fun W hW=>qna D va vb W (ha.below qa6 n_ hW) (hb.below qa6 n_ hW));obtain ⟨A,ca,rfl,_⟩:=HasR.shape ha rfl;obtain ⟨B,cb,rfl,_⟩:=HasR.shape hb rfl;obtain ⟨n,hn⟩:=e_ (D.length);rw [← hn] at HE ⊢;clear ha hb hn;go_enter Tryz.func103,Tryz.ntmps103
 go_wp2_with fail
 refine (HE.out _ ((b_.alloc n_ _).alloc (by simp) _)).mono ?_;rintro e w1 ⟨rfl,aa⟩;have ab:Below w.heap.size w w1:=((b_.alloc n_ _).alloc (by simp) _).trans (aa.mono (by simp;omega));have a2:w1.cell? ⟨w.heap.size,2,none⟩=some (.bool a):=by rw [aa.cell (p:=⟨w.heap.size,2,none⟩) (by simp;omega)];simp
 have b2:w1.cell? ⟨w.heap.size+1,2,none⟩=some (.bool a):=by rw [aa.cell (p:=⟨w.heap.size+1,2,none⟩) (by simp)];simp
 have a3:w1.cell? ⟨w.heap.size,3,none⟩=some (.bool b):=by rw [aa.cell (p:=⟨w.heap.size,3,none⟩) (by simp;omega)];simp
 have b3:w1.cell? ⟨w.heap.size+1,3,none⟩=some (.bool b):=by rw [aa.cell (p:=⟨w.heap.size+1,3,none⟩) (by simp)];simp
 have a4:w1.cell? ⟨w.heap.size,4,none⟩=some (.int .i64 u):=by rw [aa.cell (p:=⟨w.heap.size,4,none⟩) (by simp;omega)];simp
 have b4:w1.cell? ⟨w.heap.size+1,4,none⟩=some (.int .i64 u):=by rw [aa.cell (p:=⟨w.heap.size+1,4,none⟩) (by simp)];simp
 clear aa;go_wp2;go_ret;exact ⟨rfl,ab⟩
theorem qi0{a0 a1:Value}(h:(w0.cell? ⟨g,o,none⟩=some a0∧w0.cell? ⟨g,o+1,none⟩=some a1∧w0.cell? ⟨g,o+2,none⟩=some a2∧w0.cell? ⟨g,o+3,none⟩=some a3∧w0.cell? ⟨g,o+4,none⟩=some a4∧
   w0.cell? ⟨g',o',none⟩=some b0∧w0.cell? ⟨g',o'+1,none⟩=some b1∧w0.cell? ⟨g',o'+2,none⟩=some b2∧w0.cell? ⟨g',o'+3,none⟩=some b3∧w0.cell? ⟨g',o'+4,none⟩=some b4)∧Below wr.heap.size wr w0)(hp:g<wr.heap.size∧g'<wr.heap.size)(hb:Below w0.heap.size w0 w1):
  (w1.cell? ⟨g,o,none⟩=some a0∧w1.cell? ⟨g,o+1,none⟩=some a1∧w1.cell? ⟨g,o+2,none⟩=some a2∧w1.cell? ⟨g,o+3,none⟩=some a3∧w1.cell? ⟨g,o+4,none⟩=some a4∧
   w1.cell? ⟨g',o',none⟩=some b0∧w1.cell? ⟨g',o'+1,none⟩=some b1∧w1.cell? ⟨g',o'+2,none⟩=some b2∧w1.cell? ⟨g',o'+3,none⟩=some b3∧w1.cell? ⟨g',o'+4,none⟩=some b4)∧Below wr.heap.size wr w1:=by
 have hs:=h.2.size;have k:∀ x,w1.cell? ⟨g,x,none⟩=w0.cell? ⟨g,x,none⟩:=fun x=>hb.cell (p:=⟨g,x,none⟩) (by show g<_;omega)
 have k':∀ x,w1.cell? ⟨g',x,none⟩=w0.cell? ⟨g',x,none⟩:=fun x=>hb.cell (p:=⟨g',x,none⟩) Am_
 rw [k,k,k,k,k,k',k',k',k',k'];exact ⟨h.1,h.2.trans (hb.mono hs)⟩
theorem qsn (O:List OpM)(va vb:Value)(w:World)(ha:HasO lo w va O)(hb:HasO lo' w vb O):
  Calls Tryz.prog 50 #[va,vb] w fun e w'=>e=.returned (.bool true)∧Below w.heap.size w w':=by
 obtain ⟨n,hn⟩:=e_ (O.length);obtain ⟨A,ca,rfl,ha⟩:=HasR.shape ha hn.symm;obtain ⟨B,cb,rfl,hb⟩:=HasR.shape hb hn.symm;have ax:=ha.len.2.1;have HA:=z_ ha;have HB:=z_ hb;clear ha hb hn;go_enter Tryz.func50,Tryz.ntmps50
 go_wp2;go_loopw [5] (fun i wr=>∃ k:Nat,k≤n∧i=.int .i64 k∧Below w.heap.size w wr) (fun i _=>n-(intOf i).toNat)
 case atStart=>exact ⟨0,y_,rfl,Below.refl _ _⟩
 case round=>
  obtain ⟨k,hk,rfl,aa⟩:=hrel;by_cases ap:k<n
  ·obtain ⟨ga,oa,A2,a2,rfl,_,aq,ae,af,ag,ah,ai,au,_,_⟩:=qcm HA.out ap
   obtain ⟨gb,ob,B2,b2,rfl,_,av,aj,ab,ak,al,am,aw,_,_⟩:=qcm HB.out ap;have ka:∀ x,w.cell? ⟨ga,x,none⟩=wr.cell? ⟨ga,x,none⟩:=fun x=>(aa.cell (p:=⟨ga,x,none⟩) aq).symm
   have kb:∀ x,w.cell? ⟨gb,x,none⟩=wr.cell? ⟨gb,x,none⟩:=fun x=>(aa.cell (p:=⟨gb,x,none⟩) av).symm
   rw [ka] at ae af ag ah ai;rw [kb] at aj ab ak al am;have an:ga<wr.heap.size:=w_ aq aa.size;have ao:gb<wr.heap.size:=w_ av aa.size;have ac:=au.below qa6 n_ aa;have ad:=aw.below qa6 n_ aa;obtain ⟨⟨nm,D,p,q,u⟩,hd⟩:∃ d,d=O.getD k default:=⟨_,rfl⟩;rw [← hd] at ae af ag ah ai aj ab ak al am ac ad;obtain ⟨m,hm⟩:=e_ (D.length);simp only [← hm] at ae af ag ah ai aj ab ak al am ac ad;have HE:=z_ (fun W hW=>qux nm D p q u _ _ W (ac.below qa6 n_ hW) (ad.below qa6 n_ hW));clear ac ad au aw hd hm ka kb;go_wp2_with fail
   go_region_held3 (fun w'=>(w'.cell? ⟨ga,oa+k*5,none⟩=some (.string (bstr nm))∧w'.cell? ⟨ga,oa+k*5+1,none⟩=some (.slice A2 m a2)∧w'.cell? ⟨ga,oa+k*5+2,none⟩=some (.bool p)∧w'.cell? ⟨ga,oa+k*5+3,none⟩=some (.bool q)∧w'.cell? ⟨ga,oa+k*5+4,none⟩=some (.int .i64 u)∧
     w'.cell? ⟨gb,ob+k*5,none⟩=some (.string (bstr nm))∧w'.cell? ⟨gb,ob+k*5+1,none⟩=some (.slice B2 m b2)∧w'.cell? ⟨gb,ob+k*5+2,none⟩=some (.bool p)∧w'.cell? ⟨gb,ob+k*5+3,none⟩=some (.bool q)∧w'.cell? ⟨gb,ob+k*5+4,none⟩=some (.int .i64 u))∧Below wr.heap.size wr w')
    (first|(refine ⟨⟨?_,?_,?_,?_,?_,?_,?_,?_,?_,?_⟩,b_.drew⟩<;>assumption)|(go_split_ands;exact qi0 (g:=ga) (g':=gb) ⟨⟨by assumption,by assumption,by assumption,by assumption,by assumption,by assumption,by assumption,by assumption,by assumption,by assumption⟩,by assumption⟩ ⟨an,ao⟩ (by assumption)))
    ((go_at_call 103;go_split_ands;refine (HE.out _ (by assumption)).mono ?_;rintro e w1 ⟨rfl,ab⟩))
   go_wp2;go_roundw
   case rel=>
    have hh:Below wr.heap.size wr w1:=by go_split_ands;assumption
    exact ⟨k+1,by omega,by go_num,aa.trans (hh.mono aa.size)⟩
   case measure=>simp [intOf];omega
  ·obtain rfl:k=n:=o_
   go_wp2;go_ret;exact ⟨rfl,aa⟩
theorem qhr (P:List (List UInt8))(Q:List (Int×Int))(O:List OpM)(va vb vc ab ac ad:Value)(w:World)(h:HasG w va vb vc P Q O)(h':HasG w ab ac ad P Q O):
  Calls Tryz.prog 16 #[.agg #[va,vb,vc],.agg #[ab,ac,ad]] w fun e w'=>e=.returned (.bool true)∧Below w.heap.size w w':=by
 have ai:=z_ (fun W hW=>qmp P Q va vb ab ac W (h.below n_ hW).s.a (h.below n_ hW).s.b (h'.below n_ hW).s.a (h'.below n_ hW).s.b);have ag:=z_ (fun W hW=>qsn O vc ad W (h.below n_ hW).o (h'.below n_ hW).o);obtain ⟨A,ca,B,cb,C,cc,rfl,rfl,rfl,_,_,_,_⟩:=h.shape;obtain ⟨A',ak,B',al,C',aj,rfl,rfl,rfl,_,_,_,_⟩:=h'.shape;obtain ⟨n,hn⟩:=e_ (O.length);rw [← hn] at ag ⊢;clear h h' hn;go_enter Tryz.func16,Tryz.ntmps16
 go_wp2_with fail
 refine (ai.out _ ((b_.alloc n_ _).alloc (by simp) _)).mono ?_;rintro e w1 ⟨rfl,aa⟩;have ae:Below w.heap.size w w1:=((b_.alloc n_ _).alloc (by simp) _).trans (aa.mono (by simp;omega));have am:w1.cell? ⟨w.heap.size,2,none⟩=some (.slice C n cc):=by rw [aa.cell (p:=⟨w.heap.size,2,none⟩) (by simp;omega)];simp
 have an:w1.cell? ⟨w.heap.size+1,2,none⟩=some (.slice C' n aj):=by rw [aa.cell (p:=⟨w.heap.size+1,2,none⟩) (by simp)];simp
 clear aa;go_wp2_with fail
 refine (ag.out _ ae).mono ?_;rintro e w2 ⟨rfl,ah⟩;have af:=ae.trans (ah.mono ae.size);clear ah;go_wp2;go_ret;exact ⟨rfl,af⟩
end sige

namespace sigr
open mem subs sortp sorti rowl sigm sigs sigi sigk sigq sige
structure BoxC (C:World→Prop) where
 W:World
 h:C W
theorem qa1{P:Program}{C:World→Prop}{id:Nat}{Q:Exit→Act→World→Prop}{a:Act}{l:List Oper}(hm:P.follows .mixedOrders=true)(hB:Region.lexB .any l.toArray=true)(hC:C w.drew)(h:wpQuiet P l.toArray (fun w'=>∃ t:BoxC C,w'=t.W) (fun a'=>∀ w',(∃ t:BoxC C,w'=t.W)→Q .normal a' w') l a):(Code.region id l.toArray true).wp P Q a w:=
 wp_region_quiet (C:=fun w'=>∃ t:BoxC C,w'=t.W) hm hB ⟨⟨_,hC⟩,rfl⟩ Bg_
def Ten (W2:World)(g o g' o':Nat)(a0 a1 a2 a3 a4 b0 b1 b2 b3 b4:Value)(w:World):Prop:=
 (w.cell? ⟨g,o,none⟩=some a0∧w.cell? ⟨g,o+1,none⟩=some a1∧w.cell? ⟨g,o+2,none⟩=some a2∧w.cell? ⟨g,o+3,none⟩=some a3∧w.cell? ⟨g,o+4,none⟩=some a4∧
   w.cell? ⟨g',o',none⟩=some b0∧w.cell? ⟨g',o'+1,none⟩=some b1∧w.cell? ⟨g',o'+2,none⟩=some b2∧w.cell? ⟨g',o'+3,none⟩=some b3∧w.cell? ⟨g',o'+4,none⟩=some b4)∧Below W2.heap.size W2 w
theorem Ten.keep{W2:World}{a0 a1:Value}(h:Ten W2 g o g' o' a0 a1 a2 a3 a4 b0 b1 b2 b3 b4 w0)(hp:g<W2.heap.size∧g'<W2.heap.size)(hb:Below w0.heap.size w0 w1):Ten W2 g o g' o' a0 a1 a2 a3 a4 b0 b1 b2 b3 b4 w1:=
 qi0 h hp hb
def fitK (O:List OpM)(S:List Shp)(k:Nat):Bool:=qn8 (O.getD k default).ass (O.getD k default).com (O.getD k default).unt (S.getD k default)&&qlm (O.getD k default).unt (S.getD k default) S
def fitB (O:List OpM)(S:List Shp):Bool:=(List.range O.length).all (fitK O S)
theorem qyc{S:List Shp}(hk:k<O.length)(h:fitK O S k=false):fitB O S=false:=by
 rw [fitB,List.all_eq_false];exact ⟨k,by simpa using hk,by simp [h]⟩
theorem quy{S:List Shp}(h:∀ k,k<O.length→fitK O S k=true):fitB O S=true:=by
 rw [fitB,List.all_eq_true];exact fun k hk=>h k (by simpa using hk)
theorem qAt (hO:qqs n O):fitB O (shps κ O)=O.all (axOk κ O):=by
 have hk:∀ k,k<O.length→fitK O (shps κ O) k=axOk κ O (O.getD k default):=by
  intro k hk;have hm:O.getD k default∈O:=by rw [List.getD_eq_getElem?_getD,List.getElem?_eq_getElem hk];exact List.getElem_mem hk
  rw [fitK,qg3 κ O k hk,qy9 (hO _ hm),qya,axOk]
 rw [Bool.eq_iff_iff,fitB];simp only [List.all_eq_true,List.mem_range];constructor
 ·intro h o ho
  obtain ⟨k,aa,rfl⟩:=List.getElem_of_mem ho;have:=h k aa;rw [hk k aa] at this;simpa [List.getD,List.getElem?_eq_getElem aa] using this
 ·intro h k aa
  rw [hk k aa];exact h _ (by rw [List.getD_eq_getElem?_getD,List.getElem?_eq_getElem aa];exact List.getElem_mem aa)
set_option maxRecDepth 20000 in
set_option maxHeartbeats 4000000 in
theorem qg4 (O:List OpM)(S:List Shp)(hS:S.length=O.length)(r:Bool)(hr:fitB O S=r)(v vT:Value)(w:World)(h:HasO lo w v O)(hT:HasT w vT S):
  Calls Tryz.prog 173 #[v,vT] w fun e w'=>e=.returned (.bool r)∧Below w.heap.size w w':=by
 obtain ⟨n,hn⟩:=e_ (O.length);obtain ⟨A,c,rfl,h⟩:=HasR.shape h hn.symm;obtain ⟨B,cb,rfl,hT⟩:=HasR.shape hT (hS.trans hn.symm);have hl:=h.len.2.1;have HH:=z_ h;have HT:=z_ hT;have HN:=z_ hn;clear h hn hT;go_enter Tryz.func173,Tryz.ntmps173
 go_wp2;go_loopw [9] (fun i wr=>∃ k:Nat,k≤n∧i=.int .i64 k∧Hid (∀ j,j<k→fitK O S j=true)∧Below w.heap.size w wr) (fun i _=>n-(intOf i).toNat)
 case atStart=>exact ⟨0,y_,rfl,z_ (fun j hj=>by omega),Below.refl _ _⟩
 case round=>
  obtain ⟨k,hk,rfl,ag,ab⟩:=hrel;by_cases am:k<n
  ·obtain ⟨g,o,A2,c2,rfl,_,hg,an,ak,ao,ap,aq,hh,aw,ae⟩:=qcm HH.out am
   obtain ⟨g',o2,rfl,ax,d0,d1,d2,d3,d4⟩:=qll HT.out am;have kw:∀ x,w.cell? ⟨g,x,none⟩=wr.cell? ⟨g,x,none⟩:=fun x=>(ab.cell (p:=⟨g,x,none⟩) hg).symm
   have au:∀ x,w.cell? ⟨g',x,none⟩=wr.cell? ⟨g',x,none⟩:=fun x=>(ab.cell (p:=⟨g',x,none⟩) ax).symm
   rw [kw] at an ak ao ap aq;rw [au] at d0 d1 d2 d3 d4;have hsz:=ab.size;have ad:Hid (fitK O S k=false→r=false):=z_ (fun hb=>by rw [← hr];exact qyc Ac_ hb)
   have aa:Hid (fitK O S k=true→∀ j,j<k+1→fitK O S j=true):=z_ (fun hb j hj=>by
    by_cases e:j=k
    ·subst e;exact hb
    ·exact ag.out j o_)
   unfold fitK at ad aa;obtain ⟨⟨nm,D,a,b,u⟩,hd⟩:∃ d,d=O.getD k default:=⟨_,rfl⟩;rw [← hd] at an ak ao ap aq ad aa ae;obtain ⟨⟨s0,s1,s2,s3,s4⟩,hs⟩:∃ s,s=S.getD k default:=⟨_,rfl⟩;rw [← hs] at d0 d1 d2 d3 d4 ad aa;obtain ⟨dn,av⟩:=e_ (D.length);rw [← av] at ak;clear hh hd kw au hr hs av aw;cases h1:qn8 a b u (s0,s1,s2,s3,s4) with
   | false=>
    have HR:=z_ (ad.out (by simp [h1]));have aj:=z_ (fun W=>qdg nm A2 dn c2 a b u s0 s1 s2 s3 s4 false h1 W);clear h1 aa;go_wp2_with fail
    generalize hW:wr.alloc (.cells #[.string (bstr nm),.slice A2 dn c2,.bool a,.bool b,.int .i64 u] 124)=W2
    have ac:Below w.heap.size w W2:=by rw [← hW];exact ab.alloc ab.size _
    have ah:wr.heap.size<W2.heap.size:=by rw [← hW];simp
    have ai:g'<W2.heap.size:=by rw [← hW];simp;omega
    have k1:W2.heap[wr.heap.size]? =some (.cells #[.string (bstr nm),.slice A2 dn c2,.bool a,.bool b,.int .i64 u] 124 (0,0)):=by rw [← hW];exact qa5 _ _ _ rfl
    have p0:=h_ W2 _ 0 _ _ _ k1;have p1:=h_ W2 _ 1 _ _ _ k1;have p2:=h_ W2 _ 2 _ _ _ k1;have p3:=h_ W2 _ 3 _ _ _ k1;have p4:=h_ W2 _ 4 _ _ _ k1;have q0:W2.cell? ⟨g',o2+k*5,none⟩=some (.int .i64 (s0:Int)):=by rw [← hW,(Below.cell ((Below.refl wr.heap.size wr).alloc n_ _) (p:=⟨g',o2+k*5,none⟩) Am_)];exact d0
    have q1:W2.cell? ⟨g',o2+k*5+1,none⟩=some (.int .u16 (s1:Int)):=by rw [← hW,(Below.cell ((Below.refl wr.heap.size wr).alloc n_ _) (p:=⟨g',o2+k*5+1,none⟩) Am_)];exact d1
    have q2:W2.cell? ⟨g',o2+k*5+2,none⟩=some (.int .u16 (s2:Int)):=by rw [← hW,(Below.cell ((Below.refl wr.heap.size wr).alloc n_ _) (p:=⟨g',o2+k*5+2,none⟩) Am_)];exact d2
    have q3:W2.cell? ⟨g',o2+k*5+3,none⟩=some (.int .u16 (s3:Int)):=by rw [← hW,(Below.cell ((Below.refl wr.heap.size wr).alloc n_ _) (p:=⟨g',o2+k*5+3,none⟩) Am_)];exact d3
    have q4:W2.cell? ⟨g',o2+k*5+4,none⟩=some (.int .u16 (s4:Int)):=by rw [← hW,(Below.cell ((Below.refl wr.heap.size wr).alloc n_ _) (p:=⟨g',o2+k*5+4,none⟩) Am_)];exact d4
    clear hW k1;have af:(Ten W2 wr.heap.size 0 g' (o2+k*5) (.string (bstr nm)) (.slice A2 dn c2) (.bool a) (.bool b) (.int .i64 u) (.int .i64 (s0:Int)) (.int .u16 (s1:Int)) (.int .u16 (s2:Int)) (.int .u16 (s3:Int)) (.int .u16 (s4:Int))) W2.drew:=⟨⟨p0,p1,p2,p3,p4,q0,q1,q2,q3,q4⟩,b_.drew⟩;refine qa1 (C:=(Ten W2 wr.heap.size 0 g' (o2+k*5) (.string (bstr nm)) (.slice A2 dn c2) (.bool a) (.bool b) (.int .i64 u) (.int .i64 (s0:Int)) (.int .u16 (s1:Int)) (.int .u16 (s2:Int)) (.int .u16 (s3:Int)) (.int .u16 (s4:Int)))) k_ k_ af ?_;have nb:Nonempty (BoxC (Ten W2 wr.heap.size 0 g' (o2+k*5) (.string (bstr nm)) (.slice A2 dn c2) (.bool a) (.bool b) (.int .i64 u) (.int .i64 (s0:Int)) (.int .u16 (s1:Int)) (.int .u16 (s2:Int)) (.int .u16 (s3:Int)) (.int .u16 (s4:Int)))):=⟨⟨_,af⟩⟩;have r0:∀ t:BoxC (Ten W2 wr.heap.size 0 g' (o2+k*5) (.string (bstr nm)) (.slice A2 dn c2) (.bool a) (.bool b) (.int .i64 u) (.int .i64 (s0:Int)) (.int .u16 (s1:Int)) (.int .u16 (s2:Int)) (.int .u16 (s3:Int)) (.int .u16 (s4:Int))),t.W.cell? ⟨wr.heap.size,0,none⟩=some (.string (bstr nm)):=fun t=>t.h.1.1
    have r1:∀ t:BoxC (Ten W2 wr.heap.size 0 g' (o2+k*5) (.string (bstr nm)) (.slice A2 dn c2) (.bool a) (.bool b) (.int .i64 u) (.int .i64 (s0:Int)) (.int .u16 (s1:Int)) (.int .u16 (s2:Int)) (.int .u16 (s3:Int)) (.int .u16 (s4:Int))),t.W.cell? ⟨wr.heap.size,1,none⟩=some (.slice A2 dn c2):=fun t=>t.h.1.2.1
    have r2:∀ t:BoxC (Ten W2 wr.heap.size 0 g' (o2+k*5) (.string (bstr nm)) (.slice A2 dn c2) (.bool a) (.bool b) (.int .i64 u) (.int .i64 (s0:Int)) (.int .u16 (s1:Int)) (.int .u16 (s2:Int)) (.int .u16 (s3:Int)) (.int .u16 (s4:Int))),t.W.cell? ⟨wr.heap.size,2,none⟩=some (.bool a):=fun t=>t.h.1.2.2.1
    have r3:∀ t:BoxC (Ten W2 wr.heap.size 0 g' (o2+k*5) (.string (bstr nm)) (.slice A2 dn c2) (.bool a) (.bool b) (.int .i64 u) (.int .i64 (s0:Int)) (.int .u16 (s1:Int)) (.int .u16 (s2:Int)) (.int .u16 (s3:Int)) (.int .u16 (s4:Int))),t.W.cell? ⟨wr.heap.size,3,none⟩=some (.bool b):=fun t=>t.h.1.2.2.2.1
    have r4:∀ t:BoxC (Ten W2 wr.heap.size 0 g' (o2+k*5) (.string (bstr nm)) (.slice A2 dn c2) (.bool a) (.bool b) (.int .i64 u) (.int .i64 (s0:Int)) (.int .u16 (s1:Int)) (.int .u16 (s2:Int)) (.int .u16 (s3:Int)) (.int .u16 (s4:Int))),t.W.cell? ⟨wr.heap.size,4,none⟩=some (.int .i64 u):=fun t=>t.h.1.2.2.2.2.1
    have r5:∀ t:BoxC (Ten W2 wr.heap.size 0 g' (o2+k*5) (.string (bstr nm)) (.slice A2 dn c2) (.bool a) (.bool b) (.int .i64 u) (.int .i64 (s0:Int)) (.int .u16 (s1:Int)) (.int .u16 (s2:Int)) (.int .u16 (s3:Int)) (.int .u16 (s4:Int))),t.W.cell? ⟨g',o2+k*5,none⟩=some (.int .i64 (s0:Int)):=fun t=>t.h.1.2.2.2.2.2.1
    have r6:∀ t:BoxC (Ten W2 wr.heap.size 0 g' (o2+k*5) (.string (bstr nm)) (.slice A2 dn c2) (.bool a) (.bool b) (.int .i64 u) (.int .i64 (s0:Int)) (.int .u16 (s1:Int)) (.int .u16 (s2:Int)) (.int .u16 (s3:Int)) (.int .u16 (s4:Int))),t.W.cell? ⟨g',o2+k*5+1,none⟩=some (.int .u16 (s1:Int)):=fun t=>t.h.1.2.2.2.2.2.2.1
    have r7:∀ t:BoxC (Ten W2 wr.heap.size 0 g' (o2+k*5) (.string (bstr nm)) (.slice A2 dn c2) (.bool a) (.bool b) (.int .i64 u) (.int .i64 (s0:Int)) (.int .u16 (s1:Int)) (.int .u16 (s2:Int)) (.int .u16 (s3:Int)) (.int .u16 (s4:Int))),t.W.cell? ⟨g',o2+k*5+2,none⟩=some (.int .u16 (s2:Int)):=fun t=>t.h.1.2.2.2.2.2.2.2.1
    have r8:∀ t:BoxC (Ten W2 wr.heap.size 0 g' (o2+k*5) (.string (bstr nm)) (.slice A2 dn c2) (.bool a) (.bool b) (.int .i64 u) (.int .i64 (s0:Int)) (.int .u16 (s1:Int)) (.int .u16 (s2:Int)) (.int .u16 (s3:Int)) (.int .u16 (s4:Int))),t.W.cell? ⟨g',o2+k*5+3,none⟩=some (.int .u16 (s3:Int)):=fun t=>t.h.1.2.2.2.2.2.2.2.2.1
    have r9:∀ t:BoxC (Ten W2 wr.heap.size 0 g' (o2+k*5) (.string (bstr nm)) (.slice A2 dn c2) (.bool a) (.bool b) (.int .i64 u) (.int .i64 (s0:Int)) (.int .u16 (s1:Int)) (.int .u16 (s2:Int)) (.int .u16 (s3:Int)) (.int .u16 (s4:Int))),t.W.cell? ⟨g',o2+k*5+4,none⟩=some (.int .u16 (s4:Int)):=fun t=>t.h.1.2.2.2.2.2.2.2.2.2
    clear p0 p1 p2 p3 p4 q0 q1 q2 q3 q4 af;repeat (go_big_quiet_step ((go_at_call 218;exact (aj.out _).mono (fun _ _ h=>⟨h.1,⟨_,Ten.keep (BoxC.h _) ⟨ah,ai⟩ h.2⟩,rfl⟩))))
    refine wpQuiet_nil ?_;rintro w5 ⟨t5,rfl⟩;have hh:=t5.h.2;go_wp2;go_ret;exact ⟨qa0 HR.out.symm,ac.trans (hh.mono ac.size)⟩
   | true=>
    have aj:=z_ (fun W=>qdg nm A2 dn c2 a b u s0 s1 s2 s3 s4 true h1 W);cases h2:qlm u (s0,s1,s2,s3,s4) S with
    | false=>
     have HR:=z_ (ad.out (by simp [h2]));have al:=z_ (fun W (hW:Below w.heap.size w W)=>qhi nm A2 dn c2 a b u ae s0 s1 s2 s3 s4 S false h2 _ W (HT.out.below qg1 n_ hW));clear h1 h2 aa;go_wp2_with fail
     generalize hW:wr.alloc (.cells #[.string (bstr nm),.slice A2 dn c2,.bool a,.bool b,.int .i64 u] 124)=W2
     have ac:Below w.heap.size w W2:=by rw [← hW];exact ab.alloc ab.size _
     have ah:wr.heap.size<W2.heap.size:=by rw [← hW];simp
     have ai:g'<W2.heap.size:=by rw [← hW];simp;omega
     have k1:W2.heap[wr.heap.size]? =some (.cells #[.string (bstr nm),.slice A2 dn c2,.bool a,.bool b,.int .i64 u] 124 (0,0)):=by rw [← hW];exact qa5 _ _ _ rfl
     have p0:=h_ W2 _ 0 _ _ _ k1;have p1:=h_ W2 _ 1 _ _ _ k1;have p2:=h_ W2 _ 2 _ _ _ k1;have p3:=h_ W2 _ 3 _ _ _ k1;have p4:=h_ W2 _ 4 _ _ _ k1;have q0:W2.cell? ⟨g',o2+k*5,none⟩=some (.int .i64 (s0:Int)):=by rw [← hW,(Below.cell ((Below.refl wr.heap.size wr).alloc n_ _) (p:=⟨g',o2+k*5,none⟩) Am_)];exact d0
     have q1:W2.cell? ⟨g',o2+k*5+1,none⟩=some (.int .u16 (s1:Int)):=by rw [← hW,(Below.cell ((Below.refl wr.heap.size wr).alloc n_ _) (p:=⟨g',o2+k*5+1,none⟩) Am_)];exact d1
     have q2:W2.cell? ⟨g',o2+k*5+2,none⟩=some (.int .u16 (s2:Int)):=by rw [← hW,(Below.cell ((Below.refl wr.heap.size wr).alloc n_ _) (p:=⟨g',o2+k*5+2,none⟩) Am_)];exact d2
     have q3:W2.cell? ⟨g',o2+k*5+3,none⟩=some (.int .u16 (s3:Int)):=by rw [← hW,(Below.cell ((Below.refl wr.heap.size wr).alloc n_ _) (p:=⟨g',o2+k*5+3,none⟩) Am_)];exact d3
     have q4:W2.cell? ⟨g',o2+k*5+4,none⟩=some (.int .u16 (s4:Int)):=by rw [← hW,(Below.cell ((Below.refl wr.heap.size wr).alloc n_ _) (p:=⟨g',o2+k*5+4,none⟩) Am_)];exact d4
     clear hW k1
     go_region_held3 (fun w'=>(w'.cell? ⟨wr.heap.size,0,none⟩=some (.string (bstr nm))∧w'.cell? ⟨wr.heap.size,1,none⟩=some (.slice A2 dn c2)∧w'.cell? ⟨wr.heap.size,2,none⟩=some (.bool a)∧w'.cell? ⟨wr.heap.size,3,none⟩=some (.bool b)∧w'.cell? ⟨wr.heap.size,4,none⟩=some (.int .i64 u)∧w'.cell? ⟨g',o2+k*5,none⟩=some (.int .i64 (s0:Int))∧w'.cell? ⟨g',o2+k*5+1,none⟩=some (.int .u16 (s1:Int))∧w'.cell? ⟨g',o2+k*5+2,none⟩=some (.int .u16 (s2:Int))∧w'.cell? ⟨g',o2+k*5+3,none⟩=some (.int .u16 (s3:Int))∧w'.cell? ⟨g',o2+k*5+4,none⟩=some (.int .u16 (s4:Int)))∧Below W2.heap.size W2 w')
      (first|(refine ⟨⟨?_,?_,?_,?_,?_,?_,?_,?_,?_,?_⟩,b_.drew⟩<;>assumption)|(go_split_ands;exact qi0 (g:=wr.heap.size) (o:=0) (g':=g') (o':=o2+k*5) ⟨⟨by assumption,by assumption,by assumption,by assumption,by assumption,by assumption,by assumption,by assumption,by assumption,by assumption⟩,by assumption⟩ ⟨ah,ai⟩ (by assumption)))
      (first
       | (go_at_call 218;go_split_ands;refine (aj.out _).mono ?_;rintro e w3 ⟨rfl,ay⟩)
       | (go_at_call 219;go_split_ands;refine (al.out _ (ac.trans (Below.mono (by assumption) ac.size))).mono ?_;rintro e w4 ⟨rfl,az⟩))
     go_wp2;have hh:Below W2.heap.size W2 w4:=by go_split_ands;assumption
     go_ret;exact ⟨qa0 HR.out.symm,ac.trans (hh.mono ac.size)⟩
    | true=>
     have HG:=z_ (aa.out (by simp [h1,h2]));have al:=z_ (fun W (hW:Below w.heap.size w W)=>qhi nm A2 dn c2 a b u ae s0 s1 s2 s3 s4 S true h2 _ W (HT.out.below qg1 n_ hW));clear h1 h2 aa;go_wp2_with fail
     generalize hW:wr.alloc (.cells #[.string (bstr nm),.slice A2 dn c2,.bool a,.bool b,.int .i64 u] 124)=W2
     have ac:Below w.heap.size w W2:=by rw [← hW];exact ab.alloc ab.size _
     have ah:wr.heap.size<W2.heap.size:=by rw [← hW];simp
     have ai:g'<W2.heap.size:=by rw [← hW];simp;omega
     have k1:W2.heap[wr.heap.size]? =some (.cells #[.string (bstr nm),.slice A2 dn c2,.bool a,.bool b,.int .i64 u] 124 (0,0)):=by rw [← hW];exact qa5 _ _ _ rfl
     have p0:=h_ W2 _ 0 _ _ _ k1;have p1:=h_ W2 _ 1 _ _ _ k1;have p2:=h_ W2 _ 2 _ _ _ k1;have p3:=h_ W2 _ 3 _ _ _ k1;have p4:=h_ W2 _ 4 _ _ _ k1;have q0:W2.cell? ⟨g',o2+k*5,none⟩=some (.int .i64 (s0:Int)):=by rw [← hW,(Below.cell ((Below.refl wr.heap.size wr).alloc n_ _) (p:=⟨g',o2+k*5,none⟩) Am_)];exact d0
     have q1:W2.cell? ⟨g',o2+k*5+1,none⟩=some (.int .u16 (s1:Int)):=by rw [← hW,(Below.cell ((Below.refl wr.heap.size wr).alloc n_ _) (p:=⟨g',o2+k*5+1,none⟩) Am_)];exact d1
     have q2:W2.cell? ⟨g',o2+k*5+2,none⟩=some (.int .u16 (s2:Int)):=by rw [← hW,(Below.cell ((Below.refl wr.heap.size wr).alloc n_ _) (p:=⟨g',o2+k*5+2,none⟩) Am_)];exact d2
     have q3:W2.cell? ⟨g',o2+k*5+3,none⟩=some (.int .u16 (s3:Int)):=by rw [← hW,(Below.cell ((Below.refl wr.heap.size wr).alloc n_ _) (p:=⟨g',o2+k*5+3,none⟩) Am_)];exact d3
     have q4:W2.cell? ⟨g',o2+k*5+4,none⟩=some (.int .u16 (s4:Int)):=by rw [← hW,(Below.cell ((Below.refl wr.heap.size wr).alloc n_ _) (p:=⟨g',o2+k*5+4,none⟩) Am_)];exact d4
     clear hW k1
     go_region_held3 (fun w'=>(w'.cell? ⟨wr.heap.size,0,none⟩=some (.string (bstr nm))∧w'.cell? ⟨wr.heap.size,1,none⟩=some (.slice A2 dn c2)∧w'.cell? ⟨wr.heap.size,2,none⟩=some (.bool a)∧w'.cell? ⟨wr.heap.size,3,none⟩=some (.bool b)∧w'.cell? ⟨wr.heap.size,4,none⟩=some (.int .i64 u)∧w'.cell? ⟨g',o2+k*5,none⟩=some (.int .i64 (s0:Int))∧w'.cell? ⟨g',o2+k*5+1,none⟩=some (.int .u16 (s1:Int))∧w'.cell? ⟨g',o2+k*5+2,none⟩=some (.int .u16 (s2:Int))∧w'.cell? ⟨g',o2+k*5+3,none⟩=some (.int .u16 (s3:Int))∧w'.cell? ⟨g',o2+k*5+4,none⟩=some (.int .u16 (s4:Int)))∧Below W2.heap.size W2 w')
      (first|(refine ⟨⟨?_,?_,?_,?_,?_,?_,?_,?_,?_,?_⟩,b_.drew⟩<;>assumption)|(go_split_ands;exact qi0 (g:=wr.heap.size) (o:=0) (g':=g') (o':=o2+k*5) ⟨⟨by assumption,by assumption,by assumption,by assumption,by assumption,by assumption,by assumption,by assumption,by assumption,by assumption⟩,by assumption⟩ ⟨ah,ai⟩ (by assumption)))
      (first
       | (go_at_call 218;go_split_ands;refine (aj.out _).mono ?_;rintro e w3 ⟨rfl,ay⟩)
       | (go_at_call 219;go_split_ands;refine (al.out _ (ac.trans (Below.mono (by assumption) ac.size))).mono ?_;rintro e w4 ⟨rfl,az⟩))
     go_wp2;go_roundw
     case rel=>
      have hh:Below W2.heap.size W2 w4:=by go_split_ands;assumption
      exact ⟨k+1,by omega,by go_num,HG,ac.trans (hh.mono ac.size)⟩
     case measure=>simp [intOf];omega
  ·obtain rfl:k=n:=o_
   have HR:Hid (r=true):=z_ (by rw [← hr];exact quy (fun j hj=>ag.out j Ac_));go_wp2;go_ret;exact ⟨qa0 HR.out.symm,ab⟩
end sigr

namespace sigv
open mem split subs sortn setm sortm sortp sorti sortf rowl sigm sigs sigi sigk sigr
theorem qp5{P:Program}(w:World)(t k e:TypeId)(m:Option Nat)(h:P.underlying t=some (.map k e)):(binOp .eql t (.map m) (.map none)).run P w=.ok (.bool m.isNone) w:=by
 simp only [binOp];simp [run_equal_map_nil w t k e m h]
theorem qiy{v:Value}(h:HasO lo w v O):∀ k,k<(nms O).length→((nms O).getD k []).length≤maxLen:=by
 intro k hk;obtain ⟨A,c,rfl,h⟩:=HasR.shape h rfl;rw [qlg] at hk;obtain ⟨_,_,_,_,_,_,_,_,_,_,_,_,_,aa,_⟩:=qcm h hk;rw [qit O k hk];exact aa
def quz (P:List (List UInt8))(Q:List (Int×Int))(O:List OpM)(r:Bool)(w:World)(e:Ending)(w':World):Prop:=∃ mv sv,e=.returned (.tuple #[mv,sv])∧(r=false→mv=.map none∧sv=.slice none 0 0)∧
 (r=true→(∃ b,mv=.map (some b))∧(∃ A c,sv=.slice A O.length c)∧MapU w' mv (qaq P Q)∧HasT w' sv (shps (κU (qaq P Q)) O))∧Below w.heap.size w w'
theorem c40_{p:Prop}(h:p:=by
 clear hM hy am;go_wp2;refine bodyPost_ret (v:=.tuple #[.map none,.slice none 0 0]) (by simp [results,Tryz.results121,go_sem]) rfl ?_;exact ⟨_,_,rfl,fun _=>⟨rfl,rfl⟩,(fun h=>by rw [HR.out] at h;cases h),(b_.alloc n_ _).trans (ae.mono (by simp))⟩
):p:=h
set_option maxRecDepth 20000 in
set_option maxHeartbeats 2000000 in
theorem qlo (P:List (List UInt8))(Q:List (Int×Int))(O:List OpM)(va vb vc:Value)(r:Bool)(hr:qah P Q O=r)(w:World)(h:HasG w va vb vc P Q O):
  Calls Tryz.prog 121 #[.agg #[va,vb,vc]] w (quz P Q O r w):=by
 have au:=z_ (fun W (hW:Below w.heap.size w W)=>qlk P Q va vb W (h.below n_ hW).s);obtain ⟨A,ca,B,cb,C,cc,rfl,rfl,rfl,aN,aO,aH,h'⟩:=h.shape;have aI:∀ (m:Option Nat) (W:World),(binOp .eql 89 (.map m) (.map none)).run Tryz.prog W=.ok (.bool m.isNone) W:=fun m W=>qp5 W 89 _ _ m Tryz.underlying89
 have al:=z_ (fun W (hW:Below w.heap.size w W)=>(h'.below n_ hW).o);have aJ:=z_ (qiy h'.o);rw [qAp] at hr;obtain ⟨n,hn⟩:=e_ (O.length);have HN:=z_ hn;rw [← hn] at aH al ⊢;clear h h' hn;cases ad:okS P Q with
 | false=>
  have HR:Hid (r=false):=z_ (by rw [← hr,ad];rfl);have av:=z_ ad;clear ad hr;go_enter Tryz.func121,Tryz.ntmps121
  go_wp2_with fail
  refine (au.out _ (b_.alloc n_ _)).mono ?_;rintro e w1 ⟨mv,rfl,hM,hy,am,ae⟩;obtain rfl:=am av.out;exact c40_
 | true=>
  have ac:qf6 P.length (κC P.length Q) O=r:=by rw [← hr,ad];rfl
  have hU:qaq P Q=clo P.length (both (prs Q)):=by rw [qaq,if_pos ad]
  have hκ:κU (qaq P Q)=κC P.length Q:=by funext x;rw [hU];rfl
  have aw:(qaq P Q).length=P.length:=by rw [qgy,if_pos ad]
  obtain ⟨p1,p2,p3,p4,p5⟩:=qb2 ad;have aK:Hid (qaq P Q=qaq P Q):=z_ rfl;have an:Lim (qaq P Q):=⟨by omega,fun i=>by rw [aw,hU];exact qqn (qgs p3.inR) i⟩;have ag:=z_ an;have av:=z_ ad;rw [← hκ,← aw] at ac;clear hr hU hκ aw an ad p1 p2 p3 p4 p5;obtain ⟨U,ax⟩:=e_ (qaq P Q);rw [← ax] at au ag ac;have az:=z_ ax;clear ax aK;by_cases aL:14<n
  ·have HR:Hid (r=false):=z_ (by rw [← ac,qf6];have:=HN.out;simp;omega)
   clear ac;go_enter Tryz.func121,Tryz.ntmps121
   go_wp2_with fail
   refine (au.out _ (b_.alloc n_ _)).mono ?_;rintro e w1 ⟨mv,rfl,hM,hy,am,ae⟩;obtain ⟨b,rfl⟩:=hy av.out;have c2:w1.cell? ⟨w.heap.size,2,none⟩=some (.slice C n cc):=by rw [ae.cell (p:=⟨w.heap.size,2,none⟩) (by simp)];simp
   exact c40_
  have af:Hid (O.length≤14):=z_ Ac_
  have aA:Hid (∀ r v W,qb5 (nms O) O.length=r→Has W v (ssv (nms O))→Calls Tryz.prog 170 #[v] W fun e w'=>e=.returned (.bool r)∧W=w'):=
   z_ (fun r v W hr hH=>qqk (nms O) aJ.out v r (by rw [qlg];exact hr) W hH)
  go_enter Tryz.func121,Tryz.ntmps121
  go_wp2_with fail
  refine (au.out _ (b_.alloc n_ _)).mono ?_;rintro e w1 ⟨mv,rfl,hM,hy,am,ae⟩;obtain ⟨b,rfl⟩:=hy av.out;have c2:w1.cell? ⟨w.heap.size,2,none⟩=some (.slice C n cc):=by rw [ae.cell (p:=⟨w.heap.size,2,none⟩) (by simp)];simp
  have ah:Below w.heap.size w w1:=(b_.alloc n_ _).trans (ae.mono (by simp));have aB:w.heap.size<w1.heap.size:=by have:=ae.size;simp at this;omega
  have HM:=z_ hM;clear hM hy am ae;go_wp2_with fail
  refine (qp3 O af.out _ _ (al.out _ ah)).mono ?_;rintro e w2 ⟨v2,rfl,aC,ao⟩;have aD:=z_ aC;have d2:w2.cell? ⟨w.heap.size,2,none⟩=some (.slice C n cc):=(ao.cell (by exact aB)).trans c2;have aa:=ah.trans (ao.mono ah.size);have aE:w.heap.size<w2.heap.size:=w_ aB ao.size;have ay:=z_ (HM.out.below ao);clear aC ao c2;go_wp2_with fail
  cases ai:qb5 (nms O) O.length with
  | false=>
   have HR:Hid (r=false):=z_ (by rw [← ac,qf6,ai];simp);refine (aA.out _ _ _ ai aD.out).mono ?_;rintro e w3 ⟨rfl,rfl⟩;clear ai ac;go_wp2;refine bodyPost_ret (v:=.tuple #[.map none,.slice none 0 0]) (by simp [results,Tryz.results121,go_sem]) rfl ?_;exact ⟨_,_,rfl,fun _=>⟨rfl,rfl⟩,(fun h=>by rw [HR.out] at h;cases h),aa⟩
  | true=>
   refine (aA.out _ _ _ ai aD.out).mono ?_;rintro e w3 ⟨rfl,rfl⟩;go_wp2_with fail
   cases aj:(O.all fun o=>qaf U.length (κU U) o.decls) with
   | false=>
    have HR:Hid (r=false):=z_ (by rw [← ac,qf6,aj];simp);refine (qhh U ag.out O af.out false aj _ _ _ (al.out _ aa) ay.out).mono ?_;rintro e w3 ⟨v3,rfl,_,ap,ak⟩;obtain rfl:=ap rfl;have e2:w3.cell? ⟨w.heap.size,2,none⟩=some (.slice C n cc):=(ak.cell (by exact aE)).trans d2;clear ai ac aj d2 ap;go_wp2;refine bodyPost_ret (v:=.tuple #[.map none,.slice none 0 0]) (by simp [results,Tryz.results121,go_sem]) rfl ?_;exact ⟨_,_,rfl,fun _=>⟨rfl,rfl⟩,(fun h=>by rw [HR.out] at h;cases h),aa.trans (ak.mono aa.size)⟩
   | true=>
    refine (qhh U ag.out O af.out true aj _ _ _ (al.out _ aa) ay.out).mono ?_;rintro e w3 ⟨v3,rfl,ap,_,ak⟩;have hT:=ap rfl;obtain ⟨A5,c5,rfl,aF⟩:=HasR.shape hT rfl;have HT:=z_ aF;have e2:w3.cell? ⟨w.heap.size,2,none⟩=some (.slice C n cc):=(ak.cell (by exact aE)).trans d2;have ab:=aa.trans (ak.mono aa.size)
    have aG:Hid (fitB O (shps (κU U) O)=r):=z_ (by
     rw [qAt (qn2 aj),← ac,qf6,ai,aj];have:=af.out
     simp [this])
    have aM:=z_ (ay.out.below ak);clear ai ac aj d2 ap hT aF ak;cases r with
    | false=>
     go_wp2_with fail
     refine (qg4 O (shps (κU U) O) (qg2 _ _) false aG.out _ _ _ (al.out _ ab) HT.out).mono ?_;rintro e w4 ⟨rfl,aq⟩;go_wp2;refine bodyPost_ret (v:=.tuple #[.map none,.slice none 0 0]) (by simp [results,Tryz.results121,go_sem]) rfl ?_;exact ⟨_,_,rfl,fun _=>⟨rfl,rfl⟩,(fun h=>by cases h),ab.trans (aq.mono ab.size)⟩
    | true=>
     go_wp2_with fail
     refine (qg4 O (shps (κU U) O) (qg2 _ _) true aG.out _ _ _ (al.out _ ab) HT.out).mono ?_;rintro e w4 ⟨rfl,aq⟩;have HP:Hid (quz P Q O true w (.returned (.tuple #[.map (some b),.slice A5 (shps (κU U) O).length c5])) w4):=z_ ⟨_,_,rfl,(fun h=>by cases h),fun _=>⟨⟨_,rfl⟩,⟨A5,c5,by rw [qg2]⟩,by rw [← az.out];exact aM.out.below aq,by rw [← az.out];exact HasR.below qg1 HT.out n_ aq⟩,ab.trans (aq.mono ab.size)⟩;go_wp2;refine bodyPost_ret (v:=.tuple #[.map (some b),.slice A5 (shps (κU U) O).length c5]) (by simp [results,Tryz.results121,go_sem]) rfl ?_;exact HP.out
end sigv

namespace sortg
open sortp
theorem qB3{P:List (List UInt8)}{Q:List (Int×Int)}(h:okS P Q=true):∀ p∈Q,p.1≠p.2:=by
 simp only [okS,qd7,qfh,Bool.and_eq_true,List.all_eq_true,decide_eq_true_eq] at h;intro p hp;exact (h.1.2.2 p hp).2
end sortg
end Go.Proofs.YtiilamngcoegiaaGreat
