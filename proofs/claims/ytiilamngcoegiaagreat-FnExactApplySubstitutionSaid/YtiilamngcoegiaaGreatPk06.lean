/- parts -/
import Derived.Test.YtiilamngcoegiaaGreatPk04
import Derived.Laws.StructEq
import Derived.ChangeKeysEq
import Derived.Deep.RegionHeld3
import Derived.Deep.QuietTactic
import Derived.BigQuiet
namespace Go.Proofs.YtiilamngcoegiaaGreat
open Go.ChangeShapes Go.WideShapes Go.ChangeAt Go.RowKit
namespace sigi
open mem split subs setm sortp sorti rowl sigm sigs
abbrev Shp:=Nat×Nat×Nat×Nat×Nat
def pl (κ:Int→Nat)(L:List Int)(i:Nat):Nat:=if i<L.length then κ (L.getD i 0) else 0
def shp (κ:Int→Nat)(d:List Int×Int):Shp:=(d.1.length,pl κ d.1 0,pl κ d.1 1,pl κ d.1 2,κ d.2)
def zsh:Shp:=(0,0,0,0,0)
def shcs (s:Shp):List Value:=[.int .i64 (s.1:Int),.int .u16 (s.2.1:Int),.int .u16 (s.2.2.1:Int),.int .u16 (s.2.2.2.1:Int),.int .u16 (s.2.2.2.2:Int)]
def shv (s:Shp):Value:=.agg #[.int .i64 (s.1:Int),.int .u16 (s.2.1:Int),.int .u16 (s.2.2.1:Int),.int .u16 (s.2.2.2.1:Int),.int .u16 (s.2.2.2.2:Int)]
theorem qAi {n:Nat}{κ:Int→Nat}{d e:List Int×Int}(hd:okD n d=true)(he:okD n e=true):shp κ d=shp κ e↔kD κ d=kD κ e:=by
 obtain ⟨l,x⟩:=d;obtain ⟨m,y⟩:=e;have h1:=(qaf hd).1;have h2:=(qaf he).1;simp only [shp,kD,Prod.mk.injEq];match l,m,h1,h2 with
 | [],[],_,_=>simp [pl]
 | [],_::_,_,_=>simp
 | _::_,[],_,_=>simp
 | [a],[b],_,_=>simp [pl]
 | [a],_::_::_,_,_=>simp
 | _::_::_,[b],_,_=>simp
 | [a,a'],[b,b'],_,_=>simp [pl,and_assoc]
 | [a,a'],_::_::_::_,_,_=>simp
 | _::_::_::_,[b,b'],_,_=>simp
 | [a,a',aa],[b,b',ab],_,_=>simp [pl,and_assoc]
 | _::_::_::_::_,_,h,_=>simp at h
 | _,_::_::_::_::_,_,h=>simp at h
theorem qmu (w:World)(a b x0 x1 x2 y0 y1 y2 r s:Int):
  (Op.equalIn 10000 179 (.agg #[.int .i64 a,.int .u16 x0,.int .u16 x1,.int .u16 x2,.int .u16 r]) (.agg #[.int .i64 b,.int .u16 y0,.int .u16 y1,.int .u16 y2,.int .u16 s])).run Tryz.prog w =
   .ok (decide (a=b∧x0=y0∧x1=y1∧x2=y2∧r=s)) w:=by
 have h1:Tryz.prog.stoodInHeld 179=false:=by kernel_rfl
 have h2:Tryz.prog.underlying 179=some (.struct (Tryz.prog.fieldsOf 179)):=by kernel_rfl
 have hi:Tryz.prog.info? 176=some (Tryz.prog.info? 176).get! := by kernel_rfl
 have hc:Tryz.prog.cellsOf 176=1:=by kernel_rfl
 have e1:∀ a b:Int,∀ W,(Op.equalIn 9999 3 (.int .i64 a) (.int .i64 b)).run Tryz.prog W=.ok (a==b) W:=fun a b W=>run_equalIn_int W 9998 _ _ _ a b Tryz.underlying3
 have e2:∀ a b:Int,∀ W,(Op.equalIn 9999 176 (.int .u16 a) (.int .u16 b)).run Tryz.prog W=.ok (a==b) W:=fun a b W=>run_equalIn_int W 9998 _ _ _ a b Tryz.underlying176
 have e3:∀ a b:Int,∀ W,(Op.equalIn 9998 176 (.int .u16 a) (.int .u16 b)).run Tryz.prog W=.ok (a==b) W:=fun a b W=>run_equalIn_int W 9997 _ _ _ a b Tryz.underlying176
 have e4:∀ xs ys W,(Op.equalIn 9999 177 (.agg xs) (.agg ys)).run Tryz.prog W=(Op.eqItems 9998 176 (Tryz.prog.cellsOf 176) xs ys (List.range 3)).run Tryz.prog W:=
  fun xs ys W=>run_equalIn_array W 9998 xs ys Tryz.underlying177 hi
 rw [run_equalIn_agg w 9999 _ _ _ h2 h1];simp only [Program.fieldsOf,Tryz.underlying179];simp [Op.eqFields,part,e1,e2,e4,hc,List.range_succ,Op.eqItems,e3]
 (repeat' split)<;>simp_all
theorem qzy (s t:Shp):decide ((s.1:Int)=(t.1:Int)∧(s.2.1:Int)=(t.2.1:Int)∧(s.2.2.1:Int)=(t.2.2.1:Int)∧(s.2.2.2.1:Int)=(t.2.2.2.1:Int)∧(s.2.2.2.2:Int)=(t.2.2.2.2:Int))=decide (s=t):=by
 obtain ⟨a,b,c,d,e⟩:=s;obtain ⟨a',b',c',d',e'⟩:=t;simp only [Prod.mk.injEq,decide_eq_decide];omega
theorem qmv (s t:Shp)(r:Bool)(hr:decide (s=t)=r)(w:World):(binOp .eql 179 (shv s) (shv t)).run Tryz.prog w=.ok (.bool r) w:=by
 rw [shv,shv,run_eql_struct,qmu,qzy,hr];rfl
theorem qmw (s t:Shp)(r:Bool)(hr:decide (s=t)=r)(w:World):(binOp .neq 179 (shv s) (shv t)).run Tryz.prog w=.ok (.bool (!r)) w:=by
 rw [shv,shv,run_neq_struct,qmu,qzy,hr];rfl
theorem qjb (a b:Nat)(w:World):
  Calls Tryz.prog 236 #[.int .u16 (a:Int),.int .u16 (b:Int)] w fun e w'=>e=.returned (shv (2,a,a,0,b))∧Below w.heap.size w w':=by
 go_enter Tryz.func236,Tryz.ntmps236
 go_wp2;refine bodyPost_ret (v:=shv (2,a,a,0,b)) (by simp [results,Tryz.results236,go_sem,shv]) rfl ⟨rfl,?_⟩;repeat (first|exact Below.refl _ _|refine Below.setCell ?_ (by first|(simp;done)|(simp;omega)) _|refine Below.alloc ?_ (by first|(simp;done)|(simp;omega)) _)
theorem qAj {w:World}{g:Nat}{cs:Array Value}{t:TypeId}{fz:Nat×Nat}(h:w.heap[g]? =some (.cells cs t fz))(j:Nat)(u:Value):(w.setCell ⟨g,j,none⟩ u).heap[g]? =some (.cells (cs.setIfInBounds j u) t fz):=by
 simp [World.setCell,Array.getElem?_modify,h]
def shpR (r:Bool)(κ:Int→Nat)(d:List Int×Int):Shp:=if r then shp κ d else zsh
def plk (κ:Int→Nat)(L:List Int)(k i:Nat):Nat:=if i<k then κ (L.getD i 0) else 0
theorem quo {n:Nat}{L:List Int}{x:Int}{k:Nat}(hk:k<L.length)(h:inN n (L.getD k 0)=false):okD n (L,x)=false:=by
 have:L.all (inN n)=false:=by
  rw [List.all_eq_false];refine ⟨L[k],List.getElem_mem hk,?_⟩;simpa [List.getD,List.getElem?_eq_getElem hk] using h
 simp [okD,this]
theorem qqt {n:Nat}{L:List Int}{x:Int}(h1:L.length≤3)(h2:inN n x=true)(h3:∀ k,k<L.length→inN n (L.getD k 0)=true):okD n (L,x)=true:=by
 simp only [okD,Bool.and_eq_true,decide_eq_true_eq,List.all_eq_true];refine ⟨⟨h1,h2⟩,fun y hy=>?_⟩;obtain ⟨k,hk,rfl⟩:=List.getElem_of_mem hy;have:=h3 k hk;simpa [List.getD,List.getElem?_eq_getElem hk] using this
def κU (U:List Nat)(x:Int):Nat:=U.getD x.toNat 0
theorem qAk {U:List Nat}{x:Int}(h:inN U.length x=true):atU U x=κU U x:=by
 simp only [inN,decide_eq_true_eq] at h;simp [atU,κU,h.1]
theorem c29_ {p:Prop}(h:p:=by
 repeat (first|exact Below.refl _ _|refine Below.setCell ?_ (by first|(simp;done)|(simp;omega)) _|refine Below.alloc ?_ (by first|(simp;done)|(simp;omega)) _)
):p:=h
theorem c30_ {p:Prop}(h:p:=by
 repeat (refine Below.setCell ?_ (by first|(simp;done)|(simp;omega)) _)
 exact aa
):p:=h
set_option maxRecDepth 20000 in
theorem qos (U:List Nat)(_hU:Lim U)(L:List Int)(x:Int)(hx:I64 x)(hL:∀ y∈L,I64 y)(r:Bool)(hr:okD U.length (L,x)=r)(va mv:Value)(w:World)(h:Has w va (ivs L))(hM:MapU w mv U):
  Calls Tryz.prog 235 #[.agg #[va,.int .i64 x],mv] w fun e w'=>e=.returned (.tuple #[shv (shpR r (κU U) (L,x)),.bool r])∧Below w.heap.size w w':=by
 have ai:=z_ (fun x (hx:I64 x) r hr W (hW:Below w.heap.size w W)=>qid U mv x hx.1 hx.2 r hr W (hM.below hW));have au:=z_ (fun x (hx:I64 x) W (hW:Below w.heap.size w W)=>(hM.below hW).look hx.1 hx.2);obtain ⟨m,hm⟩:=e_ (L.length);obtain ⟨A,ca,rfl,h'⟩:=h.shape ((qas L).trans hm.symm);have aE:=h'.len.2;have HH:=z_ h';have HM:=z_ hm;have HX:=z_ hx;have aj:=z_ hL;clear h h' hM hm hL hx;by_cases az:3<m
 ·have HR:Hid (r=false):=z_ (by rw [← hr,okD];have:=HM.out;simp;omega)
  clear hr;go_enter Tryz.func235,Tryz.ntmps235
  go_wp2;refine bodyPost_ret (v:=.tuple #[shv zsh,.bool false]) (by simp [results,Tryz.results235,go_sem,shv,zsh]) rfl ⟨by rw [HR.out];rfl,?_⟩;exact c29_
 cases ab:inN U.length x with
 | false=>
  have HR:Hid (r=false):=z_ (by rw [← hr,okD,ab];simp);have HS:=z_ (fun W hW=>ai.out x HX.out false ab W hW);clear hr ab;go_enter Tryz.func235,Tryz.ntmps235
  go_wp2_with fail
  refine (HS.out _ ?_).mono ?_
  ·exact c29_
  rintro e w1 ⟨rfl,rfl⟩;go_wp2;refine bodyPost_ret (v:=.tuple #[shv zsh,.bool false]) (by simp [results,Tryz.results235,go_sem,shv,zsh]) rfl ⟨by rw [HR.out];rfl,?_⟩;repeat (first|exact Below.refl _ _|refine Below.setCell ?_ (by first|(simp;done)|(simp;omega)) _|refine Below.alloc ?_ (by first|(simp;done)|(simp;omega)) _)
 | true=>
  have HS:=z_ (fun W hW=>ai.out x HX.out true ab W hW);have ak:=z_ (fun W hW=>au.out x HX.out W hW);have av:=qAk ab;have al:=z_ ab;rw [av] at ak;obtain ⟨c,hc⟩:=e_ (κU U x);rw [← hc] at ak;have HC:=z_ hc;clear ab av hc;go_enter Tryz.func235,Tryz.ntmps235
  go_wp2_with fail
  refine (HS.out _ ?_).mono ?_
  ·exact c29_
  rintro e w1 ⟨rfl,hw⟩;have aw:Below w.heap.size w w1:=by rw [← hw];exact v_
  have am:w1.heap.size=w.heap.size+2:=by rw [← hw];simp
  have k0:w1.heap[w.heap.size]? =some (.cells #[.slice A m ca,.int .i64 x] 199 (0,0)):=by rw [← hw,Below.heap_alloc _ _ _ (by simp)];exact qa5 _ _ _ rfl
  have k1:w1.heap[w.heap.size+1]? =some (.cells #[.int .i64 0,.int .u16 0,.int .u16 0,.int .u16 0,.int .u16 0] 179 (0,0)):=by rw [← hw];exact qa5 _ _ _ (by simp)
  have c0:=h_ w1 _ 0 _ _ _ k0;have c1:=h_ w1 _ 1 _ _ _ k0;have ae:=ak.out w1 aw;have K1:=z_ k1;clear hw k0 k1;go_wp2_with fail
  go_loopw [32] (fun i wr=>∃ k:Nat,k≤m∧i=.int .i64 k∧Hid (∀ j,j<k→inN U.length (L.getD j 0)=true)∧
    Hid (wr.heap[w.heap.size+2]? =some (.cells #[.int .i64 (m:Int),.int .u16 ((plk (κU U) L k 0:Nat):Int),.int .u16 ((plk (κU U) L k 1:Nat):Int),.int .u16 ((plk (κU U) L k 2:Nat):Int),.int .u16 (c:Int)] 179 (0,0)))∧
    Hid (wr.heap[w.heap.size+1]? =some (.cells #[.int .i64 0,.int .u16 0,.int .u16 0,.int .u16 0,.int .u16 0] 179 (0,0)))∧Below w.heap.size w wr) (fun i _=>m-(intOf i).toNat)
  case atStart=>
   refine ⟨0,y_,rfl,z_ (fun j hj=>by omega),z_ ?_,z_ ?_,aw.alloc o_ _⟩
   ·exact qa5 _ _ _ am.symm
   ·rw [Below.heap_alloc _ _ _ o_];exact K1.out
  case round=>
   obtain ⟨k,hk,rfl,ax,ad,HZ,aa⟩:=hrel;by_cases hlt:k<m
   ·obtain ⟨ga,oa,rfl,aA,an⟩:=HH.out.cellAt hlt
    rw [qag L k (by have:=HM.out;omega),← aa.cell (p:=⟨ga,oa+k,none⟩) aA] at an;have ac:I64 (L.getD k 0):=aj.out _ (by rw [List.getD_eq_getElem?_getD,List.getElem?_eq_getElem (by have:=HM.out;omega)];exact List.getElem_mem _);have ay:=z_ (fun r hr W hW=>ai.out (L.getD k 0) ac r hr W hW);have aF:=z_ aa;have d0:=h_ wr _ 0 _ _ _ HZ.out;have d1:=h_ wr _ 1 _ _ _ HZ.out;have d2:=h_ wr _ 2 _ _ _ HZ.out;have d3:=h_ wr _ 3 _ _ _ HZ.out;have d4:=h_ wr _ 4 _ _ _ HZ.out;have af:∀ j,wr.frozen? ⟨w.heap.size+1,j,none⟩=false:=fun j=>g_ wr _ j _ _ HZ.out
    cases ag:inN U.length (L.getD k 0) with
    | false=>
     have HR:Hid (r=false):=z_ (by rw [← hr];exact quo (by have:=HM.out;omega) ag);have ah:=z_ (ay.out false ag wr aa);obtain ⟨y,hy⟩:=e_ (L.getD k 0);rw [← hy] at an ah;have f0:=af 0;have f1:=af 1;have f2:=af 2;have f3:=af 3;have f4:=af 4;clear ag hr ac hy af c0 c1 ae;go_wp2_with fail
     refine ah.out.mono ?_;rintro e w2 ⟨rfl,rfl⟩;go_wp2;refine bodyPost_ret (v:=.tuple #[shv zsh,.bool false]) (by simp [results,Tryz.results235,go_sem,shv,zsh,d0,d1,d2,d3,d4]) rfl ⟨by rw [HR.out];rfl,?_⟩;exact c30_
    | true=>
     have ah:=z_ (ay.out true ag wr aa);have ao:=au.out (L.getD k 0) ac wr aa;rw [qAk ag] at ao;obtain ⟨y,hy⟩:=e_ (L.getD k 0);rw [← hy] at an ah ao;obtain ⟨z,hz⟩:=e_ (κU U y);rw [← hz] at ao;have aB:=z_ hz;have ap:=z_ hy;have aq:=z_ ag;have aC:k<3:=o_;obtain ⟨v0,aG⟩:∃ v,wr.cell? ⟨w.heap.size+2,1+k,none⟩=some v:=by
      rw [h_ wr _ (1+k) _ _ _ ad.out];exact ⟨_,Array.getElem?_eq_getElem (by simp;omega)⟩
     have aH:=g_ wr _ (1+k) _ _ ad.out;clear ag hr ac hy hz af c0 c1 ae d0 d1 d2 d3 d4;go_wp2_with fail
     refine ah.out.mono ?_;rintro e w2 ⟨rfl,rfl⟩;go_wp2;go_roundw
     case rel=>
      refine ⟨k+1,by omega,by go_num,z_ (fun j hj=>?_),z_ ?_,z_ ?_,aa.setCell (by first|(simp;done)|(simp;omega)) _⟩
      ·by_cases e:j=k
       ·subst e;rw [← ap.out];rw [ap.out];exact aq.out
       ·exact ax.out j o_
      ·rw [qAj ad.out]
       have hz:=aB.out;have hy:=ap.out;match k,aC with
       | 0,_=>simp [plk,hz,hy]
       | 1,_=>simp [plk,hz,hy]
       | 2,_=>simp [plk,hz,hy]
      ·rw [Below.heap_setCell _ _ _ _ (by simp)];exact HZ.out
     case measure=>simp [intOf];omega
   ·obtain rfl:k=m:=o_
    have HR:Hid (r=true):=z_ (by rw [← hr];exact qqt (by have:=HM.out;omega) al.out (fun j hj=>ax.out j (by have:=HM.out;omega)))
    have aD:Hid (shpR r (κU U) (L,x)=(k,plk (κU U) L k 0,plk (κU U) L k 1,plk (κU U) L k 2,c)):=z_ (by
     rw [HR.out];have:=HM.out;subst this;rw [HC.out]
     rfl)
    have s0:=h_ wr _ 0 _ _ _ ad.out;have s1:=h_ wr _ 1 _ _ _ ad.out;have s2:=h_ wr _ 2 _ _ _ ad.out;have s3:=h_ wr _ 3 _ _ _ ad.out;have s4:=h_ wr _ 4 _ _ _ ad.out;have d0:=h_ wr _ 0 _ _ _ HZ.out;have d1:=h_ wr _ 1 _ _ _ HZ.out;have d2:=h_ wr _ 2 _ _ _ HZ.out;have d3:=h_ wr _ 3 _ _ _ HZ.out;have d4:=h_ wr _ 4 _ _ _ HZ.out;have f0:=g_ wr _ 0 _ _ HZ.out;have f1:=g_ wr _ 1 _ _ HZ.out;have f2:=g_ wr _ 2 _ _ HZ.out;have f3:=g_ wr _ 3 _ _ HZ.out;have f4:=g_ wr _ 4 _ _ HZ.out;clear hr c0 c1 ae;generalize plk (κU U) L k 0=p0 at *
    generalize plk (κU U) L k 1=p1 at *
    generalize plk (κU U) L k 2=p2 at *
    go_wp2;refine bodyPost_ret (v:=.tuple #[shv (k,p0,p1,p2,c),.bool true]) (by simp [results,Tryz.results235,go_sem,shv,d0,d1,d2,d3,d4]) rfl ⟨by rw [aD.out,HR.out],?_⟩;exact c30_
end sigi

namespace sigj
open mem subs setm sortp sorti rowl sigm sigs sigi
theorem qie (a b c d f:Nat):shv (a,b,c,d,f)=.agg #[.int .i64 (a:Int),.int .u16 (b:Int),.int .u16 (c:Int),.int .u16 (d:Int),.int .u16 (f:Int)]:=rfl
theorem qdi {n:Nat}{κ:Int→Nat}{D:List (List Int×Int)}{j:Nat}(hj:j<D.length)(h:okD n (D.getD j default)=false∨¬ kD κ (D.getD j default)=kD κ (hd0 D)):qab n κ D=false:=by
 have:(D.all fun d=>okD n d&&decide (kD κ d=kD κ (hd0 D)))=false:=by
  rw [List.all_eq_false];refine ⟨D[j],List.getElem_mem hj,?_⟩;have e:D.getD j default=D[j]:=by simp [List.getD,List.getElem?_eq_getElem hj]
  rw [e] at h;rcases h with h|h
  ·simp [h]
  ·simp [h]
 simp [qab,this]
theorem qh3 {n:Nat}{κ:Int→Nat}{D:List (List Int×Int)}(h1:1≤D.length)(h2:D.length≤4)(h3:∀ j,j<D.length→okD n (D.getD j default)=true∧kD κ (D.getD j default)=kD κ (hd0 D)):qab n κ D=true:=by
 simp only [qab,Bool.and_eq_true,decide_eq_true_eq,List.all_eq_true];refine ⟨⟨h1,h2⟩,fun d hd=>?_⟩;obtain ⟨k,hk,rfl⟩:=List.getElem_of_mem hd;have:=h3 k hk;have e:D.getD k default=D[k]:=by simp [List.getD,List.getElem?_eq_getElem hk]
 rw [e] at this;exact this
theorem c31_ {p:Prop}(h:p:=by
 have HR:Hid (r=false):=z_ (by rw [← hr,qab];have:=HN.out;simp;omega);clear hr;go_enter Tryz.func217,Tryz.ntmps217
 go_wp2;refine bodyPost_ret (v:=.tuple #[shv zsh,.bool false]) (by simp [results,Tryz.results217,go_sem,shv,zsh]) rfl ⟨by rw [HR.out];rfl,?_⟩;repeat (first|exact Below.refl _ _|refine Below.setCell ?_ (by first|(simp;done)|(simp;omega)) _|refine Below.alloc ?_ (by first|(simp;done)|(simp;omega)) _)
):p:=h
theorem c32_ {p:Prop}(h:p:=by
 go_wp2;refine bodyPost_ret (v:=.tuple #[shv zsh,.bool false]) (by simp [results,Tryz.results217,go_sem,shv,zsh,d0,d1,d2,d3,d4,ak]) rfl ⟨by rw [HR.out];rfl,?_⟩;repeat (first|refine Below.setCell ?_ (by first|(simp;done)|(simp;omega)) _|refine Below.alloc ?_ (by first|(simp;done)|(simp;omega)) _)
 exact ac
):p:=h
set_option maxRecDepth 20000 in
set_option maxHeartbeats 4000000 in
theorem qif (U:List Nat)(hU:Lim U)(D:List (List Int×Int))(r:Bool)(hr:qab U.length (κU U) D=r)(va mv:Value)(w:World){lo:Nat}(h:HasD lo w va D)(hM:MapU w mv U):
  Calls Tryz.prog 217 #[va,mv] w fun e w'=>e=.returned (.tuple #[shv (shpR r (κU U) (hd0 D)),.bool r])∧Below w.heap.size w w':=by
 have ao:Hid (∀ (d:List Int×Int) (r:Bool) (va:Value) (W:World),I64 d.2→(∀ y∈d.1,I64 y)→okD U.length d=r→Below w.heap.size w W→Has W va (ivs d.1)→
   Calls Tryz.prog 235 #[.agg #[va,.int .i64 d.2],mv] W fun e w'=>e=.returned (.tuple #[shv (shpR r (κU U) d),.bool r])∧Below W.heap.size W w'):=
  z_ (fun d r va W h1 h2 hr hW hH=>qos U hU d.1 d.2 h1 h2 r hr va mv W hH (hM.below hW))
 obtain ⟨n,hn⟩:=e_ (D.length);obtain ⟨A,ca,rfl,h'⟩:=HasR.shape h hn.symm;have aQ:=h'.len.2.1;have aJ:=h'.len.2.2;have HH:=z_ h';have HN:=z_ hn;clear h h' hn hM;by_cases aR:n<1
 ·exact c31_
 by_cases aS:4<n
 ·exact c31_
 obtain ⟨g,o,A2,c2,rfl,_,hg,ad,af,hh,ag,ah⟩:=qba HH.out (j:=0) o_;have hd:D.getD 0 default=hd0 D:=rfl;rw [hd] at ad af hh ag ah;rw [show o+0*2=o by omega] at ad af;have ap:=z_ (And.intro ag ah);have av:=z_ hh.has;obtain ⟨m,hm⟩:=e_ ((hd0 D).1.length);rw [← hm] at ad av;obtain ⟨x,hx⟩:=e_ ((hd0 D).2);rw [← hx] at af;have HX:=z_ hx;clear hh ag ah hd hm hx;cases ab:okD U.length (hd0 D) with
 | false=>
  have HR:Hid (r=false):=z_ (by rw [← hr];exact qdi (j:=0) (by have:=HN.out;omega) (.inl ab));have HC:=z_ (fun va W hW hH=>ao.out (hd0 D) false va W ap.out.1 ap.out.2 ab hW hH);rw [← HX.out] at HC;clear ab hr;go_enter Tryz.func217,Tryz.ntmps217
  go_wp2_with fail
  refine (HC.out _ _ (b_.alloc n_ _) (av.out.below n_ (b_.alloc n_ _))).mono ?_;rintro e w1 ⟨he,ae⟩;rw [shpR,if_neg (by simp),zsh,qie] at he;subst he;have aw:Below w.heap.size w w1:=(b_.alloc n_ _).trans (ae.mono (by simp));have k1:w1.heap[w.heap.size]? =some (.cells #[.int .i64 0,.int .u16 0,.int .u16 0,.int .u16 0,.int .u16 0] 179 (0,0)):=by rw [ae.block _ (by simp)];exact qa5 _ _ _ rfl
  have d0:=h_ w1 _ 0 _ _ _ k1;have d1:=h_ w1 _ 1 _ _ _ k1;have d2:=h_ w1 _ 2 _ _ _ k1;have d3:=h_ w1 _ 3 _ _ _ k1;have d4:w1.cell? ⟨w.heap.size,4,none⟩=some (.int .u16 0):=h_ w1 _ 4 _ _ _ k1;have f0:=g_ w1 _ 0 _ _ k1;have f1:=g_ w1 _ 1 _ _ k1;have f2:=g_ w1 _ 2 _ _ k1;have f3:=g_ w1 _ 3 _ _ k1;have f4:=g_ w1 _ 4 _ _ k1;have hz:w.heap.size<w1.heap.size:=by have:=ae.size;simp at this;omega
  clear ae k1;go_wp2;refine bodyPost_ret (v:=.tuple #[shv zsh,.bool false]) (by simp [results,Tryz.results217,go_sem,shv,zsh,d0,d1,d2,d3,d4,hz]) rfl ⟨by rw [HR.out];rfl,?_⟩;repeat (first|refine Below.setCell ?_ (by first|(simp;done)|(simp;omega)) _|refine Below.alloc ?_ (by first|(simp;done)|(simp;omega)) _)
  exact aw
 | true=>
  have HC:=z_ (fun va W hW hH=>ao.out (hd0 D) true va W ap.out.1 ap.out.2 ab hW hH);have aj:=z_ ab;rw [← HX.out] at HC;obtain ⟨⟨s0,s1,s2,s3,s4⟩,hs⟩:∃ s,s=shpR true (κU U) (hd0 D):=⟨_,rfl⟩;rw [← hs] at HC;have ax:Hid ((s0,s1,s2,s3,s4)=shp (κU U) (hd0 D)):=z_ hs;obtain ⟨A4,c4,ay,HT⟩:∃ A4 c4,(∀ W,(Instr.sliceAt 122 (.slice (some ⟨g,o,none⟩) n ca) (some (.int .i64 1)) none none).run Tryz.prog W=.ok (.slice A4 (n-1) c4) W)∧Hid (HasD lo w (.slice A4 (n-1) c4) D.tail):=by
   have hel:Tryz.prog.elem 122=199:=by kernel_rfl
   have ay:Tryz.prog.underlying 122=some (.slice (Tryz.prog.elem 122)):=by rw [hel];exact Tryz.underlying122
   obtain ⟨i0,hi,aT,aK,ak⟩:=info_parts sigt.qmx;have hcs:Tryz.prog.cellsOf 199=2:=by kernel_rfl
   have al:∀ W,(Instr.sliceAt 122 (.slice (some ⟨g,o,none⟩) n ca) (some (.int .i64 1)) none none).run Tryz.prog W=.ok (sliced (some ⟨g,o,none⟩) 1 n ca 2) W:=fun W=>by
    rw [run_sliceAt_slice W _ _ _ _ _ ay,run_slice_l W _ _ _ _ ay .i64 1 o_ o_,hel,run_sizeOf W hi,hcs];rfl
   by_cases h1:ca=1
   ·have aL:n=1:=o_
    refine ⟨some ⟨g,o,none⟩,ca-1,fun W=>?_,z_ ?_⟩
    ·rw [al W,sliced,if_pos h1]
    ·have:D.tail=[]:=List.eq_nil_of_length_eq_zero (by rw [List.length_tail];have:=HN.out;omega)
     rw [this,aL,h1];exact HasR.nil _ _ _ (by unfold maxLen;omega) _
   ·refine ⟨some ⟨g,o+2,none⟩,ca-1,fun W=>?_,z_ (HasR.tail HH.out (by omega:1≤n))⟩
    rw [al W,sliced,if_neg h1];simp [Addr.add]
  clear ab hs;go_enter Tryz.func217,Tryz.ntmps217
  go_wp2_with fail
  refine (HC.out _ _ (b_.alloc n_ _) (av.out.below n_ (b_.alloc n_ _))).mono ?_;rintro e w1 ⟨he,ae⟩;rw [qie] at he;subst he;have aw:Below w.heap.size w w1:=(b_.alloc n_ _).trans (ae.mono (by simp));have k1:w1.heap[w.heap.size]? =some (.cells #[.int .i64 0,.int .u16 0,.int .u16 0,.int .u16 0,.int .u16 0] 179 (0,0)):=by rw [ae.block _ (by simp)];exact qa5 _ _ _ rfl
  have K1:=z_ k1;have hz:w.heap.size<w1.heap.size:=by have:=ae.size;simp at this;omega
  clear ae k1 ad af;go_wp2_with fail
  go_loopw [35] (fun i wr=>∃ k:Nat,k≤n-1∧i=.int .i64 k∧Hid (∀ j,j<k+1→okD U.length (D.getD j default)=true∧kD (κU U) (D.getD j default)=kD (κU U) (hd0 D))∧
    Hid (wr.heap[w.heap.size]? =some (.cells #[.int .i64 0,.int .u16 0,.int .u16 0,.int .u16 0,.int .u16 0] 179 (0,0)))∧
    Hid (wr.heap[w1.heap.size]? =some (.cells #[.int .i64 (s0:Int),.int .u16 (s1:Int),.int .u16 (s2:Int),.int .u16 (s3:Int),.int .u16 (s4:Int)] 179 (0,0)))∧w1.heap.size<wr.heap.size∧Below w.heap.size w wr) (fun i _=>n-1-(intOf i).toNat)
  case atStart=>
   refine ⟨0,y_,rfl,z_ (fun j hj=>?_),z_ ?_,z_ ?_,by simp,aw.alloc o_ _⟩
   ·obtain rfl:j=0:=o_
    exact ⟨aj.out,rfl⟩
   ·rw [Below.heap_alloc _ _ _ o_];exact K1.out
   ·exact qa5 _ _ _ rfl
  case round=>
   obtain ⟨k,hk,rfl,am,HZ,HS,aK,aa⟩:=hrel;by_cases hlt:k<n-1
   ·obtain ⟨g',o',A3,c3,rfl,_,aF,ad,af,hh,ag,ah⟩:=qba HT.out hlt
    have aG:D.tail.getD k default=D.getD (k+1) default:=by cases D<;>simp
    rw [aG] at ad af hh ag ah;rw [← aa.cell (p:=⟨g',o'+k*2,none⟩) aF] at ad;rw [← aa.cell (p:=⟨g',o'+k*2+1,none⟩) aF] at af;have aq:=hh.has.below n_ aa;have az:Hid (okD U.length (D.getD (k+1) default)=false∨¬ kD (κU U) (D.getD (k+1) default)=kD (κU U) (hd0 D)→r=false):=z_ (fun hb=>by rw [← hr];exact qdi (by have:=HN.out;omega) hb);have aA:Hid (okD U.length (D.getD (k+1) default)=true→(shp (κU U) (D.getD (k+1) default)=shp (κU U) (hd0 D)↔kD (κU U) (D.getD (k+1) default)=kD (κU U) (hd0 D))):=z_ (fun hb=>qAi hb aj.out)
    have aH:Hid (okD U.length (D.getD (k+1) default)=true→kD (κU U) (D.getD (k+1) default)=kD (κU U) (hd0 D)→∀ j,j<k+1+1→okD U.length (D.getD j default)=true∧kD (κU U) (D.getD j default)=kD (κU U) (hd0 D)):=z_ (fun h1 h2 j hj=>by
     by_cases e:j=k+1
     ·subst e;exact ⟨h1,h2⟩
     ·exact am.out j o_)
    obtain ⟨⟨l,x2⟩,hd⟩:∃ d,d=D.getD (k+1) default:=⟨_,rfl⟩;rw [← hd] at ad af aq ag ah az aA aH;obtain ⟨m2,aI⟩:=e_ (l.length);rw [← aI] at ad aq;have aB:=z_ aq;have HI:=z_ (And.intro ag ah);clear hh aq ag ah hd aI aG hr;cases ai:okD U.length (l,x2) with
    | false=>
     have HR:=z_ (az.out (.inl ai));have an:=z_ (fun va W hW hH=>ao.out (l,x2) false va W HI.out.1 HI.out.2 ai hW hH);clear ai;go_wp2_with fail
     refine (an.out _ _ (aa.alloc o_ _) (aB.out.below n_ (b_.alloc n_ _))).mono ?_;rintro e w2 ⟨he,hb2⟩;rw [shpR,if_neg (by simp),zsh,qie] at he;subst he;have ac:Below w.heap.size w w2:=(aa.alloc o_ _).trans (hb2.mono (by simp;omega));have k2:w2.heap[w.heap.size]? =some (.cells #[.int .i64 0,.int .u16 0,.int .u16 0,.int .u16 0,.int .u16 0] 179 (0,0)):=by rw [hb2.block _ (by simp;omega),Below.heap_alloc _ _ _ o_];exact HZ.out
     have d0:w2.cell? ⟨w.heap.size,0,none⟩=some (.int .i64 0):=h_ w2 _ 0 _ _ _ k2;have d1:w2.cell? ⟨w.heap.size,1,none⟩=some (.int .u16 0):=h_ w2 _ 1 _ _ _ k2;have d2:w2.cell? ⟨w.heap.size,2,none⟩=some (.int .u16 0):=h_ w2 _ 2 _ _ _ k2;have d3:w2.cell? ⟨w.heap.size,3,none⟩=some (.int .u16 0):=h_ w2 _ 3 _ _ _ k2;have d4:w2.cell? ⟨w.heap.size,4,none⟩=some (.int .u16 0):=h_ w2 _ 4 _ _ _ k2;have f0:=g_ w2 _ 0 _ _ k2;have f1:=g_ w2 _ 1 _ _ k2;have f2:=g_ w2 _ 2 _ _ k2;have f3:=g_ w2 _ 3 _ _ k2;have f4:=g_ w2 _ 4 _ _ k2;have ak:w.heap.size<w2.heap.size:=by have:=hb2.size;simp at this;omega
     clear hb2 k2;exact c32_
    | true=>
     have an:=z_ (fun va W hW hH=>ao.out (l,x2) true va W HI.out.1 HI.out.2 ai hW hH);have aC:=z_ ai;obtain ⟨⟨t0,t1,t2,t3,t4⟩,aD⟩:∃ s,s=shpR true (κU U) (l,x2):=⟨_,rfl⟩;rw [← aD] at an;have au:(t0,t1,t2,t3,t4)=shp (κU U) (l,x2):=aD;clear ai aD;cases hq:decide (((t0,t1,t2,t3,t4):Shp)=(s0,s1,s2,s3,s4)) with
     | false=>
      have aE:∀ W,(binOp .neq 179 (.agg #[.int .i64 (t0:Int),.int .u16 (t1:Int),.int .u16 (t2:Int),.int .u16 (t3:Int),.int .u16 (t4:Int)]) (.agg #[.int .i64 (s0:Int),.int .u16 (s1:Int),.int .u16 (s2:Int),.int .u16 (s3:Int),.int .u16 (s4:Int)])).run Tryz.prog W=.ok (.bool true) W:=fun W=>qmw _ _ _ hq W
      have HR:=z_ (az.out (.inr (fun e=>by
       have h3:=(aA.out aC.out).2 e;rw [← au,← ax.out] at h3
       simp [h3] at hq)))
      clear hq au;go_wp2_with fail
      refine (an.out _ _ (aa.alloc o_ _) (aB.out.below n_ (b_.alloc n_ _))).mono ?_;rintro e w2 ⟨he,hb2⟩;rw [qie] at he;subst he;have ac:Below w.heap.size w w2:=(aa.alloc o_ _).trans (hb2.mono (by simp;omega));have k2:w2.heap[w.heap.size]? =some (.cells #[.int .i64 0,.int .u16 0,.int .u16 0,.int .u16 0,.int .u16 0] 179 (0,0)):=by rw [hb2.block _ (by simp;omega),Below.heap_alloc _ _ _ o_];exact HZ.out
      have k3:w2.heap[w1.heap.size]? =some (.cells #[.int .i64 (s0:Int),.int .u16 (s1:Int),.int .u16 (s2:Int),.int .u16 (s3:Int),.int .u16 (s4:Int)] 179 (0,0)):=by rw [hb2.block _ (by simp;omega),Below.heap_alloc _ _ _ o_];exact HS.out
      have d0:w2.cell? ⟨w.heap.size,0,none⟩=some (.int .i64 0):=h_ w2 _ 0 _ _ _ k2;have d1:w2.cell? ⟨w.heap.size,1,none⟩=some (.int .u16 0):=h_ w2 _ 1 _ _ _ k2;have d2:w2.cell? ⟨w.heap.size,2,none⟩=some (.int .u16 0):=h_ w2 _ 2 _ _ _ k2;have d3:w2.cell? ⟨w.heap.size,3,none⟩=some (.int .u16 0):=h_ w2 _ 3 _ _ _ k2;have d4:w2.cell? ⟨w.heap.size,4,none⟩=some (.int .u16 0):=h_ w2 _ 4 _ _ _ k2;have f0:=g_ w2 _ 0 _ _ k2;have f1:=g_ w2 _ 1 _ _ k2;have f2:=g_ w2 _ 2 _ _ k2;have f3:=g_ w2 _ 3 _ _ k2;have f4:=g_ w2 _ 4 _ _ k2;have u0:w2.cell? ⟨w1.heap.size,0,none⟩=some (.int .i64 (s0:Int)):=h_ w2 _ 0 _ _ _ k3;have u1:w2.cell? ⟨w1.heap.size,1,none⟩=some (.int .u16 (s1:Int)):=h_ w2 _ 1 _ _ _ k3;have u2:w2.cell? ⟨w1.heap.size,2,none⟩=some (.int .u16 (s2:Int)):=h_ w2 _ 2 _ _ _ k3;have u3:w2.cell? ⟨w1.heap.size,3,none⟩=some (.int .u16 (s3:Int)):=h_ w2 _ 3 _ _ _ k3;have u4:w2.cell? ⟨w1.heap.size,4,none⟩=some (.int .u16 (s4:Int)):=h_ w2 _ 4 _ _ _ k3;have ak:w.heap.size<w2.heap.size:=by have:=hb2.size;simp at this;omega
      have aM:w1.heap.size<w2.heap.size:=by have:=hb2.size;simp at this;omega
      clear hb2 k2 k3;exact c32_
     | true=>
      have aE:∀ W,(binOp .neq 179 (.agg #[.int .i64 (t0:Int),.int .u16 (t1:Int),.int .u16 (t2:Int),.int .u16 (t3:Int),.int .u16 (t4:Int)]) (.agg #[.int .i64 (s0:Int),.int .u16 (s1:Int),.int .u16 (s2:Int),.int .u16 (s3:Int),.int .u16 (s4:Int)])).run Tryz.prog W=.ok (.bool false) W:=fun W=>qmw _ _ _ hq W
      have aN:=z_ (aH.out aC.out ((aA.out aC.out).1 (by rw [← au,← ax.out];exact of_decide_eq_true hq)));clear hq au;go_wp2_with fail
      refine (an.out _ _ (aa.alloc o_ _) (aB.out.below n_ (b_.alloc n_ _))).mono ?_;rintro e w2 ⟨he,hb2⟩;rw [qie] at he;subst he;have ac:Below w.heap.size w w2:=(aa.alloc o_ _).trans (hb2.mono (by simp;omega));have k2:w2.heap[w.heap.size]? =some (.cells #[.int .i64 0,.int .u16 0,.int .u16 0,.int .u16 0,.int .u16 0] 179 (0,0)):=by rw [hb2.block _ (by simp;omega),Below.heap_alloc _ _ _ o_];exact HZ.out
      have k3:w2.heap[w1.heap.size]? =some (.cells #[.int .i64 (s0:Int),.int .u16 (s1:Int),.int .u16 (s2:Int),.int .u16 (s3:Int),.int .u16 (s4:Int)] 179 (0,0)):=by rw [hb2.block _ (by simp;omega),Below.heap_alloc _ _ _ o_];exact HS.out
      have aO:=z_ k2;have aP:=z_ k3;have u0:w2.cell? ⟨w1.heap.size,0,none⟩=some (.int .i64 (s0:Int)):=h_ w2 _ 0 _ _ _ k3;have u1:w2.cell? ⟨w1.heap.size,1,none⟩=some (.int .u16 (s1:Int)):=h_ w2 _ 1 _ _ _ k3;have u2:w2.cell? ⟨w1.heap.size,2,none⟩=some (.int .u16 (s2:Int)):=h_ w2 _ 2 _ _ _ k3;have u3:w2.cell? ⟨w1.heap.size,3,none⟩=some (.int .u16 (s3:Int)):=h_ w2 _ 3 _ _ _ k3;have u4:w2.cell? ⟨w1.heap.size,4,none⟩=some (.int .u16 (s4:Int)):=h_ w2 _ 4 _ _ _ k3;have aM:w1.heap.size<w2.heap.size:=by have:=hb2.size;simp at this;omega
      clear hb2 k2 k3;go_wp2;go_roundw
      case rel=>
       refine ⟨k+1,by omega,by go_num,aN,z_ ?_,z_ ?_,by simp;omega,ac.alloc o_ _⟩
       ·rw [Below.heap_alloc _ _ _ o_];exact aO.out
       ·rw [Below.heap_alloc _ _ _ o_];exact aP.out
      case measure=>simp [intOf];omega
   ·obtain rfl:k=n-1:=o_
    have HR:Hid (r=true):=z_ (by rw [← hr];exact qh3 (by have:=HN.out;omega) (by have:=HN.out;omega) (fun j hj=>am.out j (by have:=HN.out;omega)));have d0:wr.cell? ⟨w.heap.size,0,none⟩=some (.int .i64 0):=h_ wr _ 0 _ _ _ HZ.out;have d1:wr.cell? ⟨w.heap.size,1,none⟩=some (.int .u16 0):=h_ wr _ 1 _ _ _ HZ.out;have d2:wr.cell? ⟨w.heap.size,2,none⟩=some (.int .u16 0):=h_ wr _ 2 _ _ _ HZ.out;have d3:wr.cell? ⟨w.heap.size,3,none⟩=some (.int .u16 0):=h_ wr _ 3 _ _ _ HZ.out;have d4:wr.cell? ⟨w.heap.size,4,none⟩=some (.int .u16 0):=h_ wr _ 4 _ _ _ HZ.out;have f0:=g_ wr _ 0 _ _ HZ.out;have f1:=g_ wr _ 1 _ _ HZ.out;have f2:=g_ wr _ 2 _ _ HZ.out;have f3:=g_ wr _ 3 _ _ HZ.out;have f4:=g_ wr _ 4 _ _ HZ.out;have u0:wr.cell? ⟨w1.heap.size,0,none⟩=some (.int .i64 (s0:Int)):=h_ wr _ 0 _ _ _ HS.out;have u1:wr.cell? ⟨w1.heap.size,1,none⟩=some (.int .u16 (s1:Int)):=h_ wr _ 1 _ _ _ HS.out;have u2:wr.cell? ⟨w1.heap.size,2,none⟩=some (.int .u16 (s2:Int)):=h_ wr _ 2 _ _ _ HS.out;have u3:wr.cell? ⟨w1.heap.size,3,none⟩=some (.int .u16 (s3:Int)):=h_ wr _ 3 _ _ _ HS.out;have u4:wr.cell? ⟨w1.heap.size,4,none⟩=some (.int .u16 (s4:Int)):=h_ wr _ 4 _ _ _ HS.out;have ak:w.heap.size<wr.heap.size:=o_;clear hr;go_wp2;refine bodyPost_ret (v:=.tuple #[shv (s0,s1,s2,s3,s4),.bool true]) (by simp [results,Tryz.results217,go_sem,shv,d0,d1,d2,d3,d4]) rfl ⟨by rw [HR.out,ax.out];rfl,?_⟩;repeat (first|refine Below.setCell ?_ (by first|(simp;done)|(simp;omega)) _|refine Below.alloc ?_ (by first|(simp;done)|(simp;omega)) _)
    exact aa
end sigj

namespace sigk
set_option maxRecDepth 20000
open mem split subs sortp sorti rowl sigm sigs sigi sigj
def RS:qhd Shp:=fun _ _ cs s=>cs=shcs s
theorem qfu:Steady RS:=⟨fun h _=>h,fun h _=>h⟩
instance:Inhabited Shp:=⟨zsh⟩
abbrev HasT (w:World)(v:Value)(S:List Shp):Prop:=HasR RS 5 0 w v S
theorem ql7 {w:World}{A:Option Addr}{n c:Nat}{S:List Shp}(h:HasT w (.slice A n c) S){j:Nat}(hj:j<n):
  ∃ g o,A=some ⟨g,o,none⟩∧g<w.heap.size∧w.cell? ⟨g,o+j*5,none⟩=some (.int .i64 ((S.getD j default).1:Int))∧w.cell? ⟨g,o+j*5+1,none⟩=some (.int .u16 ((S.getD j default).2.1:Int))∧
   w.cell? ⟨g,o+j*5+2,none⟩=some (.int .u16 ((S.getD j default).2.2.1:Int))∧w.cell? ⟨g,o+j*5+3,none⟩=some (.int .u16 ((S.getD j default).2.2.2.1:Int))∧w.cell? ⟨g,o+j*5+4,none⟩=some (.int .u16 ((S.getD j default).2.2.2.2:Int)):=by
 obtain ⟨g,o,cs,e,_,hg,hc,hr⟩:=h.get hj;have hr:cs=shcs (S.getD j default):=hr;subst hr;exact ⟨g,o,e,hg,hc 0 o_,hc 1 o_,hc 2 o_,hc 3 o_,hc 4 o_⟩
theorem qBz:∀ (S:List Shp) (j:Nat),j<S.length→∀ i,i<5→(S.flatMap shcs)[j*5+i]? =some ((shcs (S.getD j default)).getD i undef)
 | [],_,h,_,_=>by simp at h
 | s::S,0,_,i,hi=>by
  have hl:(shcs s).length=5:=rfl;rw [List.flatMap_cons,Nat.zero_mul,Nat.zero_add,List.getElem?_append_left o_];simp [List.getD,List.getElem?_eq_getElem (show i<(shcs s).length by omega)]
 | s::S,j+1,h,i,hi=>by
  have hl:(shcs s).length=5:=rfl;rw [List.flatMap_cons,List.getElem?_append_right o_,show (j+1)*5+i-(shcs s).length=j*5+i by omega,qBz S j (by simpa using h) i hi];simp
theorem HasT.of_own {w:World}{base n:Nat}{e:TypeId}{v:Value}{S:List Shp}(h:w.ownsRow base e 5 v n (S.flatMap shcs))(hS:S.length=n):HasT w v S:=
 (HasR.of_own (R:=RS) h hS (fun j hj=>⟨_,qBz S j o_,rfl⟩)).mono qfu y_
def qmy (a c:Bool)(u:Int)(s:Shp):Bool:=if a || decide (u≠0) then decide (s=(2,s.2.1,s.2.1,0,s.2.1)) else (!c || decide (s=(2,s.2.1,s.2.1,0,s.2.2.2.2)))
def ql8 (u:Int)(s:Shp)(S:List Shp):Bool:=decide (u=0) || (decide (0≤u∧u≤S.length)&&decide (S.getD (u.toNat-1) default=(0,0,0,0,s.2.2.2.2)))
theorem qxx {n:Nat}{κ:Int→Nat}{o:OpM}(h:okD n (hd0 o.decls)=true):qmy o.ass o.com o.unt (shp κ (hd0 o.decls))=qd2 κ o:=by
 have h1:=(qaf h).1;unfold qmy qd2 shp ar a0 a1 rs;generalize (hd0 o.decls).2=x
 generalize (hd0 o.decls).1=L at h1
 match L,h1 with
 | [],_=>cases o.ass<;>cases o.com<;>by_cases hu:o.unt=0<;>simp [hu]
 | [a],_=>cases o.ass<;>cases o.com<;>by_cases hu:o.unt=0<;>simp [hu]
 | [a,b],_=>cases o.ass<;>cases o.com<;>by_cases hu:o.unt=0<;>simp [hu,pl]<;>(first|done|omega|(rw [Bool.eq_iff_iff];simp;omega))
 | [a,b,c],_=>cases o.ass<;>cases o.com<;>by_cases hu:o.unt=0<;>simp [hu]
 | _::_::_::_::_,h=>simp at h
def shps (κ:Int→Nat)(O:List OpM):List Shp:=O.map fun o=>shp κ (hd0 o.decls)
theorem qfv (κ:Int→Nat)(O:List OpM):(shps κ O).length=O.length:=by simp [shps]
theorem qfw (κ:Int→Nat)(O:List OpM)(k:Nat)(h:k<O.length):(shps κ O).getD k default=shp κ (hd0 (O.getD k default).decls):=by
 simp [shps,List.getD,List.getElem?_eq_getElem h]
theorem qxy {κ:Int→Nat}{O:List OpM}{o:OpM}:ql8 o.unt (shp κ (hd0 o.decls)) (shps κ O)=qds κ O o:=by
 unfold ql8 qds;rw [qfv];by_cases h0:o.unt=0
 ·simp [h0]
 by_cases h1:0≤o.unt∧o.unt≤O.length
 ·have hk:o.unt.toNat-1<O.length:=o_
  rw [qfw κ O _ hk];have e:O.getD (o.unt.toNat-1) default=qc2 O o:=rfl;rw [e];have e2:decide (shp κ (hd0 (qc2 O o).decls)=(0,0,0,0,(shp κ (hd0 o.decls)).2.2.2.2))=(decide (ar (qc2 O o)=0)&&decide (κ (rs (qc2 O o))=κ (rs o))):=by
   rw [← Bool.decide_and,decide_eq_decide];simp only [shp,ar,rs,Prod.mk.injEq];constructor
   ·rintro ⟨h,_,_,_,h2⟩;exact ⟨h,h2⟩
   ·rintro ⟨h,h2⟩
    exact ⟨h,by rw [pl,if_neg o_],by rw [pl,if_neg o_],by rw [pl,if_neg o_],h2⟩
  rw [e2];simp [h0,h1]
 ·simp [h0,h1]
theorem qup:(Tryz.prog.info? 9).map (fun i=>(i.zero,i.size,i.bytes))=some (some (.string .empty),1,16):=by kernel_rfl
theorem qjh (P Q:List (List UInt8)):ssv (P++Q)=ssv P++ssv Q:=by simp [ssv]
theorem ql9 (O:List OpM)(k:Nat)(h:k<O.length):nms (O.take (k+1))=nms (O.take k)++[(O.getD k default).name]:=by
 have e:O.getD k default=O[k]:=by simp [List.getD,List.getElem?_eq_getElem h]
 rw [e,List.take_succ_eq_append_getElem h,nms,List.map_append];rfl
theorem c33_ {p:Prop}(h:p:=by
 repeat (first|exact Below.refl _ _|refine Below.setCell ?_ (by simp) _|refine Below.alloc ?_ (by simp) _)
):p:=h
theorem qot (O:List OpM)(hO:O.length≤14)(v:Value)(w:World){lo:Nat}(h:HasO lo w v O):
  Calls Tryz.prog 171 #[v] w fun e w'=>∃ v',e=.returned v'∧Has w' v' (ssv (nms O))∧Below w.heap.size w w':=by
 obtain ⟨n,hn⟩:=e_ (O.length);obtain ⟨A,c,rfl,h⟩:=HasR.shape h hn.symm;obtain ⟨i0,hi,ah,ai,aj⟩:=info_parts qup;have hl:=h.len.2.1;have HH:=z_ h;have HN:=z_ hn;rw [← hn] at hO;clear h hn;go_enter Tryz.func171,Tryz.ntmps171
 go_wp2_with (at_make;refine wpList_make_own _ rfl _ _ 22 rfl w.heap.size 9 i0 _ 1 Tryz.underlying22 hi ah ai _ _ _ n rfl rfl (by go_num) (by rw [aj];omega) (by unfold maxLen;omega) n_ ?_)
 intro w1 hown ad;have ap:Below w.heap.size w w1:=(Below.refl w.heap.size w).grown ad n_ (by intro k hk;cases hk);clear ad;go_wp2;go_loopw [3,11] (fun v i wr=>∃ k:Nat,k≤n∧i=.int .i64 k∧wr.ownsRow w.heap.size 9 1 v k (ssv (nms (O.take k)))∧Below w.heap.size w wr) (fun _ i _=>n-(intOf i).toNat)
 case atStart=>exact ⟨0,y_,rfl,hown,ap⟩
 case round=>
  obtain ⟨k,hk,rfl,ab,aa⟩:=hrel;clear hown;have HO:=z_ (qb4 ab);by_cases hlt:k<n
  ·obtain ⟨g,o,A2,c2,rfl,_,hg,ak,al,am,an,ao,hh,_,_⟩:=qcg HH.out hlt
   have kw:∀ x,w.cell? ⟨g,x,none⟩=wr.cell? ⟨g,x,none⟩:=fun x=>(aa.cell (p:=⟨g,x,none⟩) hg).symm
   rw [kw] at ak al am an ao;have HB:=z_ (ql9 O k (by have:=HN.out;omega));obtain ⟨⟨nm,D,a,b,u⟩,hd⟩:∃ d,d=O.getD k default:=⟨_,rfl⟩;rw [← hd] at ak al am an ao HB;have ag:=z_ ab;clear hh hd ab kw;go_wp2_with (at_builtin;refine wpList_append_own _ rfl _ _ 22 rfl w.heap.size 9 i0 _ 1 16 Tryz.underlying22 hi ah ai aj rfl (by decide) _ _ _ rfl (qa2 ag.out ?_) ⟨wr.heap.size+1,0,none⟩ 1 1 [.string (bstr nm)] rfl rfl ?_ (qgc _ rfl) (by unfold maxLen;omega) o_ (by have:=aa.size;simp;omega) ?_)
   ·exact c33_
   intro v2 w2 ae ac _;have aq:Below w.heap.size w w2:=Below.grown (w:=_) (by repeat (first|exact aa|refine Below.alloc ?_ (by first|exact aa.size|(have:=aa.size;simp;omega)) _)) ac (by have:=aa.size;simp;omega) HO.out;have af:w2.ownsRow w.heap.size 9 1 v2 (k+1) (ssv (nms (O.take (k+1)))):=by
    rw [HB.out,qjh];exact ae
   clear ae ac aa;go_wp2;go_roundw
   case rel=>exact ⟨k+1,by omega,by go_num,af,aq⟩
   case measure=>simp [intOf];omega
  ·obtain rfl:k=n:=o_
   go_wp2;go_ret;refine ⟨_,rfl,?_,aa⟩;have h1:=Has.of_own ab;rw [List.take_of_length_le (by have:=HN.out;omega)] at h1;exact h1
theorem qjc (κ:Int→Nat)(O:List OpM)(k:Nat)(h:k<O.length):shps κ (O.take (k+1))=shps κ (O.take k)++[shp κ (hd0 (O.getD k default).decls)]:=by
 have e:O.getD k default=O[k]:=by simp [List.getD,List.getElem?_eq_getElem h]
 rw [e,List.take_succ_eq_append_getElem h,shps,List.map_append];rfl
theorem qxz (s:Shp):∀ x∈shcs s,x.oneCell'=true:=by
 intro x hx;simp [shcs] at hx;rcases hx with rfl|rfl|rfl|rfl|rfl<;>rfl
theorem qsg (w:World)(a b c d e:Value)(t:TypeId):∀ (j:Nat) (x:Value),[a,b,c,d,e][j]? =some x→(w.alloc (.cells #[a,b,c,d,e] t)).cell? ((⟨w.heap.size,0,none⟩:Addr).add j)=some x:=by
 intro j x hj;match j,hj with
 | 0,hj=>simp at hj;subst hj;simp [Addr.add]
 | 1,hj=>simp at hj;subst hj;simp [Addr.add]
 | 2,hj=>simp at hj;subst hj;simp [Addr.add]
 | 3,hj=>simp at hj;subst hj;simp [Addr.add]
 | 4,hj=>simp at hj;subst hj;simp [Addr.add]
theorem qjp:(Tryz.prog.info? 179).map (fun i=>(i.zero,i.size,i.bytes))=some (some (.agg #[.int .i64 0,.int .u16 0,.int .u16 0,.int .u16 0,.int .u16 0]),5,16):=by kernel_rfl
set_option maxHeartbeats 1000000 in
theorem qh4 (U:List Nat)(hU:Lim U)(O:List OpM)(hO:O.length≤14)(r:Bool)(hr:(O.all fun o=>qab U.length (κU U) o.decls)=r)(v mv:Value)(w:World){lo:Nat}(h:HasO lo w v O)(hM:MapU w mv U):
  Calls Tryz.prog 172 #[v,mv] w fun e w'=>∃ v',e=.returned (.tuple #[v',.bool r])∧(r=true→HasT w' v' (shps (κU U) O))∧(r=false→v'=.slice none 0 0)∧Below w.heap.size w w':=by
 have ao:Hid (∀ (D:List (List Int×Int)) (r:Bool) (va:Value) (W:World),qab U.length (κU U) D=r→Below w.heap.size w W→HasD lo W va D→
   Calls Tryz.prog 217 #[va,mv] W fun e w'=>e=.returned (.tuple #[shv (shpR r (κU U) (hd0 D)),.bool r])∧Below W.heap.size W w'):=
  z_ (fun D r va W hr hW hH=>qif U hU D r hr va mv W hH (hM.below hW))
 obtain ⟨n,hn⟩:=e_ (O.length);obtain ⟨A,c,rfl,h⟩:=HasR.shape h hn.symm;obtain ⟨i0,hi,ap,aq,au⟩:=info_parts qjp;have hl:=h.len.2.1;have HH:=z_ h;have HN:=z_ hn;rw [← hn] at hO;clear h hn hM;go_enter Tryz.func172,Tryz.ntmps172
 go_wp2_with (at_make;refine wpList_make_own _ rfl _ _ 172 rfl w.heap.size 179 i0 _ 5 Tryz.underlying172 hi ap aq _ _ _ n rfl rfl (by go_num) (by rw [au];omega) (by unfold maxLen;omega) n_ ?_)
 intro w1 hown ae;have aD:Below w.heap.size w w1:=(Below.refl w.heap.size w).grown ae n_ (by intro k hk;cases hk);clear ae;go_wp2;go_loopw [6,16] (fun v i wr=>∃ k:Nat,k≤n∧i=.int .i64 k∧Hid (∀ j,j<k→qab U.length (κU U) (O.getD j default).decls=true)∧wr.ownsRow w.heap.size 179 5 v k ((shps (κU U) (O.take k)).flatMap shcs)∧Below w.heap.size w wr) (fun _ i _=>n-(intOf i).toNat)
 case atStart=>exact ⟨0,y_,rfl,z_ (fun j hj=>by omega),hown,aD⟩
 case round=>
  obtain ⟨k,hk,rfl,aj,ac,aa⟩:=hrel;clear hown;by_cases hlt:k<n
  ·obtain ⟨g,o,A2,c2,rfl,_,hg,av,aw,ax,ay,az,hh,_,_⟩:=qcg HH.out hlt
   have kw:∀ x,w.cell? ⟨g,x,none⟩=wr.cell? ⟨g,x,none⟩:=fun x=>(aa.cell (p:=⟨g,x,none⟩) hg).symm
   rw [kw] at av aw ax ay az;have am:=hh.below qa7 n_ aa;have HB:=z_ (qjc (κU U) O k (by have:=HN.out;omega))
   have ak:Hid (qab U.length (κU U) (O.getD k default).decls=false→r=false):=z_ (fun hb=>by
    rw [← hr,List.all_eq_false];have aA:k<O.length:=by have:=HN.out;omega
    refine ⟨O[k],List.getElem_mem aA,?_⟩;have e:O.getD k default=O[k]:=by simp [List.getD,List.getElem?_eq_getElem aA]
    rw [← e,hb];simp)
   have af:Hid (qab U.length (κU U) (O.getD k default).decls=true→∀ j,j<k+1→qab U.length (κU U) (O.getD j default).decls=true):=z_ (fun hb j hj=>by
    by_cases e:j=k
    ·subst e;exact hb
    ·exact aj.out j o_)
   obtain ⟨⟨nm,D,a,b,u⟩,hd⟩:∃ d,d=O.getD k default:=⟨_,rfl⟩;rw [← hd] at av aw ax ay az HB ak af am;have aB:=z_ am;have an:=z_ ac;clear hh hd ac kw am hr;cases ai:qab U.length (κU U) D with
   | false=>
    have HR:=z_ (ak.out ai);have HC:=z_ (fun va W hW hH=>ao.out D false va W ai hW hH);clear ai;go_wp2_with fail
    refine (HC.out _ _ (aa.alloc aa.size _) (aB.out.below qa7 n_ (b_.alloc n_ _))).mono ?_;rintro e w2 ⟨he,hb2⟩;rw [shpR,if_neg (by simp),zsh,qie] at he;subst he;have ab:Below w.heap.size w w2:=(aa.alloc aa.size _).trans (hb2.mono (by have:=aa.size;simp;omega));clear hb2;go_wp2;refine bodyPost_ret (v:=.tuple #[.slice none 0 0,.bool false]) (by simp [results,Tryz.results172,go_sem]) rfl ?_;exact ⟨_,by rw [HR.out],fun e=>(by rw [HR.out] at e;cases e),fun _=>rfl,ab.alloc ab.size _⟩
   | true=>
    have HC:=z_ (fun va W hW hH=>ao.out D true va W ai hW hH);have HG:=z_ (af.out ai);obtain ⟨s,hs⟩:=e_ (shpR true (κU U) (hd0 D));rw [← hs] at HC;have aC:s=shp (κU U) (hd0 D):=hs;have aE:Hid (shps (κU U) (O.take (k+1))=shps (κU U) (O.take k)++[s]):=z_ (by rw [aC];exact HB.out);obtain ⟨s0,s1,s2,s3,s4⟩:=s;clear ai hs aC;go_wp2_with fail
    refine (HC.out _ _ (aa.alloc aa.size _) (aB.out.below qa7 n_ (b_.alloc n_ _))).mono ?_;rintro e w2 ⟨he,hb2⟩;rw [qie] at he;subst he;have ab:Below w.heap.size w w2:=(aa.alloc aa.size _).trans (hb2.mono (by have:=aa.size;simp;omega));have ag:=z_ (qa2 (qa2 an.out (b_.alloc n_ _)) hb2);have HO:=z_ (qb4 ag.out);clear hb2;go_wp2_with (at_builtin;refine wpList_append_own _ rfl _ _ 172 rfl w.heap.size 179 i0 _ 5 16 Tryz.underlying172 hi ap aq au rfl (by decide) _ _ _ rfl (qa2 ag.out ?_) ⟨w2.heap.size+1,0,none⟩ 1 1 (shcs (s0,s1,s2,s3,s4)) rfl rfl ?_ (qxz _) (by unfold maxLen;omega) o_ (by have:=ab.size;simp;omega) ?_)
    ·exact c33_
    ·intro j y hj
     have:=qsg (w2.alloc (.cells #[.int .i64 (s0:Int),.int .u16 (s1:Int),.int .u16 (s2:Int),.int .u16 (s3:Int),.int .u16 (s4:Int)] 179)) _ _ _ _ _ 179 j y hj;simpa using this
    intro v2 w3 ah ad _;have aF:Below w.heap.size w w3:=Below.grown (w:=_) (by repeat (first|exact ab|refine Below.alloc ?_ (by first|exact ab.size|(have:=ab.size;simp;omega)) _)) ad (by have:=ab.size;simp;omega) HO.out;have al:w3.ownsRow w.heap.size 179 5 v2 (k+1) ((shps (κU U) (O.take (k+1))).flatMap shcs):=by
     rw [aE.out,List.flatMap_append];simpa using ah
    clear ah ad aa ab;go_wp2;go_roundw
    case rel=>exact ⟨k+1,by omega,by go_num,HG,al,aF⟩
    case measure=>simp [intOf];omega
  ·obtain rfl:k=n:=o_
   have HR:Hid (r=true):=z_ (by
    rw [← hr,List.all_eq_true];intro o ho;obtain ⟨j,hj,rfl⟩:=List.getElem_of_mem ho;have:=aj.out j (by have:=HN.out;omega)
    simpa [List.getD,List.getElem?_eq_getElem hj] using this)
   obtain ⟨A5,c5,rfl,_⟩:=qae ac;go_wp2;refine bodyPost_ret (v:=.tuple #[.slice A5 k c5,.bool true]) (by simp [results,Tryz.results172,go_sem]) rfl ?_;refine ⟨_,by rw [HR.out],fun _=>?_,fun e=>(by rw [HR.out] at e;cases e),aa⟩;rw [List.take_of_length_le (by have:=HN.out;omega)] at ac;exact HasT.of_own ac (by rw [qfv];exact HN.out.symm)
end sigk

namespace sigq
set_option maxRecDepth 20000
set_option maxHeartbeats 2000000
open mem subs setm sortp sorti rowl sigm sigs sigi sigk
theorem qmz {wr w0 w1:World}{g o:Nat}{a0 a1 a2 a3 a4:Value}
  (h:(w0.cell? ⟨g,o,none⟩=some a0∧w0.cell? ⟨g,o+1,none⟩=some a1∧w0.cell? ⟨g,o+2,none⟩=some a2∧w0.cell? ⟨g,o+3,none⟩=some a3∧w0.cell? ⟨g,o+4,none⟩=some a4)∧Below wr.heap.size wr w0)
  (hp:g<wr.heap.size) (hb:Below w0.heap.size w0 w1):
  (w1.cell? ⟨g,o,none⟩=some a0∧w1.cell? ⟨g,o+1,none⟩=some a1∧w1.cell? ⟨g,o+2,none⟩=some a2∧w1.cell? ⟨g,o+3,none⟩=some a3∧w1.cell? ⟨g,o+4,none⟩=some a4)∧Below wr.heap.size wr w1:=by
 have hs:=h.2.size;have k:∀ x,w1.cell? ⟨g,x,none⟩=w0.cell? ⟨g,x,none⟩:=fun x=>hb.cell (p:=⟨g,x,none⟩) (by show g<_;omega)
 rw [k,k,k,k,k];exact ⟨h.1,h.2.trans (hb.mono hs)⟩
theorem qks {wr w0 w1:World}{g o g' o':Nat}{b a0 a1 a2 a3 a4:Value}
  (h:(w0.cell? ⟨g',o',none⟩=some b∧w0.cell? ⟨g,o,none⟩=some a0∧w0.cell? ⟨g,o+1,none⟩=some a1∧w0.cell? ⟨g,o+2,none⟩=some a2∧w0.cell? ⟨g,o+3,none⟩=some a3∧w0.cell? ⟨g,o+4,none⟩=some a4)∧Below wr.heap.size wr w0)
  (hp:g<wr.heap.size∧g'<wr.heap.size) (hb:Below w0.heap.size w0 w1):
  (w1.cell? ⟨g',o',none⟩=some b∧w1.cell? ⟨g,o,none⟩=some a0∧w1.cell? ⟨g,o+1,none⟩=some a1∧w1.cell? ⟨g,o+2,none⟩=some a2∧w1.cell? ⟨g,o+3,none⟩=some a3∧w1.cell? ⟨g,o+4,none⟩=some a4)∧Below wr.heap.size wr w1:=by
 have hs:=h.2.size;have k:∀ x,w1.cell? ⟨g,x,none⟩=w0.cell? ⟨g,x,none⟩:=fun x=>hb.cell (p:=⟨g,x,none⟩) (by show g<_;omega)
 rw [k,k,k,k,k,hb.cell (p:=⟨g',o',none⟩) (by show g'<_;omega)];exact ⟨h.1,h.2.trans (hb.mono hs)⟩
theorem j10_ {p:Prop}(h:p:=by
 go_wp2;have hh:Below W2.heap.size W2 w3:=by go_split_ands;assumption
 go_ret;exact ⟨rfl,aa.trans (hh.mono aa.size)⟩
):p:=h
theorem c34_ {p:Prop}(h:p:=by
 have aa:Below w.heap.size w W2:=by rw [← hW];exact (b_.alloc n_ _).alloc (by simp) _
 have hz:w.heap.size+1<W2.heap.size:=by rw [← hW];simp
 have k1:W2.heap[w.heap.size+1]? =some (.cells #[.int .i64 (s0:Int),.int .u16 (s1:Int),.int .u16 (s2:Int),.int .u16 (s3:Int),.int .u16 (s4:Int)] 179 (0,0)):=by rw [← hW];exact qa5 _ _ _ (by simp)
 have c0:=h_ W2 _ 0 _ _ _ k1;have c1:=h_ W2 _ 1 _ _ _ k1;have c2:=h_ W2 _ 2 _ _ _ k1;have c3:=h_ W2 _ 3 _ _ _ k1;have c4:=h_ W2 _ 4 _ _ _ k1;clear hW k1
 go_region_held3 (fun w'=>(w'.cell? ⟨w.heap.size+1,0,none⟩=some (.int .i64 (s0:Int))∧w'.cell? ⟨w.heap.size+1,1,none⟩=some (.int .u16 (s1:Int))∧w'.cell? ⟨w.heap.size+1,2,none⟩=some (.int .u16 (s2:Int))∧w'.cell? ⟨w.heap.size+1,3,none⟩=some (.int .u16 (s3:Int))∧w'.cell? ⟨w.heap.size+1,4,none⟩=some (.int .u16 (s4:Int)))∧Below W2.heap.size W2 w')
  (first|(refine ⟨⟨?_,?_,?_,?_,?_⟩,b_.drew⟩<;>assumption)|(go_split_ands;exact qmz (g:=w.heap.size+1) (o:=0) ⟨⟨by assumption,by assumption,by assumption,by assumption,by assumption⟩,by assumption⟩ hz (by assumption)))
  ((go_at_call 236;go_split_ands;refine (ad.out _ _ _).mono ?_;rintro e w3 ⟨rfl,ae⟩))
 exact j10_
):p:=h
theorem qd3 (l:List UInt8)(A:Option Addr)(n ca:Nat)(a c:Bool)(u:Int)(s0 s1 s2 s3 s4:Nat)(r:Bool)(hr:qmy a c u (s0,s1,s2,s3,s4)=r)(w:World):
  Calls Tryz.prog 218 #[.agg #[.string (bstr l),.slice A n ca,.bool a,.bool c,.int .i64 u],.agg #[.int .i64 (s0:Int),.int .u16 (s1:Int),.int .u16 (s2:Int),.int .u16 (s3:Int),.int .u16 (s4:Int)]] w
   fun e w'=>e=.returned (.bool r)∧Below w.heap.size w w':=by
 have ac:∀ (t:Nat) (q:Bool),decide (((s0,s1,s2,s3,s4):Shp)=(2,s1,s1,0,t))=q→∀ W,(binOp .eql 179 (.agg #[.int .i64 (s0:Int),.int .u16 (s1:Int),.int .u16 (s2:Int),.int .u16 (s3:Int),.int .u16 (s4:Int)]) (.agg #[.int .i64 2,.int .u16 (s1:Int),.int .u16 (s1:Int),.int .u16 0,.int .u16 (t:Int)])).run Tryz.prog W=.ok (.bool q) W:=
  fun t q hq W=>qmv _ (2,s1,s1,0,t) _ hq W
 have HC:=z_ ac;clear ac;have ad:Hid (∀ (a b:Nat) (W:World),Calls Tryz.prog 236 #[.int .u16 (a:Int),.int .u16 (b:Int)] W fun e w'=>e=.returned (.agg #[.int .i64 2,.int .u16 (a:Int),.int .u16 (a:Int),.int .u16 0,.int .u16 (b:Int)])∧Below W.heap.size W w'):=z_ (fun a b W=>qjb a b W);by_cases ab:a=true∨u≠0
 ·have HR:Hid (decide (((s0,s1,s2,s3,s4):Shp)=(2,s1,s1,0,s1))=r):=z_ (by
   rw [← hr,qmy]
   rw [if_pos (by rcases ab with h|h<;>simp [h])])
  have hq:=HC.out s1 r HR.out;clear hr;cases a with
  | true=>
   clear ab;go_enter Tryz.func218,Tryz.ntmps218
   go_wp2_with fail
   generalize hW:((w.alloc (.cells #[.string (bstr l),.slice A n ca,.bool true,.bool c,.int .i64 u] 124)).alloc (.cells #[.int .i64 (s0:Int),.int .u16 (s1:Int),.int .u16 (s2:Int),.int .u16 (s3:Int),.int .u16 (s4:Int)] 179))=W2
   exact c34_
  | false=>
   have hu:(u != 0)=true:=by simpa using ab
   clear ab;go_enter Tryz.func218,Tryz.ntmps218
   go_wp2_with fail
   generalize hW:((w.alloc (.cells #[.string (bstr l),.slice A n ca,.bool false,.bool c,.int .i64 u] 124)).alloc (.cells #[.int .i64 (s0:Int),.int .u16 (s1:Int),.int .u16 (s2:Int),.int .u16 (s3:Int),.int .u16 (s4:Int)] 179))=W2
   exact c34_
 ·have ha:a=false:=by cases a<;>simp_all
  have hu:u=0:=by
   by_cases h:u=0
   ·exact h
   ·exact absurd (Or.inr h) ab
  subst ha hu;clear ab;cases c with
  | false=>
   have HR:Hid (r=true):=z_ (by rw [← hr,qmy];simp);clear hr;go_enter Tryz.func218,Tryz.ntmps218
   go_wp2;go_quiet (fail)
   go_wp2;go_ret;exact ⟨qa0 HR.out.symm,qa3 ((b_.alloc n_ _).alloc (by simp) _) _⟩
  | true=>
   have HR:Hid (decide (((s0,s1,s2,s3,s4):Shp)=(2,s1,s1,0,s4))=r):=z_ (by rw [← hr,qmy];simp);have hq:=HC.out s4 r HR.out;clear hr;go_enter Tryz.func218,Tryz.ntmps218
   go_wp2_with fail
   generalize hW:((w.alloc (.cells #[.string (bstr l),.slice A n ca,.bool false,.bool true,.int .i64 0] 124)).alloc (.cells #[.int .i64 (s0:Int),.int .u16 (s1:Int),.int .u16 (s2:Int),.int .u16 (s3:Int),.int .u16 (s4:Int)] 179))=W2
   have aa:Below w.heap.size w W2:=by rw [← hW];exact (b_.alloc n_ _).alloc (by simp) _
   have hz:w.heap.size+1<W2.heap.size:=by rw [← hW];simp
   have k1:W2.heap[w.heap.size+1]? =some (.cells #[.int .i64 (s0:Int),.int .u16 (s1:Int),.int .u16 (s2:Int),.int .u16 (s3:Int),.int .u16 (s4:Int)] 179 (0,0)):=by rw [← hW];exact qa5 _ _ _ (by simp)
   have b3:W2.cell? ⟨w.heap.size,3,none⟩=some (.bool true):=by rw [← hW];simp
   have c0:=h_ W2 _ 0 _ _ _ k1;have c1:=h_ W2 _ 1 _ _ _ k1;have c2:=h_ W2 _ 2 _ _ _ k1;have c3:=h_ W2 _ 3 _ _ _ k1;have c4:=h_ W2 _ 4 _ _ _ k1;clear hW k1
   go_region_held3 (fun w'=>(w'.cell? ⟨w.heap.size,3,none⟩=some (.bool true)∧w'.cell? ⟨w.heap.size+1,0,none⟩=some (.int .i64 (s0:Int))∧w'.cell? ⟨w.heap.size+1,1,none⟩=some (.int .u16 (s1:Int))∧w'.cell? ⟨w.heap.size+1,2,none⟩=some (.int .u16 (s2:Int))∧w'.cell? ⟨w.heap.size+1,3,none⟩=some (.int .u16 (s3:Int))∧w'.cell? ⟨w.heap.size+1,4,none⟩=some (.int .u16 (s4:Int)))∧Below W2.heap.size W2 w')
    (first|(refine ⟨⟨?_,?_,?_,?_,?_,?_⟩,b_.drew⟩<;>assumption)|(go_split_ands;exact qks (g:=w.heap.size+1) (o:=0) (g':=w.heap.size) ⟨⟨by assumption,by assumption,by assumption,by assumption,by assumption,by assumption⟩,by assumption⟩ ⟨hz,by omega⟩ (by assumption)))
    ((go_at_call 236;go_split_ands;refine (ad.out _ _ _).mono ?_;rintro e w3 ⟨rfl,ae⟩))
   exact j10_
theorem j11_ {p:Prop}(h:p:=by
 go_enter Tryz.func219,Tryz.ntmps219
 go_wp2;go_ret;exact ⟨qa0 HR.out.symm,(b_.alloc n_ _).alloc (by simp) _⟩
):p:=h
theorem c35_ {p:Prop}(h:p:=by
 have HR:Hid (r=false):=z_ (by rw [← hr,ql8];simp [h0];omega);clear hr h hm;exact j11_
):p:=h
theorem qh5 (l:List UInt8)(A:Option Addr)(n ca:Nat)(a c:Bool)(u:Int)(hu:I64 u)(s0 s1 s2 s3 s4:Nat)(S:List Shp)(r:Bool)(hr:ql8 u (s0,s1,s2,s3,s4) S=r)(vT:Value)(w:World)(h:HasT w vT S):
  Calls Tryz.prog 219 #[.agg #[.string (bstr l),.slice A n ca,.bool a,.bool c,.int .i64 u],.agg #[.int .i64 (s0:Int),.int .u16 (s1:Int),.int .u16 (s2:Int),.int .u16 (s3:Int),.int .u16 (s4:Int)],vT] w
   fun e w'=>e=.returned (.bool r)∧Below w.heap.size w w':=by
 obtain ⟨m,hm⟩:=e_ (S.length);obtain ⟨B,cb,rfl,h⟩:=HasR.shape h hm.symm;have hl:=h.len.2.1;obtain ⟨ad,ae⟩:=hu;by_cases h0:u=0
 ·have HR:Hid (r=true):=z_ (by rw [← hr,ql8];simp [h0])
  clear hr h hm;subst h0;exact j11_
 have af:(u==0)=false:=by simpa using h0
 by_cases aa:u<0
 ·exact c35_
 by_cases ab:(m:Int)<u
 ·exact c35_
 obtain ⟨k,rfl⟩:∃ k:Nat,u=(k:Int)+1:=⟨(u-1).toNat,by omega⟩;have hk:k<m:=o_
 have HR:Hid (decide (S.getD k default=(0,0,0,0,s4))=r):=z_ (by
  rw [← hr,ql8];have e:((k:Int)+1).toNat-1=k:=o_;rw [e];simp [h0];intro _
  omega)
 obtain ⟨g,o,rfl,hg,c0,c1,c2,c3,c4⟩:=ql7 h hk;obtain ⟨⟨t0,t1,t2,t3,t4⟩,ht⟩:∃ s,s=S.getD k default:=⟨_,rfl⟩;rw [← ht] at HR c0 c1 c2 c3 c4
 have ac:∀ W,(binOp .eql 179 (.agg #[.int .i64 (t0:Int),.int .u16 (t1:Int),.int .u16 (t2:Int),.int .u16 (t3:Int),.int .u16 (t4:Int)]) (.agg #[.int .i64 0,.int .u16 0,.int .u16 0,.int .u16 0,.int .u16 (s4:Int)])).run Tryz.prog W=.ok (.bool r) W:=
  fun W=>qmv (t0,t1,t2,t3,t4) (0,0,0,0,s4) _ HR.out W
 clear hr h hm ht HR;go_enter Tryz.func219,Tryz.ntmps219
 go_wp2;go_quiet (fail)
 go_wp2;go_ret;exact ⟨rfl,qa3 ((b_.alloc n_ _).alloc (by simp) _) _⟩
end sigq
end Go.Proofs.YtiilamngcoegiaaGreat
