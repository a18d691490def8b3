
import Derived.Test.YtiilamngcoegiaaGreatTmk
namespace Go.Proofs.YtiilamngcoegiaaGreat.tmo
open Go.ChangeShapes Go.WideShapes Go.ChangeAt Go.RowKit
open mem join subs setm sortp sorti rowl sigm sigs sigt sigu tmk
theorem Rw.of_own {lo n sz:Nat}{w:World}{e:TypeId}{v:Value}{xs:List Value}(h:w.ownsRow lo e sz v n xs):Rw lo w.heap.size w e sz v n:=
 ⟨xs,h,fun g hg=>by
  rcases h.2 with ⟨rfl,_⟩|⟨g',cap,cur,rfl,hb,hgc,_⟩
  ·cases hg
  ·injection hg with hg
   subst hg
   exact (q_ hgc)⟩
theorem qm6 {lo n sz:Nat}{w w':World}{e:TypeId}{v:Value}{xs:List Value}(h:w.ownsRow lo e sz v n xs)(hk:Kept lo w w'):w'.ownsRow lo e sz v n xs:=by
 refine ⟨h.1,?_⟩;rcases h.2 with h2|⟨g,cap,cur,hv,hg,hh,r⟩
 ·exact .inl h2
 ·exact .inr ⟨g,cap,cur,hv,hg,by rw [hk.2 g hg (q_ hh)];exact hh,r⟩
theorem Rw.kept {lo hi n sz:Nat}{w w':World}{e:TypeId}{v:Value}(h:Rw lo hi w e sz v n)(hk:Kept lo w w'):Rw lo hi w' e sz v n:=by
 obtain ⟨xs,h1,h2⟩:=h;exact ⟨xs,qm6 h1 hk,h2⟩
theorem Rw.mono {lo hi lo' aa n sz:Nat}{w:World}{e:TypeId}{v:Value}(h:Rw lo hi w e sz v n)(hl:lo'≤lo)(hh:hi≤aa):Rw lo' aa w e sz v n:=by
 obtain ⟨xs,h1,h2⟩:=h;exact ⟨xs,qdg h1 hl,fun g hg=>w_ (h2 g hg) hh⟩
theorem DecR.kept {lo hi:Nat}{w w':World}{v:Value}{ms:List Nat}(h:DecR lo hi w v ms)(hk:Kept lo w w'):DecR lo hi w' v ms:=by
 obtain ⟨xs,h1,h2,h3⟩:=h;refine ⟨xs,qm6 h1 hk,h2,fun j hj=>?_⟩;obtain ⟨va,e1,e2⟩:=h3 j hj;exact ⟨va,e1,Rw.kept e2 hk⟩
theorem DecR.mono {lo hi lo' aa:Nat}{w:World}{v:Value}{ms:List Nat}(h:DecR lo hi w v ms)(hl:lo'≤lo)(hh:hi≤aa):DecR lo' aa w v ms:=by
 obtain ⟨xs,h1,h2,h3⟩:=h;refine ⟨xs,qdg h1 hl,fun g hg=>w_ (h2 g hg) hh,fun j hj=>?_⟩;obtain ⟨va,e1,e2⟩:=h3 j hj;exact ⟨va,e1,Rw.mono e2 hl hh⟩
theorem OpR.kept {lo hi:Nat}{w w':World}{v:Value}{ms:List (List Nat)}(h:OpR lo hi w v ms)(hk:Kept lo w w'):OpR lo hi w' v ms:=by
 obtain ⟨xs,h1,h2,h3⟩:=h;refine ⟨xs,qm6 h1 hk,h2,fun j hj=>?_⟩;obtain ⟨va,e1,e2⟩:=h3 j hj;exact ⟨va,e1,DecR.kept e2 hk⟩
theorem OpR.mono {lo hi lo' aa:Nat}{w:World}{v:Value}{ms:List (List Nat)}(h:OpR lo hi w v ms)(hl:lo'≤lo)(hh:hi≤aa):OpR lo' aa w v ms:=by
 obtain ⟨xs,h1,h2,h3⟩:=h;refine ⟨xs,qdg h1 hl,fun g hg=>w_ (h2 g hg) hh,fun j hj=>?_⟩;obtain ⟨va,e1,e2⟩:=h3 j hj;exact ⟨va,e1,DecR.mono e2 hl hh⟩
abbrev dls (D:List (List Int×Int)):List Nat:=D.map fun d=>d.1.length
abbrev ols (O:List OpM):List (List Nat):=O.map fun o=>dls o.decls
theorem qth (L:List Int)(x:Int)(hL:L.length≤1048576)(va:Value)(w:World)(h:Has w va (ivs L)):
  Calls Tryz.prog 185 #[.agg #[va,.int .i64 x]] w fun e w'=>∃ v,e=.returned (.agg #[v,.int .i64 x])∧HasL w.heap.size w' v (ivs L)∧Rw (w.heap.size+1) w'.heap.size w' 3 1 v L.length∧Below w.heap.size w w':=by
 obtain ⟨A,ca,rfl,h'⟩:=h.shape (qas L);have ae:=z_ (fun W hW=>intl.qtv L hL _ W (h'.below n_ hW));clear h h';go_enter Tryz.func185,Tryz.ntmps185
 go_wp2_with fail
 refine (ae.out _ ?_).mono ?_
 ·exact v_
 rintro e w1 ⟨v1,rfl,aa,ab⟩;obtain ⟨A1,c1,rfl,ad⟩:=HasL.shape (HasL.of_own aa) (qas L);have af:=z_ ad;have ag:Hid (Rw (w.heap.size+3) w1.heap.size w1 3 1 (.slice A1 L.length c1) L.length):=z_ (Rw.mono (Rw.of_own aa) (by simp) n_);have ac:w1.heap[w.heap.size+1]? =some (.cells #[.slice none 0 0,.int .i64 0] 199 (0,0)):=by rw [ab.block _ (by simp)];exact (Below.heap_alloc _ _ _ (by simp)).trans (qa5 _ _ _ (by simp))
 have d0:w1.cell? ⟨w.heap.size+1,0,none⟩=some (.slice none 0 0):=h_ w1 _ 0 _ _ _ ac;have d1:w1.cell? ⟨w.heap.size+1,1,none⟩=some (.int .i64 0):=h_ w1 _ 1 _ _ _ ac;have e0:=g_ w1 _ 0 _ _ ac;have e1:=g_ w1 _ 1 _ _ ac;have ah:Below w.heap.size w w1:=(((b_.alloc n_ _).alloc (by simp) _).alloc (by simp;omega) _).trans (ab.mono (by simp;omega));obtain ⟨ai,aj⟩:=qkp ab;have hz:w.heap.size+2<w1.heap.size:=by have:=ab.size;simp at this;omega
 clear aa ad ac ab;go_wp2;refine bodyPost_ret (v:=.agg #[.slice A1 L.length c1,.int .i64 x]) (by simp [results,Tryz.results185,go_sem,d0,d1]) rfl ⟨_,rfl,?_,?_,?_⟩
 ·refine HasL.mono (lo:=w.heap.size+1+1+1) ?_ o_
  have h0:=HasL.mono af.out (lo':=w.heap.size+1+1+1) (by simp);repeat (first|exact h0|refine HasL.kept ?_ (Kept.set (by simp;omega) _)|refine HasL.kept ?_ (Kept.set (by simp) _))
 ·refine Rw.mono (lo:=w.heap.size+3) (hi:=w1.heap.size) ?_ o_ (by simp [World.setCell])
  repeat (refine Rw.kept ?_ (Kept.set (by first|(simp;done)|(simp;omega)) _))
  exact ag.out
 ·repeat (first|exact ah|refine Below.setCell ?_ (by first|(simp;done)|(simp;omega)) _)
theorem c116_ {p:Prop}(h:p:=by
 rw [List.getD_eq_getElem?_getD,List.getD_eq_getElem?_getD,List.getElem?_map,List.getElem?_eq_getElem (by have:=HN.out;omega)];rfl
):p:=h
theorem c117_ {p:Prop}(h:p:=by
 rcases hown.2 with ⟨hv,_⟩|⟨g,cap,cur,hv,hb,hg,_⟩
 ·cases hv
 ·have:=(q_ hg);omega
):p:=h
theorem qpz (D:List (List Int×Int))(hD:SmD D)(v:Value)(w:World){lo:Nat}(h:HasD lo w v D):
  Calls Tryz.prog 146 #[v] w fun e w'=>∃ v',e=.returned v'∧HasD w.heap.size w' v' D∧DecR w.heap.size w'.heap.size w' v' (D.map fun d=>d.1.length)∧Below w.heap.size w w':=by
 obtain ⟨n,hn⟩:=e_ (D.length);obtain ⟨A,c,rfl,h⟩:=HasR.shape h hn.symm;obtain ⟨i0,hi,aq,au,av⟩:=info_parts qmx;have ax:n≤1048576:=by have:=hD.1;omega
 have HH:=z_ h;have HN:=z_ hn;have HD:=z_ hD.2;clear h hn hD;go_enter Tryz.func146,Tryz.ntmps146
 go_wp2_with (at_make;refine wpList_make_full _ rfl _ _ 122 rfl w.heap.size 199 i0 _ 2 Tryz.underlying122 hi aq au _ _ _ _ n rfl rfl rfl rfl (by rw [av];omega) (by unfold maxLen;omega) n_ ?_)
 intro w1 hown ab;have ad:w.heap.size<w1.heap.size:=by
  exact c117_
 go_wp2
 go_loopw [4] (fun i wr=>∃ (j:Nat) (ys:List Value),j≤n∧i=.int .i64 j∧wr.ownsRow w.heap.size 199 2 (.slice (some ⟨w.heap.size,0,none⟩) n n) n ys∧
   Hid (∀ i,i<j→∃ cs,(∀ q,q<2→ys[i*2+q]? =some (cs.getD q undef))∧RD (w.heap.size+1) wr cs (D.getD i default))∧Hid (∀ i,i<j→∃ va,ys[i*2]? =some va∧Rw (w.heap.size+1) wr.heap.size wr 3 1 va (D.getD i default).1.length)∧w.heap.size<wr.heap.size∧Below w.heap.size w wr) (fun i _=>n-(intOf i).toNat)
 case atStart=>exact ⟨0,_,y_,rfl,hown,z_ (fun i hi=>by omega),z_ (fun i hi=>by omega),ad,b_.grown ab n_ (by intro k h;cases h)⟩
 case round=>
  obtain ⟨j,ys,hj,rfl,hown,HY,ak,hsz,aa⟩:=hrel;by_cases hlt:j<n
  ·obtain ⟨g,o,A2,c2,rfl,_,hg,al,am,hh,ae,af⟩:=qba HH.out hlt
   have hL:=HD.out j (by have:=HN.out;omega);rw [← aa.cell (p:=⟨g,o+j*2,none⟩) hg] at al;rw [← aa.cell (p:=⟨g,o+j*2+1,none⟩) hg] at am;have ag:=hh.has.below n_ aa;obtain ⟨⟨l,x⟩,hd⟩:∃ d,d=D.getD j default:=⟨_,rfl⟩;rw [← hd] at al am ag hL ae af;have HL:=z_ ag;have HX:=z_ hd;have HI:=z_ (And.intro ae af);have ac:=z_ hown;clear hh ag hd hown ae af;go_wp2_with fail
   refine (qth l x hL _ _ HL.out).mono ?_;rintro e w2 ⟨v2,rfl,an,ao,hb2⟩;obtain ⟨A3,c3,rfl,ap⟩:=HasL.shape an (qas l);have ah:=z_ (qa2 ac.out hb2);have HV:=z_ ap;have ai:=z_ hb2;have aw:=z_ ao;obtain ⟨⟨v0,ay⟩,az⟩:=qai ah.out (i:=j*2) o_;obtain ⟨⟨v1,aA⟩,aB⟩:=qai ah.out (i:=j*2+1) o_;clear an ap ao;go_wp2;go_roundw
   case rel=>
    have hlen:ys.length=n*2:=by have:=ac.out.1;omega
    refine ⟨j+1,_,by omega,by go_num,qe4 ah.out (j*2) _ _,z_ ?_,z_ ?_,by simp [World.setCell];have:=hb2.size;omega,((aa.trans (hb2.mono aa.size)).setCell n_ _).setCell n_ _⟩;rotate_left
    ·intro i hi
     by_cases aj:i=j
     ·subst aj
      refine ⟨.slice A3 l.length c3,?_,?_⟩
      ·exact qq3 (ys:=ys) (p:=i*2) o_ 0 o_
      rw [← HX.out];refine Rw.mono (lo:=w.heap.size+1) (hi:=w2.heap.size) ?_ n_ (by simp [World.setCell]);repeat (refine Rw.kept ?_ (Kept.set (by simp) _))
      exact Rw.mono aw.out o_ n_
     ·obtain ⟨va,h1,h2⟩:=ak.out i o_
      refine ⟨va,by rw [qq2 o_];exact h1,?_⟩;refine Rw.mono (lo:=w.heap.size+1) (hi:=wr.heap.size) ?_ n_ (by have:=ai.out.size;simp [World.setCell];omega);repeat (refine Rw.kept ?_ (Kept.set (by simp) _))
      exact Rw.kept h2 (Kept.below ai.out n_)
    intro i hi;by_cases aj:i=j
    ·subst aj
     refine ⟨[.slice A3 l.length c3,.int .i64 x],qq3 o_,_,by rw [← HX.out],?_,?_⟩
     ·rw [← HX.out]
      exact ((HV.out.mono o_).kept (Kept.set (by simp) _)).kept (Kept.set (by simp) _)
     ·rw [← HX.out];exact HI.out
    ·obtain ⟨cs,h1,h2⟩:=HY.out i o_
     refine ⟨cs,fun q hq=>?_,?_⟩
     ·rw [qq2 o_];exact h1 q hq
     ·exact qa7.kept (qa7.kept (qa7.kept h2 (Kept.below ai.out n_)) (Kept.set (by simp) _)) (Kept.set (by simp) _)
   case measure=>simp [intOf];omega
  ·obtain rfl:j=n:=o_
   have HW:Hid (HasD w.heap.size wr (.slice (some ⟨w.heap.size,0,none⟩) j j) D):=z_ (HasR.of_own hown HN.out.symm (fun i hi=>by
    obtain ⟨cs,h1,h2⟩:=HY.out i hi
    exact ⟨cs,h1,qa7.mono h2 o_⟩))
   have HR:Hid (DecR w.heap.size wr.heap.size wr (.slice (some ⟨w.heap.size,0,none⟩) j j) (D.map fun d=>d.1.length)):=z_ (by
    have hlen:(D.map fun d=>d.1.length).length=j:=by rw [List.length_map];exact HN.out.symm
    refine ⟨ys,by rw [hlen];exact hown,fun g hg=>by have e:w.heap.size=g:=Option.some.inj hg;omega,fun i hi=>?_⟩;obtain ⟨va,h1,h2⟩:=ak.out i o_;refine ⟨va,h1,?_⟩;have he:(D.map fun d=>d.1.length).getD i 0=(D.getD i default).1.length:=by
     exact c116_
    rw [he]
    exact Rw.mono h2 o_ n_)
   clear hown;go_wp2;go_ret;exact ⟨_,rfl,HW.out,HR.out,aa⟩
theorem c115_ {p:Prop}(h:p:=by
 repeat (first|exact Below.refl _ _|refine Below.setCell ?_ (by first|(simp;done)|(simp;omega)) _|refine Below.alloc ?_ (by first|(simp;done)|(simp;omega)) _)
):p:=h
theorem qzs (l:List UInt8)(D:List (List Int×Int))(hD:SmD D)(va:Value)(a b:Bool)(u:Int)(w:World){lo:Nat}(h:HasD lo w va D):
  Calls Tryz.prog 89 #[.agg #[.string (bstr l),va,.bool a,.bool b,.int .i64 u]] w fun e w'=>∃ v,e=.returned (.agg #[.string (bstr l),v,.bool a,.bool b,.int .i64 u])∧HasD w.heap.size w' v D∧DecR (w.heap.size+1) w'.heap.size w' v (dls D)∧Below w.heap.size w w':=by
 obtain ⟨A,ca,rfl,h'⟩:=HasR.shape h rfl;have ac:=z_ (fun W (hW:Below w.heap.size w W)=>qpz D hD _ W (h'.below qa7 n_ hW));obtain ⟨n,hn⟩:=e_ (D.length);have HN:=z_ hn;rw [← hn] at ac ⊢;clear h h' hn;go_enter Tryz.func89,Tryz.ntmps89
 go_wp2_with fail
 refine (ac.out _ ?_).mono ?_
 ·exact c115_
 rintro e w1 ⟨v1,rfl,ad,ae,ab⟩;obtain ⟨A1,c1,rfl,af⟩:=HasR.shape ad HN.out.symm;have ag:=z_ (DecR.mono ae (lo':=w.heap.size+1+1+1) (by simp) n_);have ah:=z_ (af.mono qa7 (lo':=w.heap.size+1+1+1) (by simp));have aa:w1.heap[w.heap.size+1]? =some (.cells #[.string { data:=#[] },.slice none 0 0,.bool false,.bool false,.int .i64 0] 124 (0,0)):=by
  rw [ab.block _ (by simp)];exact (Below.heap_alloc _ _ _ (by simp)).trans (qa5 _ _ _ (by simp))
 have d0:w1.cell? ⟨w.heap.size+1,0,none⟩=some (.string { data:=#[] }):=h_ w1 _ 0 _ _ _ aa;have d1:w1.cell? ⟨w.heap.size+1,1,none⟩=some (.slice none 0 0):=h_ w1 _ 1 _ _ _ aa;have d2:w1.cell? ⟨w.heap.size+1,2,none⟩=some (.bool false):=h_ w1 _ 2 _ _ _ aa;have d3:w1.cell? ⟨w.heap.size+1,3,none⟩=some (.bool false):=h_ w1 _ 3 _ _ _ aa;have d4:w1.cell? ⟨w.heap.size+1,4,none⟩=some (.int .i64 0):=h_ w1 _ 4 _ _ _ aa;have e0:=g_ w1 _ 0 _ _ aa;have e1:=g_ w1 _ 1 _ _ aa;have e2:=g_ w1 _ 2 _ _ aa;have e3:=g_ w1 _ 3 _ _ aa;have e4:=g_ w1 _ 4 _ _ aa;have ai:Below w.heap.size w w1:=by
  refine Below.trans ?_ (ab.mono ?_)
  ·exact c115_
  ·simp;omega
 obtain ⟨aj,ak⟩:=qkp ab;have hz:w.heap.size+2<w1.heap.size:=by have:=ab.size;simp at this;omega
 clear ad ae af aa ab;go_wp2;refine bodyPost_ret (v:=.agg #[.string (bstr l),.slice A1 n c1,.bool a,.bool b,.int .i64 u]) (by simp [results,Tryz.results89,go_sem,d0,d1,d2,d3,d4]) rfl ⟨_,rfl,?_,?_,?_⟩
 ·refine HasR.mono qa7 (lo:=w.heap.size+1+1+1) ?_ o_
  repeat (refine HasR.kept qa7 ?_ (Kept.set (by first|(simp;done)|(simp;omega)) _))
  exact ah.out
 ·refine DecR.mono (lo:=w.heap.size+1+1+1) (hi:=w1.heap.size) ?_ o_ (by simp [World.setCell])
  repeat (refine DecR.kept ?_ (Kept.set (by first|(simp;done)|(simp;omega)) _))
  exact ag.out
 ·repeat (refine Below.setCell ?_ (by first|(simp;done)|(simp;omega)) _)
  exact ai
set_option maxHeartbeats 1000000 in
theorem qx5 (O:List OpM)(hO:SmO O)(v:Value)(w:World){lo:Nat}(h:HasO lo w v O):
  Calls Tryz.prog 41 #[v] w fun e w'=>∃ v',e=.returned v'∧HasO w.heap.size w' v' O∧OpR w.heap.size w'.heap.size w' v' (ols O)∧Below w.heap.size w w':=by
 obtain ⟨n,hn⟩:=e_ (O.length);obtain ⟨A,c,rfl,h⟩:=HasR.shape h hn.symm;obtain ⟨i0,hi,aw,ax,ay⟩:=info_parts qBo;have aB:n≤1048576:=by have:=hO.1;omega
 have HH:=z_ h;have HN:=z_ hn;have HD:=z_ hO.2;clear h hn hO;go_enter Tryz.func41,Tryz.ntmps41
 go_wp2_with (at_make;refine wpList_make_full _ rfl _ _ 44 rfl w.heap.size 124 i0 _ 5 Tryz.underlying44 hi aw ax _ _ _ _ n rfl rfl rfl rfl (by rw [ay];omega) (by unfold maxLen;omega) n_ ?_)
 intro w1 hown ad;have af:w.heap.size<w1.heap.size:=by
  exact c117_
 go_wp2
 go_loopw [4] (fun i wr=>∃ (j:Nat) (ys:List Value),j≤n∧i=.int .i64 j∧wr.ownsRow w.heap.size 124 5 (.slice (some ⟨w.heap.size,0,none⟩) n n) n ys∧
   Hid (∀ i,i<j→∃ cs,(∀ q,q<5→ys[i*5+q]? =some (cs.getD q undef))∧RO (w.heap.size+1) wr cs (O.getD i default))∧Hid (∀ i,i<j→∃ va,ys[i*5+1]? =some va∧DecR (w.heap.size+1) wr.heap.size wr va (dls (O.getD i default).decls))∧w.heap.size<wr.heap.size∧Below w.heap.size w wr) (fun i _=>n-(intOf i).toNat)
 case atStart=>exact ⟨0,_,y_,rfl,hown,z_ (fun i hi=>by omega),z_ (fun i hi=>by omega),af,b_.grown ad n_ (by intro k h;cases h)⟩
 case round=>
  obtain ⟨j,ys,hj,rfl,hown,HY,ak,hsz,aa⟩:=hrel;by_cases hlt:j<n
  ·obtain ⟨g,o,A2,c2,rfl,_,hg,al,am,an,ao,ap,hh,ag,ah⟩:=qcg HH.out hlt
   have hL:=HD.out j (by have:=HN.out;omega);rw [← aa.cell (p:=⟨g,o+j*5,none⟩) hg] at al;rw [← aa.cell (p:=⟨g,o+j*5+1,none⟩) hg] at am;rw [← aa.cell (p:=⟨g,o+j*5+2,none⟩) hg] at an;rw [← aa.cell (p:=⟨g,o+j*5+3,none⟩) hg] at ao;rw [← aa.cell (p:=⟨g,o+j*5+4,none⟩) hg] at ap;have ai:=hh.below qa7 n_ aa;obtain ⟨⟨nm,D,a,b,u⟩,hd⟩:∃ d,d=O.getD j default:=⟨_,rfl⟩;rw [← hd] at al am an ao ap ai hL ag ah;have HL:=z_ ai;have HX:=z_ hd;have HI:=z_ (And.intro ag ah);have ab:=z_ hown;have az:=z_ hL;clear hh ai hd hown ah ag hL;go_wp2_with fail
   refine (qzs nm D az.out _ a b u _ HL.out).mono ?_;rintro e w2 ⟨v2,rfl,aq,au,hb2⟩;obtain ⟨A3,c3,rfl,av⟩:=HasR.shape aq rfl;have ac:=z_ (qa2 ab.out hb2);have HV:=z_ av;have ae:=z_ hb2;have aA:=z_ au;obtain ⟨⟨v0,aC⟩,aD⟩:=qai ac.out (i:=j*5) o_;obtain ⟨⟨v1,aE⟩,aF⟩:=qai ac.out (i:=j*5+1) o_;obtain ⟨⟨v2,aG⟩,aH⟩:=qai ac.out (i:=j*5+2) o_;obtain ⟨⟨v3,aI⟩,aJ⟩:=qai ac.out (i:=j*5+3) o_;obtain ⟨⟨v4,aK⟩,aL⟩:=qai ac.out (i:=j*5+4) o_;clear aq av au;go_wp2;go_roundw
   case rel=>
    refine ⟨j+1,_,by omega,by go_num,qoa ac.out (j*5) _ _ _ _ _,z_ ?_,z_ ?_,by simp [World.setCell];have:=hb2.size;omega,?_⟩
    ·have hlen:ys.length=n*5:=by have:=ab.out.1;omega
     intro i hi;by_cases aj:i=j
     ·subst aj
      refine ⟨[.string (bstr nm),.slice A3 D.length c3,.bool a,.bool b,.int .i64 u],qq1 o_,_,by rw [← HX.out],?_,?_⟩
      ·rw [← HX.out]
       repeat (refine HasR.kept qa7 ?_ (Kept.set (by simp) _))
       exact HV.out.mono qa7 o_
      ·rw [← HX.out];exact HI.out
     ·obtain ⟨cs,h1,h2⟩:=HY.out i o_
      refine ⟨cs,fun q hq=>?_,?_⟩
      ·rw [qq0 o_];exact h1 q hq
      ·repeat (refine qcn.kept ?_ (Kept.set (by simp) _))
       exact qcn.kept h2 (Kept.below ae.out n_)
    ·have hlen:ys.length=n*5:=by have:=ab.out.1;omega
     intro i hi;by_cases aj:i=j
     ·subst aj
      refine ⟨.slice A3 D.length c3,?_,?_⟩
      ·exact qq1 (ys:=ys) (p:=i*5) o_ 1 o_
      rw [← HX.out];refine DecR.mono (lo:=w.heap.size+1) (hi:=w2.heap.size) ?_ n_ (by simp [World.setCell]);repeat (refine DecR.kept ?_ (Kept.set (by simp) _))
      exact DecR.mono aA.out o_ n_
     ·obtain ⟨va,h1,h2⟩:=ak.out i o_
      refine ⟨va,by rw [qq0 o_];exact h1,?_⟩;refine DecR.mono (lo:=w.heap.size+1) (hi:=wr.heap.size) ?_ n_ (by have:=ae.out.size;simp [World.setCell];omega);repeat (refine DecR.kept ?_ (Kept.set (by simp) _))
      exact DecR.kept h2 (Kept.below ae.out n_)
    ·repeat (refine Below.setCell ?_ (by simp) _)
     exact aa.trans (ae.out.mono aa.size)
   case measure=>simp [intOf];omega
  ·obtain rfl:j=n:=o_
   have HW:Hid (HasO w.heap.size wr (.slice (some ⟨w.heap.size,0,none⟩) j j) O):=z_ (HasR.of_own hown HN.out.symm (fun i hi=>by
    obtain ⟨cs,h1,h2⟩:=HY.out i hi
    exact ⟨cs,h1,qcn.mono h2 o_⟩))
   have HR:Hid (OpR w.heap.size wr.heap.size wr (.slice (some ⟨w.heap.size,0,none⟩) j j) (ols O)):=z_ (by
    have hlen:(ols O).length=j:=by rw [List.length_map];exact HN.out.symm
    refine ⟨ys,by rw [hlen];exact hown,fun g hg=>by have e:w.heap.size=g:=Option.some.inj hg;omega,fun i hi=>?_⟩;obtain ⟨va,h1,h2⟩:=ak.out i o_;refine ⟨va,h1,?_⟩;have he:(ols O).getD i []=dls (O.getD i default).decls:=by
     exact c116_
    rw [he]
    exact DecR.mono h2 o_ n_)
   clear hown;go_wp2;go_ret;exact ⟨_,rfl,HW.out,HR.out,aa⟩
theorem qj7 (P:List (List UInt8))(Q:List (Int×Int))(O:List OpM)(hS:(Small P∧Q.length≤1048576)∧SmO O)(va vb vc:Value)(w:World)(h:HasG w va vb vc P Q O):
  Calls Tryz.prog 11 #[.agg #[va,vb,vc]] w fun e w'=>∃ v1 v2 v3,e=.returned (.agg #[v1,v2,v3])∧HasG w' v1 v2 v3 P Q O∧Rw w.heap.size w'.heap.size w' 9 1 v1 P.length∧Rw w.heap.size w'.heap.size w' 201 2 v2 Q.length∧OpR w.heap.size w'.heap.size w' v3 (ols O)∧Below w.heap.size w w':=by
 obtain ⟨A,ca,B,cb,C,cc,rfl,rfl,rfl,ay,az,ao,h'⟩:=h.shape;have ap:=z_ (fun W (hW:Below w.heap.size w W)=>qom P hS.1.1.1 Q hS.1.2 _ _ W (h'.below n_ hW).s.a (h'.below n_ hW).s.b);have ah:=z_ (fun W (hW:Below w.heap.size w W)=>qx5 O hS.2 _ W (h'.below n_ hW).o);have ai:=z_ h'.s;obtain ⟨n,hn⟩:=e_ (O.length);have HN:=z_ hn;rw [← hn] at ah ao ⊢;clear h h' hn hS;go_enter Tryz.func11,Tryz.ntmps11
 go_wp2_with fail
 refine (ap.out _ ?_).mono ?_
 ·exact v_
 rintro e w1 ⟨v1,v2,rfl,ae,af,ab⟩;obtain ⟨A1,c1,rfl,_⟩:=qae ae;obtain ⟨A2,c2,rfl,_⟩:=qae af;have aq:=z_ (qdg ae (base':=w.heap.size+1+1+1) (by simp));have au:=z_ (qdg af (base':=w.heap.size+1+1+1) (by simp));have aj:w1.heap[w.heap.size+1]? =some (.cells #[.slice none 0 0,.slice none 0 0,.slice none 0 0] 46 (0,0)):=by rw [ab.block _ (by simp)];exact (Below.heap_alloc _ _ _ (by simp)).trans (qa5 _ _ _ (by simp))
 have av:=z_ aj;have ak:Below w.heap.size w w1:=(((b_.alloc n_ _).alloc (by simp) _).alloc (by simp;omega) _).trans (ab.mono (by simp;omega));obtain ⟨aA,aB⟩:=qkp ab;have hz:w.heap.size+2<w1.heap.size:=by have:=ab.size;simp at this;omega
 clear ae af aj ab;go_wp2_with fail
 refine (ah.out _ ?_).mono ?_
 ·exact (ak.setCell (by simp;omega) _).setCell (by simp;omega) _
 rintro e w2 ⟨v3,rfl,al,am,hb2⟩;obtain ⟨A3,c3,rfl,an⟩:=HasR.shape al HN.out.symm;have aw:=z_ (OpR.mono am (lo':=w.heap.size+1+1+1) (by simp [World.setCell];omega) n_);have ax:=z_ (an.mono qcn (lo':=w.heap.size+1+1+1) (by simp [World.setCell];omega));have aa:w2.heap[w.heap.size+1]? =some (.cells #[.slice none 0 0,.slice none 0 0,.slice none 0 0] 46 (0,0)):=by
  rw [hb2.block _ (by simp [World.setCell];omega),Below.heap_setCell _ _ _ _ (by simp),Below.heap_setCell _ _ _ _ (by simp)];exact av.out
 have d0:w2.cell? ⟨w.heap.size+1,0,none⟩=some (.slice none 0 0):=h_ w2 _ 0 _ _ _ aa;have d1:w2.cell? ⟨w.heap.size+1,1,none⟩=some (.slice none 0 0):=h_ w2 _ 1 _ _ _ aa;have d2:w2.cell? ⟨w.heap.size+1,2,none⟩=some (.slice none 0 0):=h_ w2 _ 2 _ _ _ aa;have e0:=g_ w2 _ 0 _ _ aa;have e1:=g_ w2 _ 1 _ _ aa;have e2:=g_ w2 _ 2 _ _ aa;have ac:=z_ (qa2 (qb6 (qb6 aq.out (qap (g:=w.heap.size+1+1) (World.grownBy.refl _ _) 0 (.slice A1 P.length c1)) (by simp)) (qap (g:=w.heap.size+1+1) (World.grownBy.refl _ _) 1 (.slice A2 Q.length c2)) (by simp)) hb2);have ad:=z_ (qa2 (qb6 (qb6 au.out (qap (g:=w.heap.size+1+1) (World.grownBy.refl _ _) 0 (.slice A1 P.length c1)) (by simp)) (qap (g:=w.heap.size+1+1) (World.grownBy.refl _ _) 1 (.slice A2 Q.length c2)) (by simp)) hb2);have ag:Below w.heap.size w w2:=by
  refine Below.trans ?_ (hb2.mono ?_)
  ·exact (ak.setCell (by simp;omega) _).setCell (by simp;omega) _
  ·simp [World.setCell];omega
 obtain ⟨aC,aD⟩:=qkp hb2;have aE:w.heap.size+2<w2.heap.size:=by have:=hb2.size;simp [World.setCell] at this;omega
 clear al an am aa hb2;go_wp2;refine bodyPost_ret (v:=.agg #[.slice A1 P.length c1,.slice A2 Q.length c2,.slice A3 n c3]) (by simp [results,Tryz.results11,go_sem,d0,d1,d2]) rfl ⟨_,_,_,rfl,⟨⟨?_,?_,ai.out.short,ai.out.in64⟩,?_⟩,?_,?_,?_,?_⟩
 ·refine Has.of_own (base:=w.heap.size+1+1+1) (n:=P.length) (e:=9) ?_
  repeat (refine qb6 ?_ (qap (World.grownBy.refl _ _) _ _) (by simp))
  exact ac.out
 ·refine HasP.of_own (base:=w.heap.size+1+1+1) (n:=Q.length) (e:=201) ?_
  repeat (refine qb6 ?_ (qap (World.grownBy.refl _ _) _ _) (by simp))
  exact ad.out
 ·refine HasR.mono qcn (lo:=w.heap.size+1+1+1) ?_ y_
  repeat (refine HasR.kept qcn ?_ (Kept.set (by simp) _))
  exact ax.out
 ·refine Rw.mono (lo:=w.heap.size+1+1+1) (hi:=w2.heap.size) ?_ o_ (by simp [World.setCell])
  repeat (refine Rw.kept ?_ (Kept.set (by simp) _))
  exact Rw.of_own ac.out
 ·refine Rw.mono (lo:=w.heap.size+1+1+1) (hi:=w2.heap.size) ?_ o_ (by simp [World.setCell])
  repeat (refine Rw.kept ?_ (Kept.set (by simp) _))
  exact Rw.of_own ad.out
 ·refine OpR.mono (lo:=w.heap.size+1+1+1) (hi:=w2.heap.size) ?_ o_ (by simp [World.setCell])
  repeat (refine OpR.kept ?_ (Kept.set (by simp) _))
  exact aw.out
 ·repeat (refine Below.setCell ?_ (by first|(simp;done)|(simp;omega)) _)
  exact ag
end Go.Proofs.YtiilamngcoegiaaGreat.tmo
