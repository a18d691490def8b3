
import Derived.Test.YtiilamngcoegiaaGreatQTermin
namespace Go.Proofs.YtiilamngcoegiaaGreat.termic
open Go.ChangeShapes Go.WideShapes Go.ChangeAt Go.RowKit
open mem dec rowl trm trmv terml termb termt termu termv termvo termx termz termro termsd termvr termcf termso termvx termin
theorem qmg:∀ (t:TermM) (n lo:Nat) (w:World) (va:Value),HasTs n lo w va t.args→Bnd t→∀ x,vin x t→Flat x:=by
 refine TermM.ind (fun o nm s l ih n lo w va h hB x hv=>?_);rcases (qtx x o nm s l).1 hv with ⟨_,rfl⟩|⟨_,a,ha,hv⟩
 ·exact ⟨rfl,hB.1,by show I64 (-1);unfold I64;omega,hB.2.2⟩
 ·obtain ⟨j,hj,rfl⟩:=List.getElem_of_mem ha
  obtain ⟨A,c,rfl,h'⟩:=HasR.shape h rfl;obtain ⟨k,g,o',A2,c2,_,_,_,_,_,_,_,_,hh,hb⟩:=qal h' (j:=j) hj;have e:(TermM.mk o nm s l).args.getD j default=l[j]:=qai hj;rw [e] at hh hb;exact ih _ ha k lo w _ hh hb x hv
theorem qsa:∀ (l:List TermM) (t:TermM),(insT l t).length≤l.length+1
 | [],_=>by simp [insT]
 | a::l,t=>by
  have:=qsa l t;rw [insT];split
  ·simp;omega
  ·split<;>simp
theorem c112_ {p:Prop}(h:p:=by
 have e:cols (a::l) aa=cols l (colT a aa):=rfl;rw [e];simp only [qa2,List.map_cons,List.sum_cons] at h2 ⊢;omega
):p:=h
theorem qzr:∀ (t:TermM) (aa:List TermM),(colT t aa).length≤aa.length+size t:=by
 refine TermM.ind (fun o nm s l ih aa=>?_);rw [ql2,qbe];split
 ·have:=qsa aa (var nm s);omega
 ·have ab:∀ (l:List TermM),(∀ t∈l,∀ aa,(colT t aa).length≤aa.length+size t)→∀ aa,(cols l aa).length≤aa.length+qa2 l:=by
   intro l;induction l with
   | nil=>intro _ aa;simp [cols]
   | cons a l ac=>
    intro h aa;have h1:=h a (by simp) aa;have h2:=ac (fun t ht=>h t (by simp [ht])) (colT a aa);exact c112_
  have:=ab l ih aa;omega
theorem qzs (l:List TermM):∀ aa,(cols l aa).length≤aa.length+qa2 l:=by
 induction l with
 | nil=>intro aa;simp [cols]
 | cons a l ih=>
  intro aa;have h1:=qzr a aa;have h2:=ih (colT a aa);exact c112_
theorem qzt (t:TermM)(aa:List TermM):colT t aa=if t.op=-1 then insT aa (var t.name t.sort) else cols t.args aa:=by cases t;exact ql2 _ _ _ _ _
theorem qzu (x:TermM)(l:List TermM):∀ aa,x∈cols l aa↔x∈aa∨∃ a∈l,vin x a:=by
 induction l with
 | nil=>intro aa;simp [cols]
 | cons a l ih=>
  intro aa;have e:cols (a::l) aa=cols l (colT a aa):=rfl;rw [e,ih,qq8];simp only [List.mem_cons,exists_eq_or_imp,or_assoc]
def ColT (n:Nat):Prop:=∀ (t:TermM) (va:Value) (aa:List TermM) (g m cap b:Nat) (w:World) (lo:Nat),HasTs n lo w va t.args→Bnd t→m=aa.length→m+size t≤1073741824→(∀ x∈aa,Flat x)→b≤w.heap.size→
 w.ownsRow b 38 4 (.slice (some ⟨g,0,none⟩) m cap) m (flatV aa)→Calls Tryz.prog 107 #[aggT t va,.slice (some ⟨g,0,none⟩) m cap] w (qde b (colT t aa) w)
set_option maxRecDepth 50000 in
set_option maxHeartbeats 8000000 in
theorem qok {n:Nat}(hS:∀ k,n=k+1→ColT k):ColT n:=by
 intro t va ab g m cap b w lo h hB hm hsz hF hb ho;obtain ⟨A,c,rfl,h⟩:=HasR.shape h rfl;obtain ⟨N,hN⟩:=e_ (t.args.length);have aQ:=(qc8 ho).2.1;have am:=z_ (fun W (hW:Below w.heap.size w W) (ai:t.op=-1)=>qtl ab (var t.name t.sort) m g cap b W hm (by have:=qhw t;omega) hF ⟨rfl,hB.1,by show I64 (-1);unfold I64;omega,hB.2.2⟩ (by have:=hW.size;omega) (own_below ho hW));have ae:=z_ (qzt t ab);have an:=z_ (termro.qao t);have HH:=z_ h;have HM:=z_ hm;have ap:=z_ hsz;have HF:=z_ hF;have HS:=z_ hS;have HO:=z_ ho;have HB:=z_ hB;obtain ⟨L,hL⟩:=e_ (t.args);have af:Hid (N=L.length):=z_ (by rw [hN,hL]);rw [← hL] at ae an HH;rw [← af.out] at HH;obtain ⟨R,hR⟩:=e_ (colT t ab);rw [← hR] at ae ⊢;unfold aggT;rw [← hL,← af.out];obtain ⟨to,ay⟩:=e_ (t.op);obtain ⟨tn,az⟩:=e_ (t.name);obtain ⟨ts,aA⟩:=e_ (t.sort);obtain ⟨tz,aB⟩:=e_ (size t);rw [← ay,← az,← aA] at am ae ⊢;rw [← aB] at an ap;have aL:N≤1073741824:=by have h1:=an.out;have h2:=ap.out;have h3:=qat L;have h4:=af.out;omega
 clear h hB hm hsz hF hS ho hL hN hR ay az aA aB;by_cases ai:to=-1
 ·subst ai
  have aq:=z_ (fun W hW=>am.out W hW rfl);have HR:Hid (R=insT ab (var tn ts)):=z_ (by rw [ae.out,if_pos rfl]);unfold var at aq;simp only [qCw,qAu,qAv] at aq;clear am;go_enter Tryz.func107,Tryz.ntmps107
  go_wp2_with fail
  refine (qBj tn ts _).mono ?_;rintro e w1 ⟨rfl,aC⟩;have aj:Below w.heap.size w w1:=(b_.alloc n_ _).trans (aC.mono (by simp));clear aC;go_wp2_with fail
  refine (aq.out w1 aj).mono ?_;rintro e w2 ⟨g2,ac,m2,ak,rfl,al,aD⟩
  have HE:Hid (qde b R w (.returned (.slice (some ⟨g2,0,none⟩) m2 ac)) w2):=z_ (by
   rw [HR.out]
   exact ⟨g2,ac,m2,ak,rfl,al,aj.trans (aD.mono aj.size)⟩)
  clear ak al aD;go_wp2;go_ret;exact HE.out
 ·have HR:Hid (R=cols L ab):=z_ (by rw [ae.out,if_neg ai])
  clear am ae;have e1:(to==(-1:Int))=false:=by simpa using ai
  have e2:decide (to=-1)=false:=decide_eq_false ai;go_enter Tryz.func107,Tryz.ntmps107
  go_wp2;go_loopw [1,5] (fun v1 v5 wr=>∃ (k g1 m1 aa:Nat),v1=.slice (some ⟨g1,0,none⟩) m1 aa∧v5=.int .i64 k∧k≤N∧Hid (m1=(cols (L.take k) ab).length)∧Hid (wr.ownsRow b 38 4 (.slice (some ⟨g1,0,none⟩) m1 aa) m1 (flatV (cols (L.take k) ab)))∧Below (w.heap.size+1) (w.alloc (.cells #[.int .i64 to,.string (bstr tn),.int .i64 ts,.slice A N c] 38)) wr) (fun _ i _=>N-(intOf i).toNat)
  case atStart=>exact ⟨0,g,m,cap,rfl,rfl,y_,HM,z_ (own_below HO.out (b_.alloc n_ _)),Below.refl _ _⟩
  case round=>
   obtain ⟨k,g1,m1,aa,rfl,rfl,hk,au,aE,ad⟩:=hrel;have hsz:w.heap.size+1≤wr.heap.size:=by have:=ad.size;simp at this;omega
   have ag:Below w.heap.size w wr:=(b_.alloc n_ _).trans (ad.mono o_);have q3:wr.cell? ⟨w.heap.size,3,none⟩=some (.slice A N c):=(ad.cell (p:=⟨w.heap.size,3,none⟩) (Nat.lt_succ_self _)).trans (by simp);by_cases aM:k<N
   ·obtain ⟨k',ga,oa,A2,c2,aF,rfl,_,ao,c0,c1,av,c3,hh,aw⟩:=qal HH.out aM
    rw [← ag.cell (p:=⟨ga,oa+k*4,none⟩) ao] at c0;rw [← ag.cell (p:=⟨ga,oa+k*4+1,none⟩) ao] at c1;rw [← ag.cell (p:=⟨ga,oa+k*4+2,none⟩) ao] at av;rw [← ag.cell (p:=⟨ga,oa+k*4+3,none⟩) ao] at c3;have ax:k<L.length:=by have:=af.out;omega
    obtain ⟨x,hx⟩:=e_ (L.getD k default);rw [← hx] at c0 c1 av c3 hh aw
    have ah:Hid (Calls Tryz.prog 107 #[aggT x (.slice A2 x.args.length c2),.slice (some ⟨g1,0,none⟩) m1 aa] wr (qde b (cols (L.take (k+1)) ab) wr)):=z_ (by
     rw [qtw L ab k ax,← hx];refine HS.out k' aF x _ _ g1 m1 aa b wr lo (hh.below n_ ag) aw au.out ?_ (fun y hy=>?_) o_ aE.out
     ·have h1:=qzs (L.take k) ab
      have h2:=qgo ax;have h3:qa2 (L.take (k+1))≤qa2 L:=by
       have e:=List.take_append_drop (k+1) L;have:qa2 L=qa2 (L.take (k+1))+qa2 (L.drop (k+1)):=by
        conv=>lhs;rw [← e]
        simp only [qa2,List.map_append,List.sum_append]
       omega
      have h4:=an.out;have h5:=ap.out;have h6:=au.out;have h7:=HM.out;rw [← hx] at h2;omega
     ·rcases (qzu y (L.take k) ab).1 hy with hy|⟨a,ha,hv⟩
      ·exact HF.out y hy
      ·obtain ⟨j,hj,rfl⟩:=List.getElem_of_mem ha
       have aN:j<N:=by rw [List.length_take] at hj;omega
       obtain ⟨kj,gj,oj,Aj,cj,_,_,_,_,_,_,_,_,aG,aH⟩:=qal HH.out aN;have e:L.getD j default=(L.take k)[j]:=by rw [qai (by have:=af.out;omega),List.getElem_take]
       rw [e] at aG aH
       exact qmg _ _ _ _ _ aG aH y hv)
    unfold aggT at ah;obtain ⟨q,hq⟩:=e_ (x.args.length);obtain ⟨xo,aI⟩:=e_ (x.op);obtain ⟨xn,aJ⟩:=e_ (x.name);obtain ⟨xs,aK⟩:=e_ (x.sort);rw [← hq] at c3 ah;rw [← aI] at c0 ah;rw [← aJ] at c1 ah;rw [← aK] at av ah;clear hh aw hx hq aI aJ aK aF ax;have i1:(0:Int)≤(k:Int):=o_;have i2:(k:Int)<(N:Int):=o_;go_wp2_with fail
    refine (ah.out).mono ?_;rintro e w2 ⟨g2,ac,m2,ak,rfl,al,aj⟩;have aO:=z_ ak;have aP:=z_ al;clear ak al;go_wp2;go_roundw
    case measure=>simp [intOf];omega
    case rel=>exact ⟨k+1,g2,m2,ac,rfl,by go_num,by omega,aO,aP,ad.trans (aj.mono hsz)⟩
   ·obtain rfl:k=N:=o_
    have HE:Hid (qde b R w (.returned (.slice (some ⟨g1,0,none⟩) m1 aa)) wr):=z_ (by
     have h1:=au.out;have h2:=aE.out;rw [List.take_of_length_le (by have:=af.out;omega)] at h1 h2;rw [HR.out]
     exact ⟨g1,aa,m1,h1,rfl,h2,ag⟩)
    go_wp2;go_ret;exact HE.out
theorem qjm:∀ n,ColT n
 | 0=>qok (fun k h=>by omega)
 | n+1=>qok (fun k h=>Nat.succ.inj h ▸ qjm n)
theorem qq5 {n:Nat}(t:TermM)(v:Value)(w:World){lo:Nat}(h:HasTs n lo w v t.args)(hB:Bnd t)(hsz:qa2 t.args≤1048576):
  Calls Tryz.prog 57 #[aggT t v] w (qde w.heap.size (varsT t) w):=by
 obtain ⟨A,c,rfl,h⟩:=HasR.shape h rfl;have ai:=termro.qao t;have HC:=z_ (fun W (hW:Below w.heap.size w W) g cap (ho:W.ownsRow w.heap.size 38 4 (.slice (some ⟨g,0,none⟩) 0 cap) 0 (flatV []))=>qjm n t _ [] g 0 cap w.heap.size W lo (h.below n_ hW) hB rfl o_ (fun x hx=>by simp at hx) hW.size ho);obtain ⟨R,hR⟩:=e_ (varsT t);unfold varsT at hR;unfold aggT at HC;rw [← hR] at HC;unfold varsT aggT;rw [← hR];obtain ⟨N,hN⟩:=e_ (t.args.length);rw [← hN] at HC;rw [← hN];obtain ⟨to,ac⟩:=e_ (t.op);obtain ⟨tn,ad⟩:=e_ (t.name);obtain ⟨ts,ae⟩:=e_ (t.sort);rw [← ac,← ad,← ae] at HC ⊢;clear h hB hsz ai hR hN ac ad ae;go_enter Tryz.func57,Tryz.ntmps57
 go_wp2_with fail
 have ab:Below w.heap.size w ((w.alloc (.cells #[.int .i64 to,.string (bstr tn),.int .i64 ts,.slice A N c] 38)).alloc (.cells #[] 38)):=(b_.alloc n_ _).alloc (by simp) _;refine (HC.out _ ab (w.heap.size+1) 0 ?_).mono ?_
 ·have h:=World.ownsRow_lit (e:=38) (size:=4) (w.alloc (.cells #[.int .i64 to,.string (bstr tn),.int .i64 ts,.slice A N c] 38)) #[] 0 n_ Aa_ rfl
  exact qco (by simpa [flatV] using h) (Nat.le_succ _)
 rintro e w2 ⟨g2,aa,m2,af,rfl,ag,ah⟩;have HE:Hid (qde w.heap.size R w (.returned (.slice (some ⟨g2,0,none⟩) m2 aa)) w2):=z_ ⟨g2,aa,m2,af,rfl,ag,ab.trans (ah.mono ab.size)⟩;clear af ag ah ab;go_wp2;go_ret;exact HE.out
end Go.Proofs.YtiilamngcoegiaaGreat.termic
