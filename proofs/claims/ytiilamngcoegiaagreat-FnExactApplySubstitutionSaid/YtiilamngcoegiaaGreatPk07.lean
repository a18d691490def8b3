/- parts -/
import Derived.Deep.RegionHeld3
import Derived.Test.YtiilamngcoegiaaGreatZk
import Derived.Test.YtiilamngcoegiaaGreatPk06
import Derived.Deep.Quiet
import Derived.Laws.Cover3
import Derived.BigRegion
namespace Go.Proofs.YtiilamngcoegiaaGreat
open Go.ChangeShapes Go.WideShapes Go.ChangeAt Go.RowKit
namespace sige
open mem subs setm sortp sorti rowl sigm sigs
theorem qou (L:List Int)(x:Int)(va vb:Value)(w:World)(ha:Has w va (ivs L))(hb:Has w vb (ivs L)):
  Calls Tryz.prog 203 #[.agg #[va,.int .i64 x],.agg #[vb,.int .i64 x]] w fun e w'=>e=.returned (.bool true)∧Below w.heap.size w w':=by
 have HE:=z_ (fun W hW=>intl.qA8 L va vb W (ha.below n_ hW) (hb.below n_ hW));obtain ⟨A,ca,rfl,_⟩:=ha.shape (qas L);obtain ⟨B,cb,rfl,_⟩:=hb.shape (qas L);clear ha hb;go_enter Tryz.func203,Tryz.ntmps203
 go_wp2_with fail
 refine (HE.out _ ((b_.alloc n_ _).alloc (by simp) _)).mono ?_;rintro e w1 ⟨rfl,aa⟩;have ab:Below w.heap.size w w1:=((b_.alloc n_ _).alloc (by simp) _).trans (aa.mono (by simp;omega));have ac:w1.cell? ⟨w.heap.size,1,none⟩=some (.int .i64 x):=by rw [aa.cell (p:=⟨w.heap.size,1,none⟩) (by simp;omega)];simp
 have ad:w1.cell? ⟨w.heap.size+1,1,none⟩=some (.int .i64 x):=by rw [aa.cell (p:=⟨w.heap.size+1,1,none⟩) (by simp)];simp
 clear aa;go_wp2;go_ret;exact ⟨rfl,ab⟩
theorem qn0 (D:List (List Int×Int))(va vb:Value)(w:World){lo lo':Nat}(ha:HasD lo w va D)(hb:HasD lo' w vb D):
  Calls Tryz.prog 163 #[va,vb] w fun e w'=>e=.returned (.bool true)∧Below w.heap.size w w':=by
 obtain ⟨n,hn⟩:=e_ (D.length);obtain ⟨A,ca,rfl,ha⟩:=HasR.shape ha hn.symm;obtain ⟨B,cb,rfl,hb⟩:=HasR.shape hb hn.symm;have an:=ha.len.2.1;have HA:=z_ ha;have HB:=z_ hb;clear ha hb hn;go_enter Tryz.func163,Tryz.ntmps163
 go_wp2;go_loopw [5] (fun i wr=>∃ k:Nat,k≤n∧i=.int .i64 k∧Below w.heap.size w wr) (fun i _=>n-(intOf i).toNat)
 case atStart=>exact ⟨0,y_,rfl,Below.refl _ _⟩
 case round=>
  obtain ⟨k,hk,rfl,aa⟩:=hrel;by_cases hlt:k<n
  ·obtain ⟨ga,oa,A2,a2,rfl,_,ah,ai,ab,al,_,_⟩:=qba HA.out hlt
   obtain ⟨gb,ob,B2,b2,rfl,_,aj,ak,ac,am,_,_⟩:=qba HB.out hlt;rw [← aa.cell (p:=⟨ga,oa+k*2,none⟩) ah] at ai;rw [← aa.cell (p:=⟨ga,oa+k*2+1,none⟩) ah] at ab;rw [← aa.cell (p:=⟨gb,ob+k*2,none⟩) aj] at ak;rw [← aa.cell (p:=⟨gb,ob+k*2+1,none⟩) aj] at ac;have ad:ga<wr.heap.size:=w_ ah aa.size;have ae:gb<wr.heap.size:=w_ aj aa.size;have af:=al.has.below n_ aa;have ag:=am.has.below n_ aa;obtain ⟨⟨l,x⟩,hd⟩:∃ d,d=D.getD k default:=⟨_,rfl⟩;rw [← hd] at ai ab ak ac af ag;obtain ⟨m,hm⟩:=e_ (l.length);rw [← hm] at ai ak af ag;have HE:=z_ (fun W hW=>qou l x _ _ W (af.below n_ hW) (ag.below n_ hW));clear af ag al am hd hm;go_wp2_with fail
   go_region_held3 (fun w'=>(w'.cell? ⟨ga,oa+k*2,none⟩=some (.slice A2 m a2)∧w'.cell? ⟨ga,oa+k*2+1,none⟩=some (.int .i64 x)∧w'.cell? ⟨gb,ob+k*2,none⟩=some (.slice B2 m b2)∧w'.cell? ⟨gb,ob+k*2+1,none⟩=some (.int .i64 x))∧Below wr.heap.size wr w')
    (first|(refine ⟨⟨?_,?_,?_,?_⟩,b_.drew⟩<;>assumption)|(go_split_ands;exact qme (p:=⟨ga,oa+k*2,none⟩) (q:=⟨ga,oa+k*2+1,none⟩) (r:=⟨gb,ob+k*2,none⟩) (s:=⟨gb,ob+k*2+1,none⟩) ⟨⟨by assumption,by assumption,by assumption,by assumption⟩,by assumption⟩ ⟨ad,ad,ae,ae⟩ (by assumption)))
    ((go_at_call 203;go_split_ands;refine (HE.out _ (by assumption)).mono ?_;rintro e w1 ⟨rfl,ao⟩))
   go_wp2;go_roundw
   case rel=>
    have hh:(w1.cell? ⟨ga,oa+k*2,none⟩=some (.slice A2 m a2)∧w1.cell? ⟨ga,oa+k*2+1,none⟩=some (.int .i64 x)∧w1.cell? ⟨gb,ob+k*2,none⟩=some (.slice B2 m b2)∧w1.cell? ⟨gb,ob+k*2+1,none⟩=some (.int .i64 x))∧Below wr.heap.size wr w1:=by assumption
    exact ⟨k+1,by omega,by go_num,aa.trans (hh.2.mono aa.size)⟩
   case measure=>simp [intOf];omega
  ·obtain rfl:k=n:=o_
   go_wp2;go_ret;exact ⟨rfl,aa⟩
theorem quq (l:List UInt8)(D:List (List Int×Int))(a b:Bool)(u:Int)(va vb:Value)(w:World){lo lo':Nat}(ha:HasD lo w va D)(hb:HasD lo' w vb D):
  Calls Tryz.prog 103 #[.agg #[.string (bstr l),va,.bool a,.bool b,.int .i64 u],.agg #[.string (bstr l),vb,.bool a,.bool b,.int .i64 u]] w fun e w'=>e=.returned (.bool true)∧Below w.heap.size w w':=by
 have HE:=z_ (fun W hW=>qn0 D va vb W (ha.below qa7 n_ hW) (hb.below qa7 n_ hW));obtain ⟨A,ca,rfl,_⟩:=HasR.shape ha rfl;obtain ⟨B,cb,rfl,_⟩:=HasR.shape hb rfl;obtain ⟨n,hn⟩:=e_ (D.length);rw [← hn] at HE ⊢;clear ha hb hn;go_enter Tryz.func103,Tryz.ntmps103
 go_wp2_with fail
 refine (HE.out _ ((b_.alloc n_ _).alloc (by simp) _)).mono ?_;rintro e w1 ⟨rfl,aa⟩;have ab:Below w.heap.size w w1:=((b_.alloc n_ _).alloc (by simp) _).trans (aa.mono (by simp;omega));have a2:w1.cell? ⟨w.heap.size,2,none⟩=some (.bool a):=by rw [aa.cell (p:=⟨w.heap.size,2,none⟩) (by simp;omega)];simp
 have b2:w1.cell? ⟨w.heap.size+1,2,none⟩=some (.bool a):=by rw [aa.cell (p:=⟨w.heap.size+1,2,none⟩) (by simp)];simp
 have a3:w1.cell? ⟨w.heap.size,3,none⟩=some (.bool b):=by rw [aa.cell (p:=⟨w.heap.size,3,none⟩) (by simp;omega)];simp
 have b3:w1.cell? ⟨w.heap.size+1,3,none⟩=some (.bool b):=by rw [aa.cell (p:=⟨w.heap.size+1,3,none⟩) (by simp)];simp
 have a4:w1.cell? ⟨w.heap.size,4,none⟩=some (.int .i64 u):=by rw [aa.cell (p:=⟨w.heap.size,4,none⟩) (by simp;omega)];simp
 have b4:w1.cell? ⟨w.heap.size+1,4,none⟩=some (.int .i64 u):=by rw [aa.cell (p:=⟨w.heap.size+1,4,none⟩) (by simp)];simp
 clear aa;go_wp2;go_ret;exact ⟨rfl,ab⟩
theorem qhi {wr w0 w1:World}{g g' o o':Nat}{a0 a1 a2 a3 a4 b0 b1 b2 b3 b4:Value}
  (h:(w0.cell? ⟨g,o,none⟩=some a0∧w0.cell? ⟨g,o+1,none⟩=some a1∧w0.cell? ⟨g,o+2,none⟩=some a2∧w0.cell? ⟨g,o+3,none⟩=some a3∧w0.cell? ⟨g,o+4,none⟩=some a4∧
   w0.cell? ⟨g',o',none⟩=some b0∧w0.cell? ⟨g',o'+1,none⟩=some b1∧w0.cell? ⟨g',o'+2,none⟩=some b2∧w0.cell? ⟨g',o'+3,none⟩=some b3∧w0.cell? ⟨g',o'+4,none⟩=some b4)∧Below wr.heap.size wr w0)
  (hp:g<wr.heap.size∧g'<wr.heap.size) (hb:Below w0.heap.size w0 w1):
  (w1.cell? ⟨g,o,none⟩=some a0∧w1.cell? ⟨g,o+1,none⟩=some a1∧w1.cell? ⟨g,o+2,none⟩=some a2∧w1.cell? ⟨g,o+3,none⟩=some a3∧w1.cell? ⟨g,o+4,none⟩=some a4∧
   w1.cell? ⟨g',o',none⟩=some b0∧w1.cell? ⟨g',o'+1,none⟩=some b1∧w1.cell? ⟨g',o'+2,none⟩=some b2∧w1.cell? ⟨g',o'+3,none⟩=some b3∧w1.cell? ⟨g',o'+4,none⟩=some b4)∧Below wr.heap.size wr w1:=by
 have hs:=h.2.size;have k:∀ x,w1.cell? ⟨g,x,none⟩=w0.cell? ⟨g,x,none⟩:=fun x=>hb.cell (p:=⟨g,x,none⟩) (by show g<_;omega)
 have k':∀ x,w1.cell? ⟨g',x,none⟩=w0.cell? ⟨g',x,none⟩:=fun x=>hb.cell (p:=⟨g',x,none⟩) (by show g'<_;omega)
 rw [k,k,k,k,k,k',k',k',k',k'];exact ⟨h.1,h.2.trans (hb.mono hs)⟩
theorem qsh (O:List OpM)(va vb:Value)(w:World){lo lo':Nat}(ha:HasO lo w va O)(hb:HasO lo' w vb O):
  Calls Tryz.prog 50 #[va,vb] w fun e w'=>e=.returned (.bool true)∧Below w.heap.size w w':=by
 obtain ⟨n,hn⟩:=e_ (O.length);obtain ⟨A,ca,rfl,ha⟩:=HasR.shape ha hn.symm;obtain ⟨B,cb,rfl,hb⟩:=HasR.shape hb hn.symm;have av:=ha.len.2.1;have HA:=z_ ha;have HB:=z_ hb;clear ha hb hn;go_enter Tryz.func50,Tryz.ntmps50
 go_wp2;go_loopw [5] (fun i wr=>∃ k:Nat,k≤n∧i=.int .i64 k∧Below w.heap.size w wr) (fun i _=>n-(intOf i).toNat)
 case atStart=>exact ⟨0,y_,rfl,Below.refl _ _⟩
 case round=>
  obtain ⟨k,hk,rfl,aa⟩:=hrel;by_cases hlt:k<n
  ·obtain ⟨ga,oa,A2,a2,rfl,_,ao,ae,af,ag,ah,ai,ap,_,_⟩:=qcg HA.out hlt
   obtain ⟨gb,ob,B2,b2,rfl,_,aq,aj,ab,hb2,ak,al,au,_,_⟩:=qcg HB.out hlt;have ka:∀ x,w.cell? ⟨ga,x,none⟩=wr.cell? ⟨ga,x,none⟩:=fun x=>(aa.cell (p:=⟨ga,x,none⟩) ao).symm
   have kb:∀ x,w.cell? ⟨gb,x,none⟩=wr.cell? ⟨gb,x,none⟩:=fun x=>(aa.cell (p:=⟨gb,x,none⟩) aq).symm
   rw [ka] at ae af ag ah ai;rw [kb] at aj ab hb2 ak al;have am:ga<wr.heap.size:=w_ ao aa.size;have an:gb<wr.heap.size:=w_ aq aa.size;have ac:=ap.below qa7 n_ aa;have ad:=au.below qa7 n_ aa;obtain ⟨⟨nm,D,p,q,u⟩,hd⟩:∃ d,d=O.getD k default:=⟨_,rfl⟩;rw [← hd] at ae af ag ah ai aj ab hb2 ak al ac ad;obtain ⟨m,hm⟩:=e_ (D.length);simp only [← hm] at ae af ag ah ai aj ab hb2 ak al ac ad;have HE:=z_ (fun W hW=>quq nm D p q u _ _ W (ac.below qa7 n_ hW) (ad.below qa7 n_ hW));clear ac ad ap au hd hm ka kb;go_wp2_with fail
   go_region_held3 (fun w'=>(w'.cell? ⟨ga,oa+k*5,none⟩=some (.string (bstr nm))∧w'.cell? ⟨ga,oa+k*5+1,none⟩=some (.slice A2 m a2)∧w'.cell? ⟨ga,oa+k*5+2,none⟩=some (.bool p)∧w'.cell? ⟨ga,oa+k*5+3,none⟩=some (.bool q)∧w'.cell? ⟨ga,oa+k*5+4,none⟩=some (.int .i64 u)∧
     w'.cell? ⟨gb,ob+k*5,none⟩=some (.string (bstr nm))∧w'.cell? ⟨gb,ob+k*5+1,none⟩=some (.slice B2 m b2)∧w'.cell? ⟨gb,ob+k*5+2,none⟩=some (.bool p)∧w'.cell? ⟨gb,ob+k*5+3,none⟩=some (.bool q)∧w'.cell? ⟨gb,ob+k*5+4,none⟩=some (.int .i64 u))∧Below wr.heap.size wr w')
    (first|(refine ⟨⟨?_,?_,?_,?_,?_,?_,?_,?_,?_,?_⟩,b_.drew⟩<;>assumption)|(go_split_ands;exact qhi (g:=ga) (g':=gb) ⟨⟨by assumption,by assumption,by assumption,by assumption,by assumption,by assumption,by assumption,by assumption,by assumption,by assumption⟩,by assumption⟩ ⟨am,an⟩ (by assumption)))
    ((go_at_call 103;go_split_ands;refine (HE.out _ (by assumption)).mono ?_;rintro e w1 ⟨rfl,ab⟩))
   go_wp2;go_roundw
   case rel=>
    have hh:Below wr.heap.size wr w1:=by go_split_ands;assumption
    exact ⟨k+1,by omega,by go_num,aa.trans (hh.mono aa.size)⟩
   case measure=>simp [intOf];omega
  ·obtain rfl:k=n:=o_
   go_wp2;go_ret;exact ⟨rfl,aa⟩
theorem qhe (P:List (List UInt8))(Q:List (Int×Int))(O:List OpM)(va vb vc ab ac ad:Value)(w:World)(h:HasG w va vb vc P Q O)(h':HasG w ab ac ad P Q O):
  Calls Tryz.prog 16 #[.agg #[va,vb,vc],.agg #[ab,ac,ad]] w fun e w'=>e=.returned (.bool true)∧Below w.heap.size w w':=by
 have ah:=z_ (fun W hW=>qmf P Q va vb ab ac W (h.below n_ hW).s.a (h.below n_ hW).s.b (h'.below n_ hW).s.a (h'.below n_ hW).s.b);have ag:=z_ (fun W hW=>qsh O vc ad W (h.below n_ hW).o (h'.below n_ hW).o);obtain ⟨A,ca,B,cb,C,cc,rfl,rfl,rfl,_,_,_,_⟩:=h.shape;obtain ⟨A',aj,B',ak,C',ai,rfl,rfl,rfl,_,_,_,_⟩:=h'.shape;obtain ⟨n,hn⟩:=e_ (O.length);rw [← hn] at ag ⊢;clear h h' hn;go_enter Tryz.func16,Tryz.ntmps16
 go_wp2_with fail
 refine (ah.out _ ((b_.alloc n_ _).alloc (by simp) _)).mono ?_;rintro e w1 ⟨rfl,aa⟩;have ae:Below w.heap.size w w1:=((b_.alloc n_ _).alloc (by simp) _).trans (aa.mono (by simp;omega));have al:w1.cell? ⟨w.heap.size,2,none⟩=some (.slice C n cc):=by rw [aa.cell (p:=⟨w.heap.size,2,none⟩) (by simp;omega)];simp
 have am:w1.cell? ⟨w.heap.size+1,2,none⟩=some (.slice C' n ai):=by rw [aa.cell (p:=⟨w.heap.size+1,2,none⟩) (by simp)];simp
 clear aa;go_wp2_with fail
 refine (ag.out _ ae).mono ?_;rintro e w2 ⟨rfl,hb2⟩;have af:=ae.trans (hb2.mono ae.size);clear hb2;go_wp2;go_ret;exact ⟨rfl,af⟩
end sige

namespace sigr
open mem subs sortp sorti rowl sigm sigs sigi sigk sigq sige
structure BoxC (C:World→Prop) where
 W:World
 h:C W
theorem qa1 {P:Program}{C:World→Prop}{id:Nat}{Q:Exit→Act→World→Prop}{a:Act}{w:World}{l:List Oper}(hm:P.follows .mixedOrders=true)(hB:Region.lexB .any l.toArray=true)(hC:C w.drew)
  (h:wpQuiet P l.toArray (fun w'=>∃ t:BoxC C,w'=t.W) (fun a'=>∀ w',(∃ t:BoxC C,w'=t.W)→Q .normal a' w') l a):(Code.region id l.toArray true).wp P Q a w:=
 wp_region_quiet (C:=fun w'=>∃ t:BoxC C,w'=t.W) hm hB ⟨⟨_,hC⟩,rfl⟩ (by simpa using h)
def Ten (W2:World)(g o g' o':Nat)(a0 a1 a2 a3 a4 b0 b1 b2 b3 b4:Value)(w:World):Prop:=
 (w.cell? ⟨g,o,none⟩=some a0∧w.cell? ⟨g,o+1,none⟩=some a1∧w.cell? ⟨g,o+2,none⟩=some a2∧w.cell? ⟨g,o+3,none⟩=some a3∧w.cell? ⟨g,o+4,none⟩=some a4∧
   w.cell? ⟨g',o',none⟩=some b0∧w.cell? ⟨g',o'+1,none⟩=some b1∧w.cell? ⟨g',o'+2,none⟩=some b2∧w.cell? ⟨g',o'+3,none⟩=some b3∧w.cell? ⟨g',o'+4,none⟩=some b4)∧Below W2.heap.size W2 w
theorem Ten.keep {W2 w0 w1:World}{g o g' o':Nat}{a0 a1 a2 a3 a4 b0 b1 b2 b3 b4:Value}(h:Ten W2 g o g' o' a0 a1 a2 a3 a4 b0 b1 b2 b3 b4 w0)(hp:g<W2.heap.size∧g'<W2.heap.size)(hb:Below w0.heap.size w0 w1):Ten W2 g o g' o' a0 a1 a2 a3 a4 b0 b1 b2 b3 b4 w1:=
 qhi h hp hb
def fitK (O:List OpM)(S:List Shp)(k:Nat):Bool:=qmy (O.getD k default).ass (O.getD k default).com (O.getD k default).unt (S.getD k default)&&ql8 (O.getD k default).unt (S.getD k default) S
def fitB (O:List OpM)(S:List Shp):Bool:=(List.range O.length).all (fitK O S)
theorem qy0 {O:List OpM}{S:List Shp}{k:Nat}(hk:k<O.length)(h:fitK O S k=false):fitB O S=false:=by
 rw [fitB,List.all_eq_false];exact ⟨k,by simpa using hk,by simp [h]⟩
theorem qur {O:List OpM}{S:List Shp}(h:∀ k,k<O.length→fitK O S k=true):fitB O S=true:=by
 rw [fitB,List.all_eq_true];exact fun k hk=>h k (by simpa using hk)
theorem qAl {n:Nat}{κ:Int→Nat}{O:List OpM}(hO:qqr n O):fitB O (shps κ O)=O.all (axOk κ O):=by
 have hk:∀ k,k<O.length→fitK O (shps κ O) k=axOk κ O (O.getD k default):=by
  intro k hk;have hm:O.getD k default∈O:=by rw [List.getD_eq_getElem?_getD,List.getElem?_eq_getElem hk];exact List.getElem_mem hk
  rw [fitK,qfw κ O k hk,qxx (hO _ hm),qxy,axOk]
 rw [Bool.eq_iff_iff,fitB];simp only [List.all_eq_true,List.mem_range];constructor
 ·intro h o ho
  obtain ⟨k,aa,rfl⟩:=List.getElem_of_mem ho;have:=h k aa;rw [hk k aa] at this;simpa [List.getD,List.getElem?_eq_getElem aa] using this
 ·intro h k aa
  rw [hk k aa];exact h _ (by rw [List.getD_eq_getElem?_getD,List.getElem?_eq_getElem aa];exact List.getElem_mem aa)
set_option maxRecDepth 20000 in
set_option maxHeartbeats 4000000 in
theorem qfx (O:List OpM)(S:List Shp)(hS:S.length=O.length)(r:Bool)(hr:fitB O S=r)(v vT:Value)(w:World){lo:Nat}(h:HasO lo w v O)(hT:HasT w vT S):
  Calls Tryz.prog 173 #[v,vT] w fun e w'=>e=.returned (.bool r)∧Below w.heap.size w w':=by
 obtain ⟨n,hn⟩:=e_ (O.length);obtain ⟨A,c,rfl,h⟩:=HasR.shape h hn.symm;obtain ⟨B,cb,rfl,hT⟩:=HasR.shape hT (hS.trans hn.symm);have hl:=h.len.2.1;have HH:=z_ h;have HT:=z_ hT;have HN:=z_ hn;clear h hn hT;go_enter Tryz.func173,Tryz.ntmps173
 go_wp2;go_loopw [9] (fun i wr=>∃ k:Nat,k≤n∧i=.int .i64 k∧Hid (∀ j,j<k→fitK O S j=true)∧Below w.heap.size w wr) (fun i _=>n-(intOf i).toNat)
 case atStart=>exact ⟨0,y_,rfl,z_ (fun j hj=>by omega),Below.refl _ _⟩
 case round=>
  obtain ⟨k,hk,rfl,ag,ab⟩:=hrel;by_cases hlt:k<n
  ·obtain ⟨g,o,A2,c2,rfl,_,hg,am,ak,an,ao,ap,hh,av,ae⟩:=qcg HH.out hlt
   obtain ⟨g',o2,rfl,aw,d0,d1,d2,d3,d4⟩:=ql7 HT.out hlt;have kw:∀ x,w.cell? ⟨g,x,none⟩=wr.cell? ⟨g,x,none⟩:=fun x=>(ab.cell (p:=⟨g,x,none⟩) hg).symm
   have aq:∀ x,w.cell? ⟨g',x,none⟩=wr.cell? ⟨g',x,none⟩:=fun x=>(ab.cell (p:=⟨g',x,none⟩) aw).symm
   rw [kw] at am ak an ao ap;rw [aq] at d0 d1 d2 d3 d4;have hsz:=ab.size;have ad:Hid (fitK O S k=false→r=false):=z_ (fun hb=>by rw [← hr];exact qy0 (by have:=HN.out;omega) hb)
   have aa:Hid (fitK O S k=true→∀ j,j<k+1→fitK O S j=true):=z_ (fun hb j hj=>by
    by_cases e:j=k
    ·subst e;exact hb
    ·exact ag.out j o_)
   unfold fitK at ad aa;obtain ⟨⟨nm,D,a,b,u⟩,hd⟩:∃ d,d=O.getD k default:=⟨_,rfl⟩;rw [← hd] at am ak an ao ap ad aa ae;obtain ⟨⟨s0,s1,s2,s3,s4⟩,hs⟩:∃ s,s=S.getD k default:=⟨_,rfl⟩;rw [← hs] at d0 d1 d2 d3 d4 ad aa;obtain ⟨dn,au⟩:=e_ (D.length);rw [← au] at ak;clear hh hd kw aq hr hs au av;cases h1:qmy a b u (s0,s1,s2,s3,s4) with
   | false=>
    have HR:=z_ (ad.out (by simp [h1]));have aj:=z_ (fun W=>qd3 nm A2 dn c2 a b u s0 s1 s2 s3 s4 false h1 W);clear h1 aa;go_wp2_with fail
    generalize hW:wr.alloc (.cells #[.string (bstr nm),.slice A2 dn c2,.bool a,.bool b,.int .i64 u] 124)=W2
    have ac:Below w.heap.size w W2:=by rw [← hW];exact ab.alloc ab.size _
    have ah:wr.heap.size<W2.heap.size:=by rw [← hW];simp
    have ai:g'<W2.heap.size:=by rw [← hW];simp;omega
    have k1:W2.heap[wr.heap.size]? =some (.cells #[.string (bstr nm),.slice A2 dn c2,.bool a,.bool b,.int .i64 u] 124 (0,0)):=by rw [← hW];exact qa5 _ _ _ rfl
    have p0:=h_ W2 _ 0 _ _ _ k1;have p1:=h_ W2 _ 1 _ _ _ k1;have p2:=h_ W2 _ 2 _ _ _ k1;have p3:=h_ W2 _ 3 _ _ _ k1;have p4:=h_ W2 _ 4 _ _ _ k1;have q0:W2.cell? ⟨g',o2+k*5,none⟩=some (.int .i64 (s0:Int)):=by rw [← hW,(Below.cell ((Below.refl wr.heap.size wr).alloc n_ _) (p:=⟨g',o2+k*5,none⟩) (by show g'<_;omega))];exact d0
    have q1:W2.cell? ⟨g',o2+k*5+1,none⟩=some (.int .u16 (s1:Int)):=by rw [← hW,(Below.cell ((Below.refl wr.heap.size wr).alloc n_ _) (p:=⟨g',o2+k*5+1,none⟩) (by show g'<_;omega))];exact d1
    have q2:W2.cell? ⟨g',o2+k*5+2,none⟩=some (.int .u16 (s2:Int)):=by rw [← hW,(Below.cell ((Below.refl wr.heap.size wr).alloc n_ _) (p:=⟨g',o2+k*5+2,none⟩) (by show g'<_;omega))];exact d2
    have q3:W2.cell? ⟨g',o2+k*5+3,none⟩=some (.int .u16 (s3:Int)):=by rw [← hW,(Below.cell ((Below.refl wr.heap.size wr).alloc n_ _) (p:=⟨g',o2+k*5+3,none⟩) (by show g'<_;omega))];exact d3
    have q4:W2.cell? ⟨g',o2+k*5+4,none⟩=some (.int .u16 (s4:Int)):=by rw [← hW,(Below.cell ((Below.refl wr.heap.size wr).alloc n_ _) (p:=⟨g',o2+k*5+4,none⟩) (by show g'<_;omega))];exact d4
    clear hW k1;have af:(Ten W2 wr.heap.size 0 g' (o2+k*5) (.string (bstr nm)) (.slice A2 dn c2) (.bool a) (.bool b) (.int .i64 u) (.int .i64 (s0:Int)) (.int .u16 (s1:Int)) (.int .u16 (s2:Int)) (.int .u16 (s3:Int)) (.int .u16 (s4:Int))) W2.drew:=⟨⟨p0,p1,p2,p3,p4,q0,q1,q2,q3,q4⟩,b_.drew⟩;refine qa1 (C:=(Ten W2 wr.heap.size 0 g' (o2+k*5) (.string (bstr nm)) (.slice A2 dn c2) (.bool a) (.bool b) (.int .i64 u) (.int .i64 (s0:Int)) (.int .u16 (s1:Int)) (.int .u16 (s2:Int)) (.int .u16 (s3:Int)) (.int .u16 (s4:Int)))) k_ k_ af ?_;have nb:Nonempty (BoxC (Ten W2 wr.heap.size 0 g' (o2+k*5) (.string (bstr nm)) (.slice A2 dn c2) (.bool a) (.bool b) (.int .i64 u) (.int .i64 (s0:Int)) (.int .u16 (s1:Int)) (.int .u16 (s2:Int)) (.int .u16 (s3:Int)) (.int .u16 (s4:Int)))):=⟨⟨_,af⟩⟩;have r0:∀ t:BoxC (Ten W2 wr.heap.size 0 g' (o2+k*5) (.string (bstr nm)) (.slice A2 dn c2) (.bool a) (.bool b) (.int .i64 u) (.int .i64 (s0:Int)) (.int .u16 (s1:Int)) (.int .u16 (s2:Int)) (.int .u16 (s3:Int)) (.int .u16 (s4:Int))),t.W.cell? ⟨wr.heap.size,0,none⟩=some (.string (bstr nm)):=fun t=>t.h.1.1
    have r1:∀ t:BoxC (Ten W2 wr.heap.size 0 g' (o2+k*5) (.string (bstr nm)) (.slice A2 dn c2) (.bool a) (.bool b) (.int .i64 u) (.int .i64 (s0:Int)) (.int .u16 (s1:Int)) (.int .u16 (s2:Int)) (.int .u16 (s3:Int)) (.int .u16 (s4:Int))),t.W.cell? ⟨wr.heap.size,1,none⟩=some (.slice A2 dn c2):=fun t=>t.h.1.2.1
    have r2:∀ t:BoxC (Ten W2 wr.heap.size 0 g' (o2+k*5) (.string (bstr nm)) (.slice A2 dn c2) (.bool a) (.bool b) (.int .i64 u) (.int .i64 (s0:Int)) (.int .u16 (s1:Int)) (.int .u16 (s2:Int)) (.int .u16 (s3:Int)) (.int .u16 (s4:Int))),t.W.cell? ⟨wr.heap.size,2,none⟩=some (.bool a):=fun t=>t.h.1.2.2.1
    have r3:∀ t:BoxC (Ten W2 wr.heap.size 0 g' (o2+k*5) (.string (bstr nm)) (.slice A2 dn c2) (.bool a) (.bool b) (.int .i64 u) (.int .i64 (s0:Int)) (.int .u16 (s1:Int)) (.int .u16 (s2:Int)) (.int .u16 (s3:Int)) (.int .u16 (s4:Int))),t.W.cell? ⟨wr.heap.size,3,none⟩=some (.bool b):=fun t=>t.h.1.2.2.2.1
    have r4:∀ t:BoxC (Ten W2 wr.heap.size 0 g' (o2+k*5) (.string (bstr nm)) (.slice A2 dn c2) (.bool a) (.bool b) (.int .i64 u) (.int .i64 (s0:Int)) (.int .u16 (s1:Int)) (.int .u16 (s2:Int)) (.int .u16 (s3:Int)) (.int .u16 (s4:Int))),t.W.cell? ⟨wr.heap.size,4,none⟩=some (.int .i64 u):=fun t=>t.h.1.2.2.2.2.1
    have r5:∀ t:BoxC (Ten W2 wr.heap.size 0 g' (o2+k*5) (.string (bstr nm)) (.slice A2 dn c2) (.bool a) (.bool b) (.int .i64 u) (.int .i64 (s0:Int)) (.int .u16 (s1:Int)) (.int .u16 (s2:Int)) (.int .u16 (s3:Int)) (.int .u16 (s4:Int))),t.W.cell? ⟨g',o2+k*5,none⟩=some (.int .i64 (s0:Int)):=fun t=>t.h.1.2.2.2.2.2.1
    have r6:∀ t:BoxC (Ten W2 wr.heap.size 0 g' (o2+k*5) (.string (bstr nm)) (.slice A2 dn c2) (.bool a) (.bool b) (.int .i64 u) (.int .i64 (s0:Int)) (.int .u16 (s1:Int)) (.int .u16 (s2:Int)) (.int .u16 (s3:Int)) (.int .u16 (s4:Int))),t.W.cell? ⟨g',o2+k*5+1,none⟩=some (.int .u16 (s1:Int)):=fun t=>t.h.1.2.2.2.2.2.2.1
    have r7:∀ t:BoxC (Ten W2 wr.heap.size 0 g' (o2+k*5) (.string (bstr nm)) (.slice A2 dn c2) (.bool a) (.bool b) (.int .i64 u) (.int .i64 (s0:Int)) (.int .u16 (s1:Int)) (.int .u16 (s2:Int)) (.int .u16 (s3:Int)) (.int .u16 (s4:Int))),t.W.cell? ⟨g',o2+k*5+2,none⟩=some (.int .u16 (s2:Int)):=fun t=>t.h.1.2.2.2.2.2.2.2.1
    have r8:∀ t:BoxC (Ten W2 wr.heap.size 0 g' (o2+k*5) (.string (bstr nm)) (.slice A2 dn c2) (.bool a) (.bool b) (.int .i64 u) (.int .i64 (s0:Int)) (.int .u16 (s1:Int)) (.int .u16 (s2:Int)) (.int .u16 (s3:Int)) (.int .u16 (s4:Int))),t.W.cell? ⟨g',o2+k*5+3,none⟩=some (.int .u16 (s3:Int)):=fun t=>t.h.1.2.2.2.2.2.2.2.2.1
    have r9:∀ t:BoxC (Ten W2 wr.heap.size 0 g' (o2+k*5) (.string (bstr nm)) (.slice A2 dn c2) (.bool a) (.bool b) (.int .i64 u) (.int .i64 (s0:Int)) (.int .u16 (s1:Int)) (.int .u16 (s2:Int)) (.int .u16 (s3:Int)) (.int .u16 (s4:Int))),t.W.cell? ⟨g',o2+k*5+4,none⟩=some (.int .u16 (s4:Int)):=fun t=>t.h.1.2.2.2.2.2.2.2.2.2
    clear p0 p1 p2 p3 p4 q0 q1 q2 q3 q4 af;repeat (go_big_quiet_step ((go_at_call 218;exact (aj.out _).mono (fun _ _ h=>⟨h.1,⟨_,Ten.keep (BoxC.h _) ⟨ah,ai⟩ h.2⟩,rfl⟩))))
    refine wpQuiet_nil ?_;rintro w5 ⟨t5,rfl⟩;have hh:=t5.h.2;go_wp2;go_ret;exact ⟨qa0 HR.out.symm,ac.trans (hh.mono ac.size)⟩
   | true=>
    have aj:=z_ (fun W=>qd3 nm A2 dn c2 a b u s0 s1 s2 s3 s4 true h1 W);cases h2:ql8 u (s0,s1,s2,s3,s4) S with
    | false=>
     have HR:=z_ (ad.out (by simp [h2]));have al:=z_ (fun W (hW:Below w.heap.size w W)=>qh5 nm A2 dn c2 a b u ae s0 s1 s2 s3 s4 S false h2 _ W (HT.out.below qfu n_ hW));clear h1 h2 aa;go_wp2_with fail
     generalize hW:wr.alloc (.cells #[.string (bstr nm),.slice A2 dn c2,.bool a,.bool b,.int .i64 u] 124)=W2
     have ac:Below w.heap.size w W2:=by rw [← hW];exact ab.alloc ab.size _
     have ah:wr.heap.size<W2.heap.size:=by rw [← hW];simp
     have ai:g'<W2.heap.size:=by rw [← hW];simp;omega
     have k1:W2.heap[wr.heap.size]? =some (.cells #[.string (bstr nm),.slice A2 dn c2,.bool a,.bool b,.int .i64 u] 124 (0,0)):=by rw [← hW];exact qa5 _ _ _ rfl
     have p0:=h_ W2 _ 0 _ _ _ k1;have p1:=h_ W2 _ 1 _ _ _ k1;have p2:=h_ W2 _ 2 _ _ _ k1;have p3:=h_ W2 _ 3 _ _ _ k1;have p4:=h_ W2 _ 4 _ _ _ k1;have q0:W2.cell? ⟨g',o2+k*5,none⟩=some (.int .i64 (s0:Int)):=by rw [← hW,(Below.cell ((Below.refl wr.heap.size wr).alloc n_ _) (p:=⟨g',o2+k*5,none⟩) (by show g'<_;omega))];exact d0
     have q1:W2.cell? ⟨g',o2+k*5+1,none⟩=some (.int .u16 (s1:Int)):=by rw [← hW,(Below.cell ((Below.refl wr.heap.size wr).alloc n_ _) (p:=⟨g',o2+k*5+1,none⟩) (by show g'<_;omega))];exact d1
     have q2:W2.cell? ⟨g',o2+k*5+2,none⟩=some (.int .u16 (s2:Int)):=by rw [← hW,(Below.cell ((Below.refl wr.heap.size wr).alloc n_ _) (p:=⟨g',o2+k*5+2,none⟩) (by show g'<_;omega))];exact d2
     have q3:W2.cell? ⟨g',o2+k*5+3,none⟩=some (.int .u16 (s3:Int)):=by rw [← hW,(Below.cell ((Below.refl wr.heap.size wr).alloc n_ _) (p:=⟨g',o2+k*5+3,none⟩) (by show g'<_;omega))];exact d3
     have q4:W2.cell? ⟨g',o2+k*5+4,none⟩=some (.int .u16 (s4:Int)):=by rw [← hW,(Below.cell ((Below.refl wr.heap.size wr).alloc n_ _) (p:=⟨g',o2+k*5+4,none⟩) (by show g'<_;omega))];exact d4
     clear hW k1
     go_region_held3 (fun w'=>(w'.cell? ⟨wr.heap.size,0,none⟩=some (.string (bstr nm))∧w'.cell? ⟨wr.heap.size,1,none⟩=some (.slice A2 dn c2)∧w'.cell? ⟨wr.heap.size,2,none⟩=some (.bool a)∧w'.cell? ⟨wr.heap.size,3,none⟩=some (.bool b)∧w'.cell? ⟨wr.heap.size,4,none⟩=some (.int .i64 u)∧w'.cell? ⟨g',o2+k*5,none⟩=some (.int .i64 (s0:Int))∧w'.cell? ⟨g',o2+k*5+1,none⟩=some (.int .u16 (s1:Int))∧w'.cell? ⟨g',o2+k*5+2,none⟩=some (.int .u16 (s2:Int))∧w'.cell? ⟨g',o2+k*5+3,none⟩=some (.int .u16 (s3:Int))∧w'.cell? ⟨g',o2+k*5+4,none⟩=some (.int .u16 (s4:Int)))∧Below W2.heap.size W2 w')
      (first|(refine ⟨⟨?_,?_,?_,?_,?_,?_,?_,?_,?_,?_⟩,b_.drew⟩<;>assumption)|(go_split_ands;exact qhi (g:=wr.heap.size) (o:=0) (g':=g') (o':=o2+k*5) ⟨⟨by assumption,by assumption,by assumption,by assumption,by assumption,by assumption,by assumption,by assumption,by assumption,by assumption⟩,by assumption⟩ ⟨ah,ai⟩ (by assumption)))
      (first
       | (go_at_call 218;go_split_ands;refine (aj.out _).mono ?_;rintro e w3 ⟨rfl,ax⟩)
       | (go_at_call 219;go_split_ands;refine (al.out _ (ac.trans (Below.mono (by assumption) ac.size))).mono ?_;rintro e w4 ⟨rfl,ay⟩))
     go_wp2;have hh:Below W2.heap.size W2 w4:=by go_split_ands;assumption
     go_ret;exact ⟨qa0 HR.out.symm,ac.trans (hh.mono ac.size)⟩
    | true=>
     have HG:=z_ (aa.out (by simp [h1,h2]));have al:=z_ (fun W (hW:Below w.heap.size w W)=>qh5 nm A2 dn c2 a b u ae s0 s1 s2 s3 s4 S true h2 _ W (HT.out.below qfu n_ hW));clear h1 h2 aa;go_wp2_with fail
     generalize hW:wr.alloc (.cells #[.string (bstr nm),.slice A2 dn c2,.bool a,.bool b,.int .i64 u] 124)=W2
     have ac:Below w.heap.size w W2:=by rw [← hW];exact ab.alloc ab.size _
     have ah:wr.heap.size<W2.heap.size:=by rw [← hW];simp
     have ai:g'<W2.heap.size:=by rw [← hW];simp;omega
     have k1:W2.heap[wr.heap.size]? =some (.cells #[.string (bstr nm),.slice A2 dn c2,.bool a,.bool b,.int .i64 u] 124 (0,0)):=by rw [← hW];exact qa5 _ _ _ rfl
     have p0:=h_ W2 _ 0 _ _ _ k1;have p1:=h_ W2 _ 1 _ _ _ k1;have p2:=h_ W2 _ 2 _ _ _ k1;have p3:=h_ W2 _ 3 _ _ _ k1;have p4:=h_ W2 _ 4 _ _ _ k1;have q0:W2.cell? ⟨g',o2+k*5,none⟩=some (.int .i64 (s0:Int)):=by rw [← hW,(Below.cell ((Below.refl wr.heap.size wr).alloc n_ _) (p:=⟨g',o2+k*5,none⟩) (by show g'<_;omega))];exact d0
     have q1:W2.cell? ⟨g',o2+k*5+1,none⟩=some (.int .u16 (s1:Int)):=by rw [← hW,(Below.cell ((Below.refl wr.heap.size wr).alloc n_ _) (p:=⟨g',o2+k*5+1,none⟩) (by show g'<_;omega))];exact d1
     have q2:W2.cell? ⟨g',o2+k*5+2,none⟩=some (.int .u16 (s2:Int)):=by rw [← hW,(Below.cell ((Below.refl wr.heap.size wr).alloc n_ _) (p:=⟨g',o2+k*5+2,none⟩) (by show g'<_;omega))];exact d2
     have q3:W2.cell? ⟨g',o2+k*5+3,none⟩=some (.int .u16 (s3:Int)):=by rw [← hW,(Below.cell ((Below.refl wr.heap.size wr).alloc n_ _) (p:=⟨g',o2+k*5+3,none⟩) (by show g'<_;omega))];exact d3
     have q4:W2.cell? ⟨g',o2+k*5+4,none⟩=some (.int .u16 (s4:Int)):=by rw [← hW,(Below.cell ((Below.refl wr.heap.size wr).alloc n_ _) (p:=⟨g',o2+k*5+4,none⟩) (by show g'<_;omega))];exact d4
     clear hW k1
     go_region_held3 (fun w'=>(w'.cell? ⟨wr.heap.size,0,none⟩=some (.string (bstr nm))∧w'.cell? ⟨wr.heap.size,1,none⟩=some (.slice A2 dn c2)∧w'.cell? ⟨wr.heap.size,2,none⟩=some (.bool a)∧w'.cell? ⟨wr.heap.size,3,none⟩=some (.bool b)∧w'.cell? ⟨wr.heap.size,4,none⟩=some (.int .i64 u)∧w'.cell? ⟨g',o2+k*5,none⟩=some (.int .i64 (s0:Int))∧w'.cell? ⟨g',o2+k*5+1,none⟩=some (.int .u16 (s1:Int))∧w'.cell? ⟨g',o2+k*5+2,none⟩=some (.int .u16 (s2:Int))∧w'.cell? ⟨g',o2+k*5+3,none⟩=some (.int .u16 (s3:Int))∧w'.cell? ⟨g',o2+k*5+4,none⟩=some (.int .u16 (s4:Int)))∧Below W2.heap.size W2 w')
      (first|(refine ⟨⟨?_,?_,?_,?_,?_,?_,?_,?_,?_,?_⟩,b_.drew⟩<;>assumption)|(go_split_ands;exact qhi (g:=wr.heap.size) (o:=0) (g':=g') (o':=o2+k*5) ⟨⟨by assumption,by assumption,by assumption,by assumption,by assumption,by assumption,by assumption,by assumption,by assumption,by assumption⟩,by assumption⟩ ⟨ah,ai⟩ (by assumption)))
      (first
       | (go_at_call 218;go_split_ands;refine (aj.out _).mono ?_;rintro e w3 ⟨rfl,ax⟩)
       | (go_at_call 219;go_split_ands;refine (al.out _ (ac.trans (Below.mono (by assumption) ac.size))).mono ?_;rintro e w4 ⟨rfl,ay⟩))
     go_wp2;go_roundw
     case rel=>
      have hh:Below W2.heap.size W2 w4:=by go_split_ands;assumption
      exact ⟨k+1,by omega,by go_num,HG,ac.trans (hh.mono ac.size)⟩
     case measure=>simp [intOf];omega
  ·obtain rfl:k=n:=o_
   have HR:Hid (r=true):=z_ (by rw [← hr];exact qur (fun j hj=>ag.out j (by have:=HN.out;omega)));go_wp2;go_ret;exact ⟨qa0 HR.out.symm,ab⟩
end sigr

namespace sigv
open mem split subs sortn setm sortm sortp sorti sortf rowl sigm sigs sigi sigk sigr
theorem qov {P:Program}(w:World)(t k e:TypeId)(m:Option Nat)(h:P.underlying t=some (.map k e)):(binOp .eql t (.map m) (.map none)).run P w=.ok (.bool m.isNone) w:=by
 simp only [binOp];simp [run_equal_map_nil w t k e m h]
theorem qig {lo:Nat}{w:World}{v:Value}{O:List OpM}(h:HasO lo w v O):∀ k,k<(nms O).length→((nms O).getD k []).length≤maxLen:=by
 intro k hk;obtain ⟨A,c,rfl,h⟩:=HasR.shape h rfl;rw [ql2] at hk;obtain ⟨_,_,_,_,_,_,_,_,_,_,_,_,_,aa,_⟩:=qcg h hk;rw [qic O k hk];exact aa
def qus (P:List (List UInt8))(Q:List (Int×Int))(O:List OpM)(r:Bool)(w:World)(e:Ending)(w':World):Prop:=∃ mv sv,e=.returned (.tuple #[mv,sv])∧(r=false→mv=.map none∧sv=.slice none 0 0)∧
 (r=true→(∃ b,mv=.map (some b))∧(∃ A c,sv=.slice A O.length c)∧MapU w' mv (qal P Q)∧HasT w' sv (shps (κU (qal P Q)) O))∧Below w.heap.size w w'
theorem c36_ {p:Prop}(h:p:=by
 clear hM hy am;go_wp2;refine bodyPost_ret (v:=.tuple #[.map none,.slice none 0 0]) (by simp [results,Tryz.results121,go_sem]) rfl ?_;exact ⟨_,_,rfl,fun _=>⟨rfl,rfl⟩,(fun h=>by rw [HR.out] at h;cases h),(b_.alloc n_ _).trans (ae.mono (by simp))⟩
):p:=h
set_option maxRecDepth 20000 in
set_option maxHeartbeats 2000000 in
theorem qla (P:List (List UInt8))(Q:List (Int×Int))(O:List OpM)(va vb vc:Value)(r:Bool)(hr:qad P Q O=r)(w:World)(h:HasG w va vb vc P Q O):
  Calls Tryz.prog 121 #[.agg #[va,vb,vc]] w (qus P Q O r w):=by
 have aq:=z_ (fun W (hW:Below w.heap.size w W)=>ql6 P Q va vb W (h.below n_ hW).s);obtain ⟨A,ca,B,cb,C,cc,rfl,rfl,rfl,aM,aN,aG,h'⟩:=h.shape;have aH:∀ (m:Option Nat) (W:World),(binOp .eql 89 (.map m) (.map none)).run Tryz.prog W=.ok (.bool m.isNone) W:=fun m W=>qov W 89 _ _ m Tryz.underlying89
 have al:=z_ (fun W (hW:Below w.heap.size w W)=>(h'.below n_ hW).o);have aI:=z_ (qig h'.o);rw [qAh] at hr;obtain ⟨n,hn⟩:=e_ (O.length);have HN:=z_ hn;rw [← hn] at aG al ⊢;clear h h' hn;cases ad:okS P Q with
 | false=>
  have HR:Hid (r=false):=z_ (by rw [← hr,ad];rfl);have au:=z_ ad;clear ad hr;go_enter Tryz.func121,Tryz.ntmps121
  go_wp2_with fail
  refine (aq.out _ (b_.alloc n_ _)).mono ?_;rintro e w1 ⟨mv,rfl,hM,hy,am,ae⟩;obtain rfl:=am au.out;exact c36_
 | true=>
  have ac:qex P.length (κC P.length Q) O=r:=by rw [← hr,ad];rfl
  have hU:qal P Q=clo P.length (both (prs Q)):=by rw [qal,if_pos ad]
  have hκ:κU (qal P Q)=κC P.length Q:=by funext x;rw [hU];rfl
  have av:(qal P Q).length=P.length:=by rw [qgp,if_pos ad]
  obtain ⟨p1,p2,p3,p4,p5⟩:=qax ad;have aJ:Hid (qal P Q=qal P Q):=z_ rfl;have an:Lim (qal P Q):=⟨by omega,fun i=>by rw [av,hU];exact qqm (qgj p3.inR) i⟩;have ag:=z_ an;have au:=z_ ad;rw [← hκ,← av] at ac;clear hr hU hκ av an ad p1 p2 p3 p4 p5;obtain ⟨U,aw⟩:=e_ (qal P Q);rw [← aw] at aq ag ac;have ay:=z_ aw;clear aw aJ;by_cases aK:14<n
  ·have HR:Hid (r=false):=z_ (by rw [← ac,qex];have:=HN.out;simp;omega)
   clear ac;go_enter Tryz.func121,Tryz.ntmps121
   go_wp2_with fail
   refine (aq.out _ (b_.alloc n_ _)).mono ?_;rintro e w1 ⟨mv,rfl,hM,hy,am,ae⟩;obtain ⟨b,rfl⟩:=hy au.out;have c2:w1.cell? ⟨w.heap.size,2,none⟩=some (.slice C n cc):=by rw [ae.cell (p:=⟨w.heap.size,2,none⟩) (by simp)];simp
   exact c36_
  have af:Hid (O.length≤14):=z_ (by have:=HN.out;omega)
  have az:Hid (∀ r v W,qb2 (nms O) O.length=r→Has W v (ssv (nms O))→Calls Tryz.prog 170 #[v] W fun e w'=>e=.returned (.bool r)∧W=w'):=
   z_ (fun r v W hr hH=>qqj (nms O) aI.out v r (by rw [ql2];exact hr) W hH)
  go_enter Tryz.func121,Tryz.ntmps121
  go_wp2_with fail
  refine (aq.out _ (b_.alloc n_ _)).mono ?_;rintro e w1 ⟨mv,rfl,hM,hy,am,ae⟩;obtain ⟨b,rfl⟩:=hy au.out;have c2:w1.cell? ⟨w.heap.size,2,none⟩=some (.slice C n cc):=by rw [ae.cell (p:=⟨w.heap.size,2,none⟩) (by simp)];simp
  have ah:Below w.heap.size w w1:=(b_.alloc n_ _).trans (ae.mono (by simp));have aA:w.heap.size<w1.heap.size:=by have:=ae.size;simp at this;omega
  have HM:=z_ hM;clear hM hy am ae;go_wp2_with fail
  refine (qot O af.out _ _ (al.out _ ah)).mono ?_;rintro e w2 ⟨v2,rfl,aB,hb2⟩;have aC:=z_ aB;have d2:w2.cell? ⟨w.heap.size,2,none⟩=some (.slice C n cc):=(hb2.cell (by exact aA)).trans c2;have aa:=ah.trans (hb2.mono ah.size);have aD:w.heap.size<w2.heap.size:=w_ aA hb2.size;have ax:=z_ (HM.out.below hb2);clear aB hb2 c2;go_wp2_with fail
  cases ai:qb2 (nms O) O.length with
  | false=>
   have HR:Hid (r=false):=z_ (by rw [← ac,qex,ai];simp);refine (az.out _ _ _ ai aC.out).mono ?_;rintro e w3 ⟨rfl,rfl⟩;clear ai ac;go_wp2;refine bodyPost_ret (v:=.tuple #[.map none,.slice none 0 0]) (by simp [results,Tryz.results121,go_sem]) rfl ?_;exact ⟨_,_,rfl,fun _=>⟨rfl,rfl⟩,(fun h=>by rw [HR.out] at h;cases h),aa⟩
  | true=>
   refine (az.out _ _ _ ai aC.out).mono ?_;rintro e w3 ⟨rfl,rfl⟩;go_wp2_with fail
   cases aj:(O.all fun o=>qab U.length (κU U) o.decls) with
   | false=>
    have HR:Hid (r=false):=z_ (by rw [← ac,qex,aj];simp);refine (qh4 U ag.out O af.out false aj _ _ _ (al.out _ aa) ax.out).mono ?_;rintro e w3 ⟨v3,rfl,_,ao,ak⟩;obtain rfl:=ao rfl;have e2:w3.cell? ⟨w.heap.size,2,none⟩=some (.slice C n cc):=(ak.cell (by exact aD)).trans d2;clear ai ac aj d2 ao;go_wp2;refine bodyPost_ret (v:=.tuple #[.map none,.slice none 0 0]) (by simp [results,Tryz.results121,go_sem]) rfl ?_;exact ⟨_,_,rfl,fun _=>⟨rfl,rfl⟩,(fun h=>by rw [HR.out] at h;cases h),aa.trans (ak.mono aa.size)⟩
   | true=>
    refine (qh4 U ag.out O af.out true aj _ _ _ (al.out _ aa) ax.out).mono ?_;rintro e w3 ⟨v3,rfl,ao,_,ak⟩;have hT:=ao rfl;obtain ⟨A5,c5,rfl,aE⟩:=HasR.shape hT rfl;have HT:=z_ aE;have e2:w3.cell? ⟨w.heap.size,2,none⟩=some (.slice C n cc):=(ak.cell (by exact aD)).trans d2;have ab:=aa.trans (ak.mono aa.size)
    have aF:Hid (fitB O (shps (κU U) O)=r):=z_ (by
     rw [qAl (qms aj),← ac,qex,ai,aj];have:=af.out
     simp [this])
    have aL:=z_ (ax.out.below ak);clear ai ac aj d2 ao hT aE ak;cases r with
    | false=>
     go_wp2_with fail
     refine (qfx O (shps (κU U) O) (qfv _ _) false aF.out _ _ _ (al.out _ ab) HT.out).mono ?_;rintro e w4 ⟨rfl,ap⟩;go_wp2;refine bodyPost_ret (v:=.tuple #[.map none,.slice none 0 0]) (by simp [results,Tryz.results121,go_sem]) rfl ?_;exact ⟨_,_,rfl,fun _=>⟨rfl,rfl⟩,(fun h=>by cases h),ab.trans (ap.mono ab.size)⟩
    | true=>
     go_wp2_with fail
     refine (qfx O (shps (κU U) O) (qfv _ _) true aF.out _ _ _ (al.out _ ab) HT.out).mono ?_;rintro e w4 ⟨rfl,ap⟩;have HP:Hid (qus P Q O true w (.returned (.tuple #[.map (some b),.slice A5 (shps (κU U) O).length c5])) w4):=z_ ⟨_,_,rfl,(fun h=>by cases h),fun _=>⟨⟨_,rfl⟩,⟨A5,c5,by rw [qfv]⟩,by rw [← ay.out];exact aL.out.below ap,by rw [← ay.out];exact HasR.below qfu HT.out n_ ap⟩,ab.trans (ap.mono ab.size)⟩;go_wp2;refine bodyPost_ret (v:=.tuple #[.map (some b),.slice A5 (shps (κU U) O).length c5]) (by simp [results,Tryz.results121,go_sem]) rfl ?_;exact HP.out
end sigv

namespace sortu
set_option maxHeartbeats 4000000
open mem subs setm sets sortm sortp sorti
theorem qcp (L:List Int)(k:Nat)(x:Int):(ivs L).set k (.int .i64 x)=ivs (L.set k x):=by simp [ivs,List.map_set]
theorem qbz (L:List Nat)(k x:Nat):(nats L).set k (x:Int)=nats (L.set k x):=by
 simp [nats,List.map_set]
theorem qac (L:List Nat):(nats L).length=L.length:=by simp [nats]
theorem qv5 (L:List Nat)(x:Nat):nats (L++[x])=nats L++[(x:Int)]:=by simp [nats]
theorem qbe {w:World}{base g n cap:Nat}{U:List Nat}(h:w.ownsRow base 3 1 (.slice (some ⟨g,0,none⟩) n cap) n (ivs (nats U))){j:Nat}(hj:j<n):
  w.cell? ⟨g,j,none⟩=some (.int .i64 ((U.getD j 0:Nat):Int))∧w.frozen? ⟨g,j,none⟩=false:=by
 refine ⟨?_,h.frozenAt j⟩;have hl:=h.1;rw [h.cellAt j o_];have aa:(ivs (nats U)).length=U.length:=by rw [qas,qac]
 have:(ivs (nats U))[j]? =some ((ivs (nats U)).getD j undef):=by
  rw [List.getElem?_eq_getElem o_];simp [List.getD,List.getElem?_eq_getElem (show j<(ivs (nats U)).length by omega)]
 rw [this,qag _ _ (by rw [qac];omega),qat]
theorem qr4 {w:World}{base base' n:Nat}{e:TypeId}{size:Nat}{v:Value}{xs:List Value}(h:w.ownsRow base e size v n xs)(hb:base'≤base):w.ownsRow base' e size v n xs:=by
 refine ⟨h.1,?_⟩;rcases h.2 with h2|⟨g,cap,cur,hv,hg,r⟩
 ·exact .inl h2
 ·exact .inr ⟨g,cap,cur,hv,by omega,r⟩
theorem c46_ {p:Prop}(h:p:=by
 obtain rfl:t=k:=o_;go_wp2;go_ret;exact ⟨_,rfl,qr4 hown o_,(b_.alloc n_ _).trans (aa.mono o_)⟩
):p:=h
theorem qg5 (P:List (List UInt8))(Q:List (Int×Int))(aA:1≤P.length)(hP:P.length≤8)(hQ:Q.length≤32)(ag:PIn P.length Q)(va vb:Value)(w:World)(h:HasS w va vb P Q):
  Calls Tryz.prog 179 #[.agg #[va,vb]] w fun e w'=>∃ v,e=.returned v∧w'.ownsRow w.heap.size 3 1 v P.length (ivs (nats (clo P.length (prs Q))))∧Below w.heap.size w w':=by
 obtain ⟨i0,hi,aB,aC,aD⟩:=info_parts qdf;obtain ⟨A,ca,B,cb,rfl,rfl,aE,aF,h'⟩:=h.shape;obtain ⟨n,hn⟩:=e_ (P.length);obtain ⟨m,hm⟩:=e_ (Q.length);rw [← hn] at aA hP ag aE ⊢;rw [← hm] at hQ aF;have aq:=h'.b;rw [← hm] at aq;have HB:=z_ aq;have HN:=z_ hn;have HM:=z_ hm;have au:=z_ ag;rw [← hm];clear h h' hn hm ag aq;go_enter Tryz.func179,Tryz.ntmps179
 go_wp2;have ah:(((w.alloc (.cells #[.slice A n ca,.slice B m cb] 43)).alloc (.cells #[] 3)).ownsRow (w.heap.size+1) 3 1 (.slice (some ⟨w.heap.size+1,0,none⟩) 0 0) 0 (ivs (nats (qc9 0)))):=by
  have:=World.ownsRow_lit (e:=3) (size:=1) (w.alloc (.cells #[.slice A n ca,.slice B m cb] 43)) #[] 0 n_ (by unfold maxLen;omega) rfl;simpa [qc9,ivs,nats] using this
 have av:=z_ ah;clear ah;go_loopw [3,4] (fun v i wr=>∃ k:Nat,k≤n∧i=.int .i64 k∧wr.ownsRow (w.heap.size+1) 3 1 v k (ivs (nats (qc9 k)))∧Below (w.heap.size+1) (w.alloc (.cells #[.slice A n ca,.slice B m cb] 43)) wr) (fun _ i _=>n-(intOf i).toNat)
 case atStart=>
  exact ⟨0,y_,rfl,av.out,b_.alloc (by simp) _⟩
 case round=>
  obtain ⟨k,hk,rfl,hown,aa⟩:=hrel;have HO:=z_ (qb4 hown);have c0:wr.cell? ⟨w.heap.size,0,none⟩=some (.slice A n ca):=by rw [aa.cell (p:=⟨w.heap.size,0,none⟩) (by simp)];simp
  have hsz:w.heap.size+1≤wr.heap.size:=by have:=aa.size;simpa using this
  by_cases hlt:k<n
  ·have ai:=z_ (fun W=>qfh k o_ W)
   obtain ⟨z,hz⟩:=e_ (2 ^ k);have HZ:Hid (qc9 (k+1)=qc9 k++[z]):=z_ (by rw [hz];exact qjn k);rw [← hz] at ai;clear hz
   go_wp2_with (first
    | (go_at_call 221;refine (ai.out _).mono ?_;rintro e w1 ⟨rfl,rfl⟩)
    | (at_builtin;refine wpList_append_own _ rfl _ _ 60 rfl (w.heap.size+1) 3 i0 (.int .i64 0) 1 8 Tryz.underlying60 hi aB aC aD rfl (by decide) _ _ _ rfl (hown.alloc _) ⟨wr.heap.size,0,none⟩ 1 1 [.int .i64 (z:Int)] rfl rfl (qfg _ _ _) (qgc _ rfl) (by unfold maxLen;omega) o_ (by simp;omega) ?_))
   intro v2 w2 ad ab _;have aG:=(aa.alloc hsz (.cells #[.int .i64 (z:Int)] 3)).grown ab (by simp;omega) HO.out;have af:w2.ownsRow (w.heap.size+1) 3 1 v2 (k+1) (ivs (nats (qc9 (k+1)))):=by rw [HZ.out];simpa [ivs,nats] using ad
   clear ad ab hown aa;go_wp2;go_roundw
   case rel=>exact ⟨k+1,by omega,by go_num,af,aG⟩
   case measure=>simp [intOf];omega
  ·obtain rfl:k=n:=o_
   clear hlt;obtain ⟨g,cap,rfl,az,aL⟩:=qb5 hown (by intro e;have:=hown.1;rw [e] at this;simp at this;omega);have af:=z_ hown;have aw:=z_ aa;clear hown aa hsz;go_wp2;clear c0;go_loopw [5] (fun i wr=>∃ t:Nat,t≤k∧i=.int .i64 t∧wr.ownsRow (w.heap.size+1) 3 1 (.slice (some ⟨g,0,none⟩) k cap) k (ivs (nats (qdu (prs Q) (qc9 k) t)))∧Below (w.heap.size+1) (w.alloc (.cells #[.slice A k ca,.slice B m cb] 43)) wr) (fun i _=>k-(intOf i).toNat)
   case atStart=>exact ⟨0,y_,rfl,af.out,aw.out⟩
   case round=>
    obtain ⟨t,ht,rfl,hown,aa⟩:=hrel;have c0:wr.cell? ⟨w.heap.size,0,none⟩=some (.slice A k ca):=by rw [aa.cell (p:=⟨w.heap.size,0,none⟩) (by simp)];simp
    by_cases hlt:t<k
    ·have aj:=z_ hown
     have ak:=z_ aa;clear hown aa;go_wp2;clear c0;go_loopw [6] (fun i wr=>∃ j:Nat,j≤m∧i=.int .i64 j∧wr.ownsRow (w.heap.size+1) 3 1 (.slice (some ⟨g,0,none⟩) k cap) k (ivs (nats (midU k (prs Q) t j)))∧Below (w.heap.size+1) (w.alloc (.cells #[.slice A k ca,.slice B m cb] 43)) wr) (fun i _=>m-(intOf i).toNat)
     case atStart=>exact ⟨0,y_,rfl,by rw [qmj];exact aj.out,ak.out⟩
     case round=>
      obtain ⟨j,hj,rfl,hown,aa⟩:=hrel;have c1:wr.cell? ⟨w.heap.size,1,none⟩=some (.slice B m cb):=by rw [aa.cell (p:=⟨w.heap.size,1,none⟩) (by simp)];simp
      by_cases ax:j<m
      ·obtain ⟨gq,o,rfl,hg,hcell,ac⟩:=HB.out.cellAt ax
       have ap:Below w.heap.size w wr:=(b_.alloc n_ _).trans (aa.mono o_);rw [← ap.cell (p:=⟨gq,o+j*2,none⟩) hg] at hcell;rw [← ap.cell (p:=⟨gq,o+j*2+1,none⟩) hg] at ac;have ag:=au.out.get (k:=j) (by have:=HM.out;omega);have hs:=qmk k (prs Q) t j (by rw [qgk];have:=HM.out;omega);rw [qoo] at hs;have al:=ql1 au.out.inR t j (Q.getD j (0,0)).1.toNat;have am:=ql1 au.out.inR t j (Q.getD j (0,0)).2.toNat;have aM:=pow8 hP;have ay:=z_ (qqn k (prs Q) t j);obtain ⟨x,hx⟩:=e_ ((Q.getD j (0,0)).1);obtain ⟨y,hy⟩:=e_ ((Q.getD j (0,0)).2);rw [← hx,← hy] at ag hs;rw [← hx] at hcell al;rw [← hy] at ac am;obtain ⟨x',rfl⟩:∃ x':Nat,x=(x':Int):=⟨x.toNat,by omega⟩;obtain ⟨y',rfl⟩:∃ y':Nat,y=(y':Int):=⟨y.toNat,by omega⟩;simp only [Int.toNat_natCast] at hs al am;obtain ⟨U,hU⟩:=e_ (midU k (prs Q) t j);rw [← hU] at hs al am hown ay;have HS:Hid (midU k (prs Q) t (j+1)=U.set x' (U.getD x' 0 ||| U.getD y' 0)):=z_ (by rw [hs,qgh]);have aH:=qjf (U.getD x' 0) (U.getD y' 0) o_ o_;have aI:x'<k:=o_;have aJ:y'<k:=o_;obtain ⟨d0,f0⟩:=qbe hown aI;obtain ⟨d1,_⟩:=qbe hown aJ;have an:=z_ hown;obtain ⟨a,ha⟩:=e_ (U.getD x' 0);obtain ⟨b,hb⟩:=e_ (U.getD y' 0);rw [← ha,← hb] at aH HS;rw [← ha] at al d0;rw [← hb] at am d1;clear hx hy hs hU ha hb hown al am;have ae:=z_ aa;have aK:=z_ ap;clear aa ap;go_wp2;go_region
       go_wp2;go_roundw
       case rel=>
        refine ⟨j+1,by omega,by go_num,?_,?_⟩
        ·have:=qa4 an.out x' (.int .i64 ((a ||| b:Nat):Int))
         rw [qcp,qbz] at this;rw [HS.out];first|exact this|exact qa2 this (b_.drew)
        ·first|exact ae.out.setCell az _|exact (ae.out.setCell az _).drew
       case measure=>simp [intOf];omega
      ·obtain rfl:j=m:=o_
       have ao:Hid (wr.ownsRow (w.heap.size+1) 3 1 (.slice (some ⟨g,0,none⟩) k cap) k (ivs (nats (qdu (prs Q) (qc9 k) (t+1))))):=z_ (by rw [← qml,qgk,← HM.out];exact hown);clear hown;go_wp2;go_roundw
       case rel=>exact ⟨t+1,by omega,by go_num,ao.out,aa⟩
       case measure=>simp [intOf];omega
    ·exact c46_
theorem qv6 (a b:Nat)(ha:a<65536)(hb:b<65536)(w:World):
  Calls Tryz.prog 184 #[.int .i64 (a:Int),.int .i64 (b:Int)] w fun e w'=>e=.returned (.int .i64 ((min a b:Nat):Int))∧w=w':=by
 obtain ⟨c,hc⟩:=e_ (min a b);rw [← hc];by_cases h:a<b
 ·have aa:c=a:=o_
  subst aa;clear hc;go_enter Tryz.func184,Tryz.ntmps184
  go_wp2;go_ret;exact ⟨rfl,rfl⟩
 ·have ab:c=b:=o_
  subst ab;clear hc;have hd:decide ((a:Int)<(c:Int))=false:=by simp;omega
  go_enter Tryz.func184,Tryz.ntmps184
  go_wp2;go_ret;exact ⟨rfl,rfl⟩
theorem qcq (P:List (List UInt8))(Q:List (Int×Int))(aA:1≤P.length)(hP:P.length≤8)(hQ:Q.length≤32)(af:PIn P.length Q)(ax:∀ p∈Q,p.1≠p.2)(va vb:Value)(w:World)(h:HasS w va vb P Q):
  Calls Tryz.prog 140 #[.agg #[va,vb]] w fun e w'=>∃ v,e=.returned v∧w'.ownsRow w.heap.size 3 1 v P.length (ivs (nats (kin P.length (prs Q))))∧Below w.heap.size w w':=by
 obtain ⟨i0,hi,aB,aC,aD⟩:=info_parts qdf;obtain ⟨A,ca,B,cb,rfl,rfl,aE,aF,h'⟩:=h.shape;obtain ⟨n,hn⟩:=e_ (P.length);obtain ⟨m,hm⟩:=e_ (Q.length);rw [← hn] at aA hP af aE ⊢;rw [← hm] at hQ aF;have ao:=h'.b;rw [← hm] at ao;have HB:=z_ ao;have HN:=z_ hn;have HM:=z_ hm;have ap:=z_ af
 have aG:Hid (∀ j,j<Q.length→(Q.getD j (0,0)).1≠(Q.getD j (0,0)).2):=z_ (fun j hj=>by
  have:=ax _ (List.getElem_mem hj)
  simpa [List.getD,List.getElem?_eq_getElem hj] using this)
 clear ax;rw [← hm];clear h h' hn hm af ao;go_enter Tryz.func140,Tryz.ntmps140
 go_wp2;have ag:(((w.alloc (.cells #[.slice A n ca,.slice B m cb] 43)).alloc (.cells #[] 3)).ownsRow (w.heap.size+1) 3 1 (.slice (some ⟨w.heap.size+1,0,none⟩) 0 0) 0 (ivs (nats (List.range 0)))):=by
  have:=World.ownsRow_lit (e:=3) (size:=1) (w.alloc (.cells #[.slice A n ca,.slice B m cb] 43)) #[] 0 n_ (by unfold maxLen;omega) rfl;simpa [ivs,nats] using this
 have aq:=z_ ag;clear ag;go_loopw [3,4] (fun v i wr=>∃ k:Nat,k≤n∧i=.int .i64 k∧wr.ownsRow (w.heap.size+1) 3 1 v k (ivs (nats (List.range k)))∧Below (w.heap.size+1) (w.alloc (.cells #[.slice A n ca,.slice B m cb] 43)) wr) (fun _ i _=>n-(intOf i).toNat)
 case atStart=>
  exact ⟨0,y_,rfl,aq.out,b_.alloc (by simp) _⟩
 case round=>
  obtain ⟨k,hk,rfl,hown,aa⟩:=hrel;have HO:=z_ (qb4 hown);have c0:wr.cell? ⟨w.heap.size,0,none⟩=some (.slice A n ca):=by rw [aa.cell (p:=⟨w.heap.size,0,none⟩) (by simp)];simp
  have hsz:w.heap.size+1≤wr.heap.size:=by have:=aa.size;simpa using this
  by_cases hlt:k<n
  ·go_wp2_with (at_builtin;refine wpList_append_own _ rfl _ _ 60 rfl (w.heap.size+1) 3 i0 (.int .i64 0) 1 8 Tryz.underlying60 hi aB aC aD rfl (by decide) _ _ _ rfl (hown.alloc _) ⟨wr.heap.size,0,none⟩ 1 1 [.int .i64 (k:Int)] rfl rfl (qfg _ _ _) (qgc _ rfl) (by unfold maxLen;omega) o_ (by simp;omega) ?_)
   intro v2 w2 ad ab _;have aH:=(aa.alloc hsz (.cells #[.int .i64 (k:Int)] 3)).grown ab (by simp;omega) HO.out;have ae:w2.ownsRow (w.heap.size+1) 3 1 v2 (k+1) (ivs (nats (List.range (k+1)))):=by rw [List.range_succ];simpa [ivs,nats] using ad
   clear ad ab hown aa;go_wp2;go_roundw
   case rel=>exact ⟨k+1,by omega,by go_num,ae,aH⟩
   case measure=>simp [intOf];omega
  ·obtain rfl:k=n:=o_
   clear hlt;obtain ⟨g,cap,rfl,aI,aO⟩:=qb5 hown (by intro e;have:=hown.1;rw [e] at this;simp at this;omega);have ae:=z_ hown;have au:=z_ aa;clear hown aa hsz;go_wp2;clear c0;go_loopw [5] (fun i wr=>∃ t:Nat,t≤k∧i=.int .i64 t∧wr.ownsRow (w.heap.size+1) 3 1 (.slice (some ⟨g,0,none⟩) k cap) k (ivs (nats (qf9 (prs Q) (List.range k) t)))∧Below (w.heap.size+1) (w.alloc (.cells #[.slice A k ca,.slice B m cb] 43)) wr) (fun i _=>k-(intOf i).toNat)
   case atStart=>exact ⟨0,y_,rfl,ae.out,au.out⟩
   case round=>
    obtain ⟨t,ht,rfl,hown,aa⟩:=hrel;have c0:wr.cell? ⟨w.heap.size,0,none⟩=some (.slice A k ca):=by rw [aa.cell (p:=⟨w.heap.size,0,none⟩) (by simp)];simp
    by_cases hlt:t<k
    ·have ah:=z_ hown
     have ai:=z_ aa;clear hown aa;go_wp2;clear c0;go_loopw [6] (fun i wr=>∃ j:Nat,j≤m∧i=.int .i64 j∧wr.ownsRow (w.heap.size+1) 3 1 (.slice (some ⟨g,0,none⟩) k cap) k (ivs (nats (midK k (prs Q) t j)))∧Below (w.heap.size+1) (w.alloc (.cells #[.slice A k ca,.slice B m cb] 43)) wr) (fun i _=>m-(intOf i).toNat)
     case atStart=>exact ⟨0,y_,rfl,by rw [quf];exact ah.out,ai.out⟩
     case round=>
      obtain ⟨j,hj,rfl,hown,aa⟩:=hrel;have c1:wr.cell? ⟨w.heap.size,1,none⟩=some (.slice B m cb):=by rw [aa.cell (p:=⟨w.heap.size,1,none⟩) (by simp)];simp
      by_cases av:j<m
      ·obtain ⟨gq,o,rfl,hg,hcell,ac⟩:=HB.out.cellAt av
       have an:Below w.heap.size w wr:=(b_.alloc n_ _).trans (aa.mono o_);rw [← an.cell (p:=⟨gq,o+j*2,none⟩) hg] at hcell;rw [← an.cell (p:=⟨gq,o+j*2+1,none⟩) hg] at ac;have af:=ap.out.get (k:=j) (by have:=HM.out;omega);have hs:=qug k (prs Q) t j (by rw [qgk];have:=HM.out;omega);rw [qoo] at hs;have ay:=aG.out j (by have:=HM.out;omega);have aj:=qui ap.out.inR t j (Q.getD j (0,0)).1.toNat o_;have hb2:=qui ap.out.inR t j (Q.getD j (0,0)).2.toNat o_;have aw:=z_ (qxo k (prs Q) t j);obtain ⟨x,hx⟩:=e_ ((Q.getD j (0,0)).1);obtain ⟨y,hy⟩:=e_ ((Q.getD j (0,0)).2);rw [← hx,← hy] at af hs ay;rw [← hx] at aj;rw [← hy] at hb2;rw [← hx] at hcell;rw [← hy] at ac;obtain ⟨x',rfl⟩:∃ x':Nat,x=(x':Int):=⟨x.toNat,by omega⟩;obtain ⟨y',rfl⟩:∃ y':Nat,y=(y':Int):=⟨y.toNat,by omega⟩;simp only [Int.toNat_natCast] at hs aj hb2;have aJ:x'≠y':=o_;have aK:y'≠x':=o_;clear ay;obtain ⟨U,hU⟩:=e_ (midK k (prs Q) t j);rw [← hU] at hs aj hb2 hown aw;have HS:Hid (midK k (prs Q) t (j+1)=(U.set x' (min (U.getD x' 0) (U.getD y' 0))).set y' (min (U.getD x' 0) (U.getD y' 0))):=z_ (by rw [hs,qf8]);have aL:x'<k:=o_;have aM:y'<k:=o_;obtain ⟨d0,f0⟩:=qbe hown aL;obtain ⟨d1,f1⟩:=qbe hown aM;have ak:=z_ hown;obtain ⟨a,ha⟩:=e_ (U.getD x' 0);obtain ⟨b,hb⟩:=e_ (U.getD y' 0);rw [← ha,← hb] at HS;rw [← ha] at d0 aj;rw [← hb] at d1 hb2;have az:=z_ (fun W=>qv6 a b o_ o_ W);obtain ⟨c,hc⟩:=e_ (min a b);rw [← hc] at az HS;clear hx hy hs hU ha hb hown hc aj hb2;have al:=z_ aa;have aN:=z_ an;clear aa an;go_wp2;go_quiet (fail)
       go_wp2;go_quiet ((go_at_call 184;exact (az.out _).mono (fun _ _ h=>⟨h.1,_,h.2.symm⟩)))
       go_wp2;go_roundw
       case rel=>
        refine ⟨j+1,by omega,by go_num,?_,?_⟩
        ·have:=qa4 (qa4 ak.out x' (.int .i64 ((c:Nat):Int))) y' (.int .i64 ((c:Nat):Int))
         rw [qcp,qbz,qcp,qbz] at this;rw [HS.out];first|exact this|exact qa2 this (b_.drew)
        ·repeat (first|exact al.out|refine Below.setCell ?_ aI _|refine Below.drew ?_|refine qa3 ?_ _)
       case measure=>simp [intOf];omega
      ·obtain rfl:j=m:=o_
       have am:Hid (wr.ownsRow (w.heap.size+1) 3 1 (.slice (some ⟨g,0,none⟩) k cap) k (ivs (nats (qf9 (prs Q) (List.range k) (t+1))))):=z_ (by rw [← quh,qgk,← HM.out];exact hown);clear hown;go_wp2;go_roundw
       case rel=>exact ⟨t+1,by omega,by go_num,am.out,aa⟩
       case measure=>simp [intOf];omega
    ·exact c46_
end sortu
end Go.Proofs.YtiilamngcoegiaaGreat
