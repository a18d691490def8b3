/- parts -/
import Derived.Test.YtiilamngcoegiaaGreatQTermsl
import Derived.Sort.OwnSorted
import Derived.Test.YtiilamngcoegiaaGreatQPk12
namespace Go.Proofs.YtiilamngcoegiaaGreat
open Go.ChangeShapes Go.WideShapes Go.ChangeAt Go.RowKit
variable {w:World}{n lo g N base:Nat}{e:TypeId}{xs:List Value}
namespace termso
open mem dec rowl trm trmv terml termb termt termx
theorem qrj{os:Array Obj}{cur:Array Value}{fr:Nat×Nat}(F:Array Value)(hb:w.heap[g]? =some (.cells cur e fr)):
  (Sort.grow (Sort.putRow id (Sort.ahead w n) g 0 F) os).heap[g]? =some (.cells (Sort.putCells id 0 F cur) e fr):=by
 have hg:g<w.heap.size:=(q_ hb);show ((Sort.putRow id (Sort.ahead w n) g 0 F).heap++os)[g]? =_;rw [Array.getElem?_append_left (by simpa using hg)];simp [Sort.putRow,Sort.mapBlock,Sort.ahead,Array.getElem?_modify,hb,Sort.onCells]
theorem qgj{os:Array Obj}(F:Array Value):Chg [g] w (Sort.grow (Sort.putRow id (Sort.ahead w n) g 0 F) os):=by
 refine ⟨rfl,rfl,rfl,by simp,fun k hk aa=>?_⟩;show ((Sort.putRow id (Sort.ahead w n) g 0 F).heap++os)[k]? =_;rw [Array.getElem?_append_left (by simpa using hk)];have:g≠k:=fun e=>aa (by rw [e];simp)
 simp [Sort.putRow,Sort.mapBlock,Sort.ahead,Array.getElem?_modify,this]
theorem qrk (cur F:Array Value)(h:F.size≤cur.size):(Sort.putCells id 0 F cur).toList.take F.size=F.toList:=by
 apply List.ext_getElem?
 intro j;by_cases hj:j<F.size
 ·rw [List.getElem?_take_of_lt hj,Array.getElem?_toList]
  simp [Sort.putCells,hj,show j<cur.size by omega]
 ·rw [List.getElem?_take_eq_none o_,List.getElem?_eq_none (by simp;omega)]
structure Elt (N lo:Nat) (w:World) where
 t:TermM
 v:Value
 h:HasTs N lo w v t.args
 b:Bnd t
 s:qa2 t.args≤2097152
instance (N lo:Nat) (w:World):Inhabited (Elt N lo w):=⟨⟨.mk 0 [] 0 [],.slice none 0 0,HasR.nil _ _ _ Aa_ _,⟨by show ([]:List UInt8).length≤_;simp,by show I64 0;unfold I64;omega,by show I64 0;unfold I64;omega⟩,by show qa2 []≤_;simp [qa2]⟩⟩
def encT (x:Elt N lo w):List Value:=[.int .i64 x.t.op,.string (bstr x.t.name),.int .i64 x.t.sort,x.v]
noncomputable def cfT (x y:Elt N lo w):Int:=cmp x.t y.t
theorem swoT (N lo:Nat)(w:World):Sort.SWO (ltOf (cfT (N:=N) (lo:=lo) (w:=w))) where
 irrefl x:=decide_eq_false (by rw [cfT,qhv];omega)
 trans x y z h1 h2:=by
  have aa:cmp x.t y.t<0:=of_decide_eq_true h1;have ab:cmp y.t z.t<0:=of_decide_eq_true h2;exact decide_eq_true (qh9 aa ab)
 ntrans x y z h1 h2:=by
  have aa:¬ cmp x.t y.t<0:=of_decide_eq_false h1;have ab:¬ cmp y.t z.t<0:=of_decide_eq_false h2;have a:=qb6 x.t y.t;have b:=qb6 y.t z.t;have c:=qb6 x.t z.t;have d:=qct z.t y.t x.t o_ o_;exact decide_eq_false (by rw [cfT];omega)
theorem qyu (N lo g size:Nat)(w:World)(hg:g<lo)(n0:Nat)(hn:n0=0):
  CmpLays Tryz.prog 115 #[] (encT (N:=N) (lo:=lo) (w:=w)) 4 cfT g n0 size w:=by
 intro m os dk aa x y;subst hn;have hc:Chg [g] w (sortWorldK encT 4 w g 0 m dk os):=qgj _;have hk:Kept lo w (sortWorldK encT 4 w g 0 m dk os):=⟨hc.size,fun k h1 h2=>hc.block k h2 (by simp;omega)⟩;refine (qcu (n:=N) x.t y.t x.v y.v _ (HasR.kept (qa7 N) x.h hk) (HasR.kept (qa7 N) y.h hk) x.s).mono ?_;rintro e w' ⟨rfl,h⟩;exact ⟨rfl,h.grow⟩
theorem qyv{cap:Nat}(w:World)(d:Array (Elt N lo w))(hg:g<lo)(xs:List Value)(ho:w.ownsRow base 38 4 (.slice (some ⟨g,0,none⟩) d.size cap) d.size xs)(hx:∀ j,j<d.size→qc6 xs j d[j]!.t d[j]!.v)(hsz:d.size<4611686018427387904):
  Calls Tryz.prog 114 #[.slice (some ⟨g,0,none⟩) d.size cap,.func (.func 115) #[] #[]] w fun e w'=>e=.returned (.tuple #[])∧
   ∃ (d':Array (Elt N lo w)) (ag:List Value),d'.size=d.size∧d'.toList.Perm d.toList∧(∀ i j,i<j→j<d.size→cmp d'[i]!.t d'[j]!.t≤0)∧w'.ownsRow base 38 4 (.slice (some ⟨g,0,none⟩) d.size cap) d.size ag∧
    (∀ j,j<d.size→qc6 ag j d'[j]!.t d'[j]!.v)∧Chg [g] w w':=by
 have eg:∀ args w,(callFunc 115 args).run Tryz.prog w=.ok (.enter 115 args) w:=Go.Proofs.enters_of Tryz.func115 k_ rfl;obtain ⟨cur,ac,ad,hnc,hcm,hcs⟩:∃ cur,base≤g∧w.heap[g]? =some (.cells cur 38 (0,0))∧d.size≤cap∧cap≤maxLen∧cur.size=cap*4:=by
  rcases ho.2 with ⟨hv,_⟩|⟨g',cap',cur,hv,hb,hg,hnc,hcm,hcs,_⟩
  ·cases hv
  ·simp only [Value.slice.injEq,Option.some.injEq,Addr.mk.injEq,and_true,true_and] at hv
   obtain ⟨rfl,rfl⟩:=hv;exact ⟨cur,hb,hg,hnc,hcm,hcs⟩
 have ai:g<w.heap.size:=(q_ ad)
 have hcell:∀ (xs:List Value) (d:Array (Elt N lo w)) j,qc6 xs j d[j]!.t d[j]!.v→∀ c,c<4→xs[j*4+c]? =some (encT d[j]!)[c]! := by
  rintro xs d j ⟨a,b,c,e⟩ i hi;match i,hi with
  | 0,_=>exact a
  | 1,_=>exact b
  | 2,_=>exact c
  | 3,_=>exact e
 have hH:Sort.HoldsK encT 4 w g 0 d:=by
  intro t ht;rw [Sort.size_flatK] at ht;rw [Nat.zero_add,Sort.get_flatK _ _ _ _ ht,ho.cellAt t o_];have h4:=hcell xs d (t / 4) (hx (t / 4) o_) (t % 4) o_;rw [show t / 4*4+t % 4=t by omega] at h4;exact ⟨h4,ho.frozenAt _⟩
 have ae:=AnyQ.slices_SortFunc termsl.qB9 4 Tryz.isAgg38 Tryz.sizeOf38 encT (fun _=>rfl) (fun x v hv=>by
   obtain ⟨A,c,e,_⟩:=HasR.shape x.h rfl;simp only [encT,List.mem_cons,List.not_mem_nil,or_false] at hv;rcases hv with rfl|rfl|rfl|rfl
   ·rfl
   ·rfl
   ·rfl
   ·rw [e];rfl) cfT (swoT N lo w) 115 #[] g 0 cap d w eg (qyu N lo g d.size w hg 0 rfl) hH ai hsz
 change Calls Tryz.prog 114 _ _ _ at ae
 refine ae.mono ?_;rintro e w' ⟨rfl,d',n,os,hp,hs,rfl⟩;obtain ⟨aa,_,af⟩:=hp;refine ⟨rfl,d',(Sort.flatK encT 4 d').toList,aa,?_,fun i j aj hj=>?_,?_,fun j hj=>?_,qgj _⟩
 ·have e1:d'.extract 0 d.size=d':=by rw [← aa];exact Array.extract_size
  have e2:d.extract 0 d.size=d:=Array.extract_size;rwa [e1,e2] at af
 ·have h:=hs i j y_ aj hj
  have h':¬ cmp d'[j]!.t d'[i]!.t<0:=of_decide_eq_false h;have:=qb6 d'[j]!.t d'[i]!.t;omega
 ·refine ⟨by rw [Array.length_toList,Sort.size_flatK,aa],.inr ⟨g,cap,_,rfl,ac,qrj _ ad,hnc,hcm,by simp [Sort.putCells,hcs],?_⟩⟩
  have hF:(Sort.flatK encT 4 d').size=d.size*4:=by rw [Sort.size_flatK,aa]
  rw [← hF];exact qrk _ _ (by rw [hF,hcs];omega)
 ·have ab:∀ c,c<4→(Sort.flatK encT 4 d').toList[j*4+c]? =some (encT d'[j]!)[c]! := by
   intro c hc;have ah:j*4+c<d'.size*4:=o_;have h:=Sort.get_flatK encT 4 d' (j*4+c) ah;rw [show (j*4+c) / 4=j by omega,show (j*4+c) % 4=c by omega] at h;rw [Array.getElem?_toList,← h,getElem!_pos _ _ (by rw [Sort.size_flatK];exact ah)];exact Array.getElem?_eq_getElem _
  exact ⟨ab 0 o_,ab 1 o_,ab 2 o_,ab 3 o_⟩
end termso

namespace termvx
open mem dec rowl trm trmv terml termb termt termx termz termro termsd termvr termcf termso
theorem qyw{V:List TermM}(hl:xs.length=V.length*4)(h:∀ j,j<V.length→qc6 xs j (V.getD j default) (.slice none 0 0)):xs=flatV V:=by
 apply List.ext_getElem?
 intro p;by_cases hp:p<V.length*4
 ·obtain ⟨a,b,c,d⟩:=h (p / 4) o_
  obtain ⟨a',b',c',d'⟩:=qd8 (l:=V) (j:=p / 4) o_;have aa:p=p / 4*4+p % 4:=o_;rw [aa];match p % 4,(show p % 4<4 by omega) with
  | 0,_=>exact a.trans a'.symm
  | 1,_=>exact b.trans b'.symm
  | 2,_=>exact c.trans c'.symm
  | 3,_=>exact d.trans d'.symm
 ·rw [List.getElem?_eq_none o_,List.getElem?_eq_none (by rw [qbn];omega)]
def Flat (x:TermM):Prop:=x.args=[]∧Bnd x
def qyx (V:List TermM)(k g cap base:Nat)(w:World)(e:Ending)(w':World):Prop:=e=.returned (.tuple #[])∧∃ V':List TermM,V'.Perm V∧Srt V'∧w'.ownsRow base 38 4 (.slice (some ⟨g,0,none⟩) k cap) k (flatV V')∧Chg [g] w w'
theorem qvv (V:List TermM)(k g cap base:Nat)(w:World)(hk:k=V.length)(ad:k≤1073741824)(hV:∀ x∈V,Flat x)(ho:w.ownsRow base 38 4 (.slice (some ⟨g,0,none⟩) k cap) k (flatV V)):
  Calls Tryz.prog 114 #[.slice (some ⟨g,0,none⟩) k cap,.func (.func 115) #[] #[]] w (qyx V k g cap base w):=by
 have mk:∀ x∈V,∃ e:Elt 1 (g+1) w,e.t=x∧e.v=.slice none 0 0:=fun x hx=>
  ⟨⟨x,.slice none 0 0,by rw [(hV x hx).1];exact HasR.nil _ _ _ Aa_ _,(hV x hx).2,by rw [(hV x hx).1];simp [qa2]⟩,rfl,rfl⟩
 obtain ⟨l,hl,ab⟩:∃ l:List (Elt 1 (g+1) w),l.map (·.t)=V∧∀ e∈l,e.v=.slice none 0 0:=by
  clear ho hk;induction V with
  | nil=>exact ⟨[],rfl,fun e he=>by simp at he⟩
  | cons x V ih=>
   obtain ⟨l,h1,h2⟩:=ih (fun y hy=>hV y (by simp [hy])) (fun y hy=>mk y (by simp [hy]));obtain ⟨e,h3,h4⟩:=mk x (by simp);refine ⟨e::l,by rw [List.map_cons,h1,h3],fun y hy=>?_⟩;rcases List.mem_cons.1 hy with rfl|hy
   ·exact h4
   ·exact h2 y hy
 have hsz:l.toArray.size=k:=by rw [List.size_toArray,hk,← hl,List.length_map]
 have aa:∀ (d:Array (Elt 1 (g+1) w)) j (hj:j<d.size),d[j]! = d[j]:=fun d j hj=>getElem!_pos d j hj
 have hc:=qyv (N:=1) (lo:=g+1) (cap:=cap) (base:=base) w l.toArray (Nat.lt_succ_self g) (flatV V) (by rw [hsz];exact ho) (fun j hj=>by
  have ae:j<l.length:=by simpa using hj
  have ac:j<V.length:=by rw [← hl,List.length_map];exact ae
  rw [aa _ _ hj];have h1:=qd8 ac;have e1:V.getD j default=l.toArray[j].t:=by
   rw [qai ac];simp [← hl]
  have e2:l.toArray[j].v=.slice none 0 0:=ab _ (by simp);rw [e1] at h1
  rw [e2];exact h1) (by rw [hsz];omega)
 rw [hsz] at hc;refine hc.mono ?_;rintro e w' ⟨rfl,d',af,h1,h2,h3,h4,h5,h6⟩;have ag:(d'.toList.map (·.t)).length=k:=by simp [h1]
 refine ⟨rfl,d'.toList.map (·.t),?_,?_,?_,h6⟩
 ·rw [← hl];exact (h2.map _)
 ·refine List.pairwise_iff_getElem.2 (fun i j hi hj ah=>?_)
  have h:=h3 i j ah o_;rw [aa d' i o_,aa d' j o_] at h;simpa using h
 ·have hx:af=flatV (d'.toList.map (·.t)):=by
   refine qyw (by rw [h4.1,ag]) (fun j hj=>?_);have ai:j<k:=o_;have h:=h5 j ai;rw [aa d' j o_] at h
   have e2:d'[j].v=.slice none 0 0:=ab _ (by
    have:=(h2.mem_iff (a:=d'[j])).1 (by simp)
    simpa using this)
   rw [e2] at h;rw [qai hj];simpa using h
  rw [← hx];exact h4
theorem qco{base':Nat}{size:Nat}{v:Value}(h:w.ownsRow base e size v n xs)(hb:base'≤base):w.ownsRow base' e size v n xs:=by
 refine ⟨h.1,?_⟩;rcases h.2 with h2|⟨g,cap,cur,hv,hg,r⟩
 ·exact .inl h2
 ·exact .inr ⟨g,cap,cur,hv,Nat.le_trans hb hg,r⟩
def VJ (B c:Nat)(t0:TermM)(T:Pend)(F:List Nat)(w:World):Prop:=∃ (vb k cap:Nat) (V:List TermM),F=[c,vb]∧c≠vb∧k=V.length∧k+qbv T≤1073741824∧(∀ x,(x∈V∨∃ p∈T,vin x p.1)↔vin x t0)∧(∀ x∈V,Flat x)∧
 w.cell? ⟨c,0,none⟩=some (.slice (some ⟨vb,0,none⟩) k cap)∧w.frozen? ⟨c,0,none⟩=false∧w.ownsRow B 38 4 (.slice (some ⟨vb,0,none⟩) k cap) k (flatV V)
theorem qyy (B c:Nat)(t0:TermM):ROState (VJ B c t0) where
 same:=by
  rintro T F w w' ⟨vb,k,cap,V,rfl,h1,h2,h3,h4,h5,h6,h7,h8⟩ hs;exact ⟨vb,k,cap,V,rfl,h1,h2,h3,h4,h5,qga h6 (hs c (by simp)),qfi h7 (hs c (by simp)),qqy h8 (hs vb (by simp))⟩
 lt:=by
  rintro T F w ⟨vb,k,cap,V,rfl,h1,h2,h3,h4,h5,h6,h7,h8⟩ q hq;simp at hq;rcases hq with rfl|rfl
  ·exact l_ h6
  ·exact (qc8 h8).2.1
theorem qvw (x t:TermM):vin x t↔(t.op=-1∧x=var t.name t.sort)∨(t.op≠-1∧∃ a∈t.args,vin x a):=by
 cases t;exact qtx _ _ _ _ _
theorem qvx (x t:TermM)(d:Nat):(∃ p∈kidsP t d,vin x p.1)↔∃ a∈t.args,vin x a:=by
 unfold kidsP;simp only [List.mem_reverse,List.mem_map];constructor
 ·rintro ⟨p,⟨a,ha,rfl⟩,hv⟩;exact ⟨a,ha,hv⟩
 ·rintro ⟨a,ha,hv⟩;exact ⟨_,⟨a,ha,rfl⟩,hv⟩
theorem qt7 (t0:TermM)(W1:World)(N lo c B:Nat)(hB:B≤W1.heap.size):
  Visits 112 #[.pointer (some ⟨c,0,none⟩)] (ROR W1 N lo (VJ B c t0)):=
 qv2 (qyy _ _ _) _ _ (by
  rintro e t d T F w hE hb hF ⟨vb,k,cap,V,rfl,h1,h2,h3,h4,h5,h6,h7,h8⟩;obtain ⟨a1,a2,a3,ag,t1,t2,vt,t3,ht,ad⟩:=hE;have kg:∀ y,w.cell? ⟨e.1,y,none⟩=W1.cell? ⟨e.1,y,none⟩:=fun y=>hb.cell (p:=⟨e.1,y,none⟩) a3
  have hsz:qbv ((t,d)::T)=1+qa2 t.args+qbv T:=by rw [← qao];rfl
  have ak:=hF c (by simp);have al:=hF vb (by simp);obtain ⟨g,o,dd⟩:=e;simp only [] at a3 kg;refine (qCc B c vb k cap g o dd t V w h2 o_ h1 (Nat.le_trans hB hb.size) h6 h7 h8 ((kg o).trans ag) ((kg (o+1)).trans t1) ((kg (o+2)).trans t2) o_ o_).mono ?_;rintro ex w' (⟨ab,rfl,aa⟩|⟨ab,rfl,ae,cap',ah,af,ai,aj,hown⟩)
  ·refine ⟨true,[c,vb],rfl,Chg.of_below aa,fun q hq=>.inl hq,?_⟩
   have ac:c<w.heap.size:=l_ h6;refine ⟨vb,k,cap,V,rfl,h1,h2,?_,fun x=>?_,h5,?_,?_,own_below h8 aa⟩
   ·rw [if_pos rfl,qc1,qeu];omega
   ·rw [← h4 x,if_pos rfl]
    simp only [List.mem_append,List.mem_cons,or_and_right,exists_or,exists_eq_left];rw [qvx,qvw x t];simp only [ab,false_and,ne_eq,not_false_eq_true,true_and,false_or]
   ·exact (aa.cell (p:=⟨c,0,none⟩) ac).trans h6
   ·exact (aa.frozen (p:=⟨c,0,none⟩) ac).trans h7
  ·have ac:c<w.heap.size:=l_ h6
   refine ⟨false,[c,ae],rfl,ah,fun q hq=>?_,ae,k+1,cap',V++[var t.name t.sort],rfl,?_,by simp [h2],?_,fun x=>?_,fun x hx=>?_,ai,aj,hown⟩
   ·simp at hq
    rcases hq with rfl|rfl
    ·exact .inl (by simp)
    ·rcases af with h|h
     ·exact .inl (by simp [h])
     ·exact .inr h
   ·rcases af with h|h
    ·rw [h];exact h1
    ·omega
   ·simp only [Bool.false_eq_true,if_false];omega
   ·rw [← h4 x]
    simp only [Bool.false_eq_true,if_false,List.mem_append,List.mem_cons,List.not_mem_nil,or_false,or_and_right,exists_or,exists_eq_left];rw [qvw x t];simp only [ab,true_and,ne_eq,not_true_eq_false,false_and,or_false,or_assoc]
   ·rcases List.mem_append.1 hx with hx|hx
    ·exact h5 x hx
    ·rw [List.mem_singleton] at hx
     subst hx
     exact ⟨rfl,ad.1,by show I64 (-1);unfold I64;omega,ad.2.2⟩)
def qrl (t:TermM)(w:World)(e:Ending)(w':World):Prop:=∃ g cap m,m=(varsT t).length∧e=.returned (.slice (some ⟨g,0,none⟩) m cap)∧w'.ownsRow w.heap.size 38 4 (.slice (some ⟨g,0,none⟩) m cap) m (flatV (varsT t))∧Below w.heap.size w w'
def qyz (t:TermM)(w0:World)(c:Nat)(e:Ending)(w':World):Prop:=e=.returned (.tuple #[])∧∃ (vb k cap:Nat) (V:List TermM),c≠vb∧k=V.length∧k≤1073741824∧(∀ x,x∈V↔vin x t)∧(∀ x∈V,Flat x)∧
 w'.cell? ⟨c,0,none⟩=some (.slice (some ⟨vb,0,none⟩) k cap)∧w'.ownsRow w0.heap.size 38 4 (.slice (some ⟨vb,0,none⟩) k cap) k (flatV V)∧Below w0.heap.size w0 w'
set_option maxRecDepth 20000 in
theorem qt8 (t:TermM)(v:Value)(w:World)(h:HasTs n lo w v t.args)(hB:Bnd t)(hsz:qa2 t.args≤1048576):
  Calls Tryz.prog 60 #[aggT t v] w (qrl t w):=by
 obtain ⟨A,c,rfl,_⟩:=HasR.shape h rfl;have HH:=z_ h;have ap:=z_ hB;have aq:=qao t;have au:=qi1 t;have eg:∀ args w,(callFunc 112 args).run Tryz.prog w=.ok (.enter 112 args) w:=Go.Proofs.enters_of Tryz.func112 k_ rfl
 have HC:Hid (∀ W W1,Below W1.heap.size W1 W→W1.heap.size=w.heap.size+1→Below w.heap.size w W1→W1.cell? ⟨w.heap.size,0,none⟩=some (.int .i64 t.op)→W1.cell? ⟨w.heap.size,1,none⟩=some (.string (bstr t.name))→W1.cell? ⟨w.heap.size,2,none⟩=some (.int .i64 t.sort)→W1.cell? ⟨w.heap.size,3,none⟩=some (.slice A t.args.length c)→
   W.cell? ⟨w.heap.size+1+1,0,none⟩=some (.slice (some ⟨w.heap.size+1,0,none⟩) 0 0)→W.frozen? ⟨w.heap.size+1+1,0,none⟩=false→W.ownsRow w.heap.size 38 4 (.slice (some ⟨w.heap.size+1,0,none⟩) 0 0) 0 []→
   Calls Tryz.prog 111 #[.pointer (some ⟨w.heap.size,0,none⟩),.func (.func 112) #[] #[.pointer (some ⟨w.heap.size+1+1,0,none⟩)]] W (qyz t w (w.heap.size+1+1))):=z_ (by
  intro W W1 av az ag c0 c1 c2 c3 hz hf ho;refine (qlt _ _ eg _ (qt7 t W1 n lo (w.heap.size+1+1) w.heap.size o_) (size t) w.heap.size 0 W ⟨[(t,1)],[w.heap.size+1+1,w.heap.size+1],⟨qAy HH.out ag o_ ap.out o_ c0 c1 c2 c3,trivial⟩,by simp [qbv],by omega,fun k hk=>by simp at hk,av,⟨w.heap.size+1,0,0,[],rfl,by omega,rfl,by simp only [qbv];omega,fun x=>by simp,fun x hx=>by simp at hx,hz,hf,ho⟩,fun k hk=>?_⟩).mono ?_
  ·simp at hk
   rcases hk with rfl|rfl
   ·exact ⟨by omega,by simp⟩
   ·exact ⟨by omega,by simp⟩
  ·rintro e w' ⟨rfl,n',S,T,F,hA,_,_,_,hb,⟨vb,k,cap,V,rfl,h1,h2,h3,h4,h5,h6,h7,h8⟩,_⟩
   cases T with
   | nil=>exact ⟨rfl,vb,k,cap,V,h1,h2,by simp only [qbv] at h3;omega,fun x=>by rw [← h4 x];simp,h5,h6,h8,ag.trans (hb.mono o_)⟩
   | cons p T=>exact hA.elim)
 have ah:Hid (∀ (V V':List TermM) (k:Nat),k=V.length→V'.Perm V→Srt V'→(∀ x,x∈V↔vin x t)→dedN V' k=varsT t):=z_ (by
  intro V V' k hk hp hs hm;have hl:k=V'.length:=by rw [hk,hp.length_eq]
  refine qon (qrh V' hs k o_).1 (fun x=>?_);rw [qrg V' k o_,← hm x,← hp.mem_iff,List.mem_iff_getElem];constructor
  ·rintro ⟨j,hj,rfl⟩;exact ⟨j,by omega,(qai o_).symm⟩
  ·rintro ⟨j,hj,rfl⟩;exact ⟨j,by omega,(qai hj).symm⟩)
 unfold aggT;obtain ⟨q,hq⟩:=e_ (t.args.length);rw [← hq] at HC;rw [← hq];obtain ⟨to,ai⟩:=e_ (t.op);obtain ⟨tn,aj⟩:=e_ (t.name);obtain ⟨ts,ak⟩:=e_ (t.sort);rw [← ai,← aj,← ak] at HC ⊢;clear h hB hsz aq au hq ai aj ak;go_enter Tryz.func60,Tryz.ntmps60
 go_wp2_with fail
 refine (HC.out _ (w.alloc (.cells #[.int .i64 to,.string (bstr tn),.int .i64 ts,.slice A q c] 38)) ?_ (by simp) (b_.alloc n_ _) (by simp) (by simp) (by simp) (by simp) ?_ ?_ ?_).mono ?_
 ·exact v_
 ·exact h_ _ _ 0 _ _ _ (qa5 _ _ _ (by simp))
 ·exact g_ _ _ 0 _ _ (qa5 _ _ _ (by simp))
 ·have h:=World.ownsRow_lit (e:=38) (size:=4) (w.alloc (.cells #[.int .i64 to,.string (bstr tn),.int .i64 ts,.slice A q c] 38)) #[] 0 n_ Aa_ rfl
  have h2:=own_below Bg_ (b_.alloc n_ (.cells #[.slice (some ⟨w.heap.size+1,0,none⟩) 0 0] 36));exact qco h2 o_
 rintro e w1 ⟨rfl,vb,k,cap,V,aw,hk,aa,hm,hF,ac,al,ad⟩;have HK:=z_ hk;have HM:=z_ hm;have HF:=z_ hF;have am:=z_ al;clear hk hm hF al HC;go_wp2_with fail
 refine (qvv V k vb cap w.heap.size w1 HK.out aa HF.out am.out).mono ?_;rintro e w2 ⟨rfl,V',hp,hs,an,ae⟩;have aA:w2.cell? ⟨w.heap.size+1+1,0,none⟩=some (.slice (some ⟨vb,0,none⟩) k cap):=by
  rw [← ac];exact World.cell?_of_block (a:=⟨w.heap.size+1+1,0,none⟩) (ae.block _ (l_ ac) (by simp;exact aw))
 have HS:Hid (dedN V' k=varsT t):=z_ (ah.out V V' k HK.out hp hs HM.out);have HL:Hid (k=V'.length):=z_ (by rw [HK.out,hp.length_eq]);have ax:Hid (∀ x∈V',x.args=[]):=z_ (fun x hx=>(HF.out x (hp.mem_iff.1 hx)).1);have ay:=z_ an;have aB:=(qc8 am.out).1;have ao:Hid (Below w.heap.size w w2):=z_ (ad.trans (ae.below ad.size (fun q hq=>by simp at hq;omega)));clear hp hs an ae ac ad ah;go_wp2_with fail
 refine (qpi V' k vb cap w.heap.size w2 HL.out aa ax.out ay.out).mono ?_;rintro e w3 ⟨m,hm,rfl,af,ab⟩
 have HR:Hid (qrl t w (.returned (.slice (some ⟨vb,0,none⟩) m cap)) w3):=z_ (by
  rw [HS.out] at hm af
  exact ⟨vb,cap,m,hm,rfl,af,ao.out.trans (ab.below ao.out.size (fun q hq=>by simp at hq;omega))⟩)
 clear hm af ab;go_wp2;go_ret;exact HR.out
end termvx
end Go.Proofs.YtiilamngcoegiaaGreat
