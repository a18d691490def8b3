/- parts -/
import Derived.Test.YtiilamngcoegiaaGreatQPk13
import Derived.Test.YtiilamngcoegiaaGreatQPk15
import Derived.Test.YtiilamngcoegiaaGreatQBitl
import Derived.Lib.BitFns
import Derived.LaidEqlPtr
namespace Go.Proofs.YtiilamngcoegiaaGreat
open Go.ChangeShapes Go.WideShapes Go.ChangeAt Go.RowKit
variable {w w' w1 a:World}{lo N B n cap g m base gp x k c ab:Nat}{F S X F' S':List Nat}{v:Value}{T2 T4 e:TypeId}{P:List (Nat×Nat)}{xs:List Value}
namespace termsp
open mem dec rowl trm terml termb termt termz termvx termcl
def qBa (n lo:Nat)(wl:World)(g o:Nat)(t:TermM)(w:World)(e:Ending)(w':World):Prop:=e=.returned (.bool true)∧∃ (w1:World) (v:Value) (vs:Nat→Value),Below w.heap.size w w1∧w'=w1.setCell ⟨g,o+3,none⟩ v∧w1.ownsRow w.heap.size 38 4 v t.args.length (fours t.args vs t.args.length)∧∀ j,j<t.args.length→HasTs n lo wl (vs j) (t.args.getD j default).args∧Bnd (t.args.getD j default)
theorem c69_{p:Prop}(h:p:=by
 (try dsimp only);first|(with_reducible assumption)|(exact (World.cell?_setCell_other _ _ _ _ (fun e=>by have e':=congrArg Addr.block e;simp at e';omega)).trans ag)
):p:=h
set_option maxRecDepth 50000 in
set_option maxHeartbeats 8000000 in
theorem qCh (g o d:Nat)(t:TermM)(va:Value)(wl w:World)(ad:Below wl.heap.size wl w)(h:HasTs (n+1) lo wl va t.args)(hl:t.args.length≤1073741824)(t3:w.cell? ⟨g,o+3,none⟩=some va)(hf:w.frozen? ⟨g,o+3,none⟩=false):
  Calls Tryz.prog 127 (#[qdi (g,o,d)]++#[]) w (qBa n lo wl g o t w):=by
 have hg:=l_ t3;simp only [] at hg;have ai:=z_ (fun W (hW:Below w.heap.size w W)=>qvk (ad.trans (hW.mono ad.size)) h hl);unfold qdi ptr;show Calls _ _ #[.agg #[.pointer (some ⟨g,o,none⟩),.int .i64 d]] _ _;obtain ⟨A,c,rfl,_⟩:=HasR.shape h rfl;obtain ⟨q,hq⟩:=e_ (t.args.length);rw [← hq] at ai t3;clear h hq ad;go_enter Tryz.func127,Tryz.ntmps127
 go_wp2_with fail
 have ab:Below w.heap.size w (w.alloc (.cells #[.pointer (some ⟨g,o,none⟩),.int .i64 d] 164)):=b_.alloc n_ _;have p0:(w.alloc (.cells #[.pointer (some ⟨g,o,none⟩),.int .i64 d] 164)).cell? ⟨w.heap.size,0,none⟩=some (.pointer (some ⟨g,o,none⟩)):=by simp
 have aj:w.heap.size<(w.alloc (.cells #[.pointer (some ⟨g,o,none⟩),.int .i64 d] 164)).heap.size:=by simp
 generalize w.alloc (.cells #[.pointer (some ⟨g,o,none⟩),.int .i64 d] 164)=W at ab p0 aj ⊢
 have c3:=(ab.cell (p:=⟨g,o+3,none⟩) hg).trans t3;have f3:=(ab.frozen (p:=⟨g,o+3,none⟩) hg).trans hf;clear t3 hf;have ak:=z_ ab.drew;refine wp_region_noPanic ?_;refine wp_region_held_drew (S:=(fun w'=>w'.cell? ⟨w.heap.size,0,none⟩=some (.pointer (some ⟨g,o,none⟩)))) k_ ?_ (fun ae=>?_)
 ·exact p0
 refine t_k 0 ?_;refine t_k 1 ?_;refine t_k 2 ?_;refine t_k 3 ?_;refine t_k 4 ?_;refine t_k 5 ?_;refine r_d [6] ?_;refine c_s (fun K hK=>?_) ?_
 ·go_simp
  refine k_o hK ?_ (fun af=>?_)
  ·exact c69_
  clear hK K ae;refine r_d [7] ?_;refine c_s (fun K hK=>?_) ?_
  ·(go_simp;(with_reducible refine (ai.out _ ak.out).mono ?_);rintro e w1 ⟨v,vs,rfl,ho,aa,ac⟩;have al:=z_ ac;have ag:w1.cell? ⟨w.heap.size,0,none⟩=some (.pointer (some ⟨g,o,none⟩)):=(ac.cell (p:=⟨w.heap.size,0,none⟩) aj).trans p0;have c4:=(ac.cell (p:=⟨g,o+3,none⟩) (by show g<W.heap.size;omega)).trans c3;have f4:=(ac.frozen (p:=⟨g,o+3,none⟩) (by show g<W.heap.size;omega)).trans f3;obtain ⟨A9,c9,rfl,_⟩:=qaz ho;have HQ:=z_ (And.intro ho aa);clear ho aa ac;(try dsimp only))
   refine k_o hK ?_ (fun ah=>?_)
   ·exact c69_
   clear hK K af;refine t_k 8 ?_;refine t_k 9 ?_;refine r_d [10] ?_;refine c_s (fun K hK=>?_) ?_
   ·go_simp
    refine k_o hK ?_ (fun am=>?_)
    ·exact c69_
    clear hK K ah;refine wpAnyH_done k_ ?_ _;refine NoPanic.normal ?_;go_wp2;go_ret;have an:Below w.heap.size w w1:=ab.trans ((b_.drew).trans (al.out.mono n_) |>.mono ab.size);refine ⟨rfl,w1,_,vs,an,rfl,qco HQ.out.1 (by show w.heap.size≤W.heap.size;omega),HQ.out.2⟩
   exact a_l
  exact a_l
 exact a_l
end termsp

namespace termpr
open mem rowl trm trmv terml termb termt termz termro termvx termcl
theorem qvy {e:TypeId}:∀ (n:Nat) {lo:Nat} {w:World} {v:Value} {L:List TermM} {S:List Nat},OT e n lo w v L S→OT e (n+1) lo w v L S
 | 0,_,_,_,_,_,h=>h.elim
 | n+1,_,_,_,_,_,⟨xs,vs,Ss,ho,hS,ab,hj⟩=>⟨xs,vs,Ss,ho,hS,ab,fun j aa=>⟨(hj j aa).1,(hj j aa).2.1,qvy n (hj j aa).2.2⟩⟩
theorem qCx (h:n≤m){L:List TermM}(ho:OT e n lo w v L S):OT e m lo w v L S:=by
 induction h with
 | refl=>exact ho
 | step _ ih=>exact qvy _ ih
def Dn (lo:Nat)(w:World):List Ent→List TermM→List (List Nat)→Prop
 | [],[],[]=>True
 | e::L,t::T,S::Ss=>(∃ v,w.cell? ⟨e.1,e.2.1+3,none⟩=some v∧OT 38 (depth t) lo w v t.args S)∧Dn lo w L T Ss
 | _,_,_=>False
theorem Dn.len {lo:Nat}{w:World}:∀ {L:List Ent} {T:List TermM} {Ss:List (List Nat)},Dn lo w L T Ss→Ss.length=L.length
 | [],[],[],_=>rfl
 | _::L,_::T,_::Ss,h=>by rw [List.length_cons,List.length_cons,Dn.len h.2]
 | [],[],_::_,h=>h.elim
 | [],_::_,_,h=>h.elim
 | _::_,[],_,h=>h.elim
 | _::_,_::_,[],h=>h.elim
theorem Dn.split {lo:Nat}{w:World}:∀ {L M:List Ent} {T U:List TermM} {Ss:List (List Nat)},L.length=T.length→Dn lo w (L++M) (T++U) Ss→∃ A B,Ss=A++B∧Dn lo w L T A∧Dn lo w M U B
 | [],_,[],_,Ss,_,h=>⟨[],Ss,rfl,trivial,h⟩
 | [],_,_::_,_,_,hl,_=>by simp at hl
 | _::_,_,[],_,_,hl,_=>by simp at hl
 | e::L,M,t::T,U,[],_,h=>h.elim
 | e::L,M,t::T,U,S::Ss,hl,h=>by
  obtain ⟨A,B,rfl,h1,h2⟩:=Dn.split (L:=L) (T:=T) (by simpa using hl) h.2;exact ⟨S::A,B,rfl,⟨h.1,h1⟩,h2⟩
def pos (L:List Ent):List (Nat×Nat):=L.map fun e=>(e.1,e.2.1+3)
def RowsKept (lo:Nat)(F:List Nat)(P:List (Nat×Nat))(w w':World):Prop:=∀ g∈F,∀ n cap xs,w.ownsRow lo 38 4 (.slice (some ⟨g,0,none⟩) n cap) n xs→
 ∃ aa,w'.ownsRow lo 38 4 (.slice (some ⟨g,0,none⟩) n cap) n aa∧∀ p,(g,p) ∉ P→aa[p]? =xs[p]?
theorem RowsKept.trans {lo:Nat}{F:List Nat}{P:List (Nat×Nat)}{a b c:World}(h:RowsKept lo F P a b)(k:RowsKept lo F P b c):RowsKept lo F P a c:=by
 intro g hg n cap xs hx;obtain ⟨ys,h1,h2⟩:=h g hg n cap xs hx;obtain ⟨zs,h3,h4⟩:=k g hg n cap ys h1;exact ⟨zs,h3,fun p hp=>(h4 p hp).trans (h2 p hp)⟩
theorem RowsKept.mono{P':List (Nat×Nat)}{b:World}(h:RowsKept lo F P a b)(hF:∀ g∈F',g∈F)(hP:∀ g∈F',∀ p,(g,p)∈P→(g,p)∈P'):RowsKept lo F' P' a b:=by
 intro g hg n cap xs hx;obtain ⟨ys,h1,h2⟩:=h g (hF g hg) n cap xs hx;exact ⟨ys,h1,fun p hp=>h2 p (fun hm=>hp (hP g hg p hm))⟩
def Inv (lo aa:Nat)(G:World→Prop)(F:List Nat)(L:List Ent)(T:List TermM)(w:World):Prop:=∀ w' Ss,RowsKept lo F (pos L) w w'→Dn aa w' L T Ss→(F++Ss.flatten).Nodup→G w'
theorem Inv.kept{aa:Nat}{G:World→Prop}{L:List Ent}{T:List TermM}(h:Inv lo aa G F L T w)(hk:RowsKept lo F (pos L) w w'):Inv lo aa G F L T w':=fun w2 Ss h1 h2 h3=>h w2 Ss (hk.trans h1) h2 h3
theorem qvz {lo:Nat}{w:World}(l:List TermM)(g d:Nat):∀ (m:Nat) {A:List (List Nat)},m≤l.length→Dn lo w (kids g 0 d m) ((l.take m).reverse) A→
  ∃ Sf:Nat→List Nat,A.flatten.Perm ((List.range m).flatMap Sf)∧∀ j,j<m→∃ v,w.cell? ⟨g,j*4+3,none⟩=some v∧OT 38 (depth (l.getD j default)) lo w v (l.getD j default).args (Sf j)
 | 0,A,_,h=>by
  cases A with
  | nil=>exact ⟨fun _=>[],by simp,fun j hj=>by omega⟩
  | cons S A=>simp [kids,Dn] at h
 | m+1,A,hm,h=>by
  have e:(l.take (m+1)).reverse=l.getD m default::(l.take m).reverse:=by
   rw [List.take_succ_eq_append_getElem o_,List.reverse_append,qai o_];rfl
  rw [e] at h;cases A with
  | nil=>exact h.elim
  | cons S A=>
   obtain ⟨⟨v,hv,ho⟩,h2⟩:=h;obtain ⟨Sf,hp,hj⟩:=qvz l g d m o_ h2;have ab:∀ j,j<m→(if j=m then S else Sf j)=Sf j:=fun j hj=>if_neg o_
   refine ⟨fun j=>if j=m then S else Sf j,?_,fun j ac=>?_⟩
   ·rw [List.range_succ,List.flatMap_append,List.flatten_cons]
    have e2:(List.range m).flatMap (fun j=>if j=m then S else Sf j)=(List.range m).flatMap Sf:=qhc (fun j hj=>ab j (by simpa using hj));rw [e2];simp only [List.flatMap_cons,List.flatMap_nil,List.append_nil,if_true];exact List.perm_append_comm.trans (hp.append_right S)
   ·by_cases aa:j=m
    ·subst aa
     refine ⟨v,?_,by simpa using ho⟩;simpa using hv
    ·obtain ⟨v',h3,h4⟩:=hj j o_
     exact ⟨v',h3,by simp only [if_neg aa];exact h4⟩
theorem qcs{l:List TermM}{j:Nat}(h:j<l.length):depth (l.getD j default)≤depths l:=by
 rw [qai h];exact qg9 (List.getElem_mem h)
theorem qBb{t:TermM}{vs:Nat→Value}{Sf:Nat→List Nat}(hm:m=t.args.length)(ho:w.ownsRow lo 38 4 (.slice (some ⟨g,0,none⟩) m c) m xs)(hx:∀ p,(∀ j,j<m→p≠j*4+3)→xs[p]? =(fours t.args vs m)[p]?)(hb:∀ j,j<m→Bnd (t.args.getD j default))(hk:∀ j,j<m→∃ v,w.cell? ⟨g,j*4+3,none⟩=some v∧OT 38 (depth (t.args.getD j default)) lo w v (t.args.getD j default).args (Sf j))(hn:(g::(List.range m).flatMap Sf).Nodup):OT 38 (depth t) lo w (.slice (some ⟨g,0,none⟩) m c) t.args (g::(List.range m).flatMap Sf):=by
 rw [qas];subst hm;refine ⟨xs,fun j=>xs.getD (j*4+3) undef,Sf,ho,by simp [Value.ownBlock],hn,fun j hj=>?_⟩;obtain ⟨a,b,c',_⟩:=qi3 t.args vs t.args.length j hj;obtain ⟨v,h1,h2⟩:=hk j hj;have h3:xs[j*4+3]? =some v:=by rw [← ho.cellAt (j*4+3) o_];exact h1
 refine ⟨⟨(hx _ (fun i hi=>by omega)).trans a,(hx _ (fun i hi=>by omega)).trans b,(hx _ (fun i hi=>by omega)).trans c',?_⟩,hb j hj,?_⟩
 ·simp only [List.getD,h3,Option.getD_some]
 ·simp only [List.getD,h3,Option.getD_some]
  exact qCx (qcs hj) h2
theorem qf1 {g d:Nat}:∀ {m:Nat} {x p:Nat},(x,p)∈pos (kids g 0 d m)→x=g∧∃ j,j<m∧p=j*4+3
 | 0,_,_,h=>by simp [pos,kids] at h
 | m+1,x,p,h=>by
  simp only [pos,kids,List.map_cons,List.mem_cons,Prod.mk.injEq] at h;rcases h with ⟨rfl,rfl⟩|h
  ·exact ⟨rfl,m,Nat.lt_succ_self _,by omega⟩
  ·obtain ⟨h1,j,h2,h3⟩:=qf1 (m:=m) h
   exact ⟨h1,j,by omega,h3⟩
theorem qw0{L:List Ent}{p:Nat}(h:(x,p)∈pos L):∃ e∈L,e.1=x:=by
 obtain ⟨e,he,h⟩:=List.mem_map.1 h;simp only [Prod.mk.injEq] at h;exact ⟨e,he,h.1⟩
theorem qkk (h:Below w.heap.size w w'):RowsKept lo F P w w':=fun _ _ _ _ xs hx=>⟨xs,own_below hx h,fun _ _=>rfl⟩
theorem qm3{o:Nat}(v:Value)(h:(g,o)∈P):RowsKept lo F P w (w.setCell ⟨g,o,none⟩ v):=by
 intro g' _ n cap xs hx;by_cases e:g'=g
 ·subst e
  exact ⟨_,qa4 hx o v,fun p hp=>List.getElem?_set_ne (fun e=>hp (by rw [← e];exact h))⟩
 ·refine ⟨xs,?_,fun _ _=>rfl⟩
  exact (Chg.set (S:=[g]) (by simp) v).own hx (fun x hx=>by simp [Value.ownBlock] at hx;subst hx;simpa using e)
theorem qrm (l:List TermM)(h:m=l.length):(l.take m).reverse=l.reverse:=by rw [List.take_of_length_le o_]
theorem qw1{base' size:Nat}(h:w.ownsRow base e size (.slice (some ⟨g,0,none⟩) n cap) n xs)(hg:base'≤g):w.ownsRow base' e size (.slice (some ⟨g,0,none⟩) n cap) n xs:=by
 refine ⟨h.1,?_⟩;rcases h.2 with ⟨h2,_⟩|⟨g',cap',cur,hv,hb,r⟩
 ·cases h2
 ·have e:=hv
  simp only [Value.slice.injEq,Option.some.injEq,Addr.mk.injEq,and_true,true_and] at e;obtain ⟨rfl,rfl⟩:=e;exact .inr ⟨g,cap,cur,rfl,hg,r⟩
theorem Inv.visit{af:Nat}{G:World→Prop}{e:Ent}{L:List Ent}{t:TermM}{T:List TermM}{g' d:Nat}{vs:Nat→Value}(hI:Inv lo af G F (e::L) (t::T) w)(hb:Below w.heap.size w w1)(hm:m=t.args.length)(ho:w1.ownsRow w.heap.size 38 4 (.slice (some ⟨g',0,none⟩) m c) m (fours t.args vs m))(ap:∀ j,j<m→Bnd (t.args.getD j default))(aq:lo≤w.heap.size)(ah:af≤w.heap.size)(hF:∀ k∈F,k<w.heap.size)(an:∀ x∈e::L,x.1∈F)(ai:∃ n cap xs,w.ownsRow lo 38 4 (.slice (some ⟨e.1,0,none⟩) n cap) n xs∧e.2.1+3<n*4)(aa:(pos (e::L)).Nodup):
  Inv lo af G (g'::F) (kids g' 0 d m++L) (t.args.reverse++T) (w1.setCell ⟨e.1,e.2.1+3,none⟩ (.slice (some ⟨g',0,none⟩) m c)):=by
 intro w' Ss aj au av;have aw:w.heap.size≤g':=(qc8 ho).1;have ak:=an e (by simp);have ag:∀ k∈F,k≠g':=fun k hk e=>by have:=hF k hk;omega
 obtain ⟨A,B,rfl,hA,hB⟩:=Dn.split (by rw [qls,List.length_reverse];exact hm) au;obtain ⟨Sf,hp,hj⟩:=qvz t.args g' d m o_ (by rw [qrm _ hm];exact hA)
 have ac:(w1.setCell ⟨e.1,e.2.1+3,none⟩ (.slice (some ⟨g',0,none⟩) m c)).ownsRow lo 38 4 (.slice (some ⟨g',0,none⟩) m c) m (fours t.args vs m):=
  (Chg.set (S:=[e.1]) (by simp) _).own (qco ho aq) (fun x hx=>by simp [Value.ownBlock] at hx;subst hx;simpa using (ag _ ak).symm)
 obtain ⟨aD,ax,ay⟩:=aj g' (by simp) m c _ ac;have ad:(F++((g'::(List.range m).flatMap Sf)::B).flatten).Nodup:=by
  refine (List.Perm.nodup_iff ?_).1 av;rw [List.flatten_cons,List.flatten_append];have p1:(A.flatten++B.flatten).Perm ((List.range m).flatMap Sf++B.flatten):=hp.append_right _;have p2:(g'::F++(A.flatten++B.flatten)).Perm (g'::F++((List.range m).flatMap Sf++B.flatten)):=List.Perm.append_left _ p1;refine p2.trans ?_;simpa using (List.perm_middle (a:=g') (l₁:=F) (l₂:=(List.range m).flatMap Sf++B.flatten)).symm
 have ae:(g'::(List.range m).flatMap Sf).Nodup:=by
  have h1:=(List.nodup_append.1 ad).2.1;rw [List.flatten_cons] at h1;exact (List.nodup_append.1 h1).1
 have az:=qBb (lo:=af) (vs:=vs) hm (qw1 ax (Nat.le_trans ah aw)) (fun p hp'=>ay p (fun ab=>by
  unfold pos at ab;rw [List.map_append,List.mem_append] at ab;rcases ab with h|h
  ·obtain ⟨_,j,h1,h2⟩:=qf1 h
   exact hp' j h1 h2
  ·obtain ⟨x,hx,e1⟩:=qw0 h
   exact ag _ (an x (by simp [hx])) e1)) ap hj ae
 obtain ⟨n,cap,xe,ao,aA⟩:=ai;have al:=qa4 (own_below ao hb) (e.2.1+3) (.slice (some ⟨g',0,none⟩) m c);obtain ⟨ye,aB,aC⟩:=aj e.1 (by simp [ak]) n cap _ al
 have am:(e.1,e.2.1+3) ∉ pos (kids g' 0 d m++L):=fun ab=>by
  unfold pos at ab;rw [List.map_append,List.mem_append] at ab;rcases ab with h|h
  ·exact ag _ ak (qf1 h).1
  ·unfold pos at aa
   rw [List.map_cons,List.nodup_cons] at aa;exact aa.1 h
 have hcell:w'.cell? ⟨e.1,e.2.1+3,none⟩=some (.slice (some ⟨g',0,none⟩) m c):=by
  rw [aB.cellAt _ aA,aC _ am,List.getElem?_set_self (by have:=ao.1;omega)]
 refine hI w' ((g'::(List.range m).flatMap Sf)::B) ?_ ⟨⟨_,hcell,az⟩,hB⟩ ad;refine (qkk hb).trans ((qm3 _ (by simp [pos])).trans (aj.mono (fun g hg=>by simp [hg]) (fun g hg p hp'=>?_)));unfold pos at hp';rw [List.map_append,List.mem_append] at hp';rcases hp' with h|h
 ·exact absurd (qf1 h).1 (ag g hg)
 ·unfold pos
  rw [List.map_cons];exact List.mem_cons_of_mem _ h
theorem Inv.visit_nil{G:World→Prop}{e:Ent}{L:List Ent}{t:TermM}{T:List TermM}(hI:Inv lo ab G F (e::L) (t::T) w)(hb:Below w.heap.size w w1)(hm:t.args=[])(ah:e.1∈F)(ac:∃ n cap xs,w.ownsRow lo 38 4 (.slice (some ⟨e.1,0,none⟩) n cap) n xs∧e.2.1+3<n*4)(aa:(pos (e::L)).Nodup):
  Inv lo ab G F L T (w1.setCell ⟨e.1,e.2.1+3,none⟩ (.slice none 0 0)):=by
 intro w' Ss af ai aj;obtain ⟨n,cap,xe,ag,ak⟩:=ac;have ad:=qa4 (own_below ag hb) (e.2.1+3) (.slice none 0 0);obtain ⟨ye,al,am⟩:=af e.1 ah n cap _ ad;have ae:(e.1,e.2.1+3) ∉ pos L:=by
  unfold pos at aa ⊢;rw [List.map_cons,List.nodup_cons] at aa;exact aa.1
 have hcell:w'.cell? ⟨e.1,e.2.1+3,none⟩=some (.slice none 0 0):=by
  rw [al.cellAt _ ak,am _ ae,List.getElem?_set_self (by have:=ag.1;omega)]
 have an:OT 38 (depth t) ab w' (.slice none 0 0) t.args []:=by
  rw [qas,hm];exact OT.nil _ _ ab w'
 refine hI w' ([]::Ss) ?_ ⟨⟨_,hcell,an⟩,ai⟩ (by simpa using aj);refine (qkk hb).trans ((qm3 _ (by simp [pos])).trans (af.mono (fun g hg=>hg) (fun g hg p hp'=>?_)));unfold pos at hp' ⊢;rw [List.map_cons];exact List.mem_cons_of_mem _ hp'
end termpr

namespace rebp
open mem dec rowl trm terml termb termt termro tmr termpr
theorem c70_{p:Prop}(h:p:=by
 obtain ⟨A,c,e',h1,h2,h3⟩:=h;refine ⟨A,c,e',h1,h2,fun j hj=>?_⟩;obtain ⟨g,o,aa,e1,hl,hg,hc,hr⟩:=h3 j hj;exact ⟨g,o,aa,e1,hl,hg,hc,qAi (qcs hj) (qw2 n hr)⟩
):p:=h
theorem qw2:∀ (n:Nat) {lo:Nat} {w:World} {cs:List Value} {t:TermM},RT n lo w cs t→RT (depth t) lo w cs t
 | 0,_,_,_,_,h=>h.elim
 | n+1,lo,w,cs,t,⟨va,e,h,r⟩=>by
  rw [qas];refine ⟨va,e,?_,r⟩;exact c70_
theorem qi5{L:List TermM}(h:HasTs n lo w v L):HasTs (depths L) lo w v L:=by
 exact c70_
structure Ent where
 g:Nat
 o:Nat
 t:TermM
 v:Value
 R:List (TermM×Value)
 dv:Value
def qrn (e:Ent):List Value:=[.pointer (some ⟨e.g,e.o,none⟩),e.dv]
def qbf:List Ent→List Value
 | []=>[]
 | e::Q=>qbf Q++qrn e
theorem qbu:∀ Q:List Ent,(qbf Q).length=Q.length*2
 | []=>rfl
 | e::Q=>by rw [qbf,List.length_append,qbu Q];simp [qrn];omega
theorem qdj{e:Ent}{Q:List Ent}(hk:k=Q.length):(qbf (e::Q))[k*2]? =some (.pointer (some ⟨e.g,e.o,none⟩))∧(qbf (e::Q))[k*2+1]? =some e.dv:=by
 have hl:=qbu Q;subst hk;rw [qbf];constructor
 ·rw [List.getElem?_append_right o_,hl,Nat.sub_self];rfl
 ·rw [List.getElem?_append_right o_,hl,Nat.add_sub_cancel_left];rfl
theorem qg8{e:Ent}{Q:List Ent}(hk:k=Q.length):(qbf (e::Q)).take (k*2)=qbf Q:=by
 rw [qbf,hk,← qbu Q,List.take_left]
theorem qro:∀ {Q:List Ent} {i:Nat},i<Q.length→(qbf Q)[(Q.length-1-i)*2]? =(Q[i]?).map fun e=>Value.pointer (some ⟨e.g,e.o,none⟩)
 | [],i,h=>by simp at h
 | e::Q,0,_=>by
  have:=(qdj (e:=e) (Q:=Q) rfl).1;simpa using this
 | e::Q,i+1,h=>by
  have h1:i<Q.length:=by simpa using h
  have ih:=qro h1;have hl:=qbu Q;rw [qbf,List.length_cons,show Q.length+1-1-(i+1)=Q.length-1-i by omega,List.getElem?_append_left o_,ih];simp
def Plain (w:World)(g:Nat):Prop:=∃ c t,w.heap[g]? =some (.cells c t (0,0))
theorem Plain.below (h:Plain w g)(hb:Below w.heap.size w w'):Plain w' g:=by
 obtain ⟨c,t,h⟩:=h;exact ⟨c,t,(hb.block g (q_ h)).trans h⟩
def PlA:Nat→World→Value→List TermM→Prop
 | 0,_,_,_=>True
 | n+1,w,v,L=>∀ j,j<L.length→∀ g o c,v=.slice (some ⟨g,o,none⟩) L.length c→Plain w g∧∀ v',w.cell? ⟨g,o+j*4+3,none⟩=some v'→PlA n w v' (L.getD j default).args
theorem qrp {T:TypeId}:∀ (n m:Nat) {lo:Nat} {w:World} {v:Value} {L:List TermM} {S:List Nat},OT T n lo w v L S→PlA m w v L
 | _,0,_,_,_,_,_,_=>trivial
 | 0,_+1,_,_,_,_,_,h=>h.elim
 | n+1,m+1,lo,w,v,L,S,⟨xs,vs,Ss,ho,hS,ad,hj⟩=>by
  intro j ac g o c hv;rcases ho.2 with ⟨aa,_⟩|⟨g',cap,cur,aa,hg,hh,_⟩
  ·rw [aa] at hv;cases hv
  ·rw [aa] at hv
   simp only [Value.slice.injEq,Option.some.injEq,Addr.mk.injEq,and_true,true_and] at hv;obtain ⟨⟨rfl,rfl⟩,rfl⟩:=hv;refine ⟨⟨cur,T,hh⟩,fun v' ab=>?_⟩;obtain ⟨⟨_,_,_,h3⟩,_,h5⟩:=hj j ac;subst aa;have h6:=(ho.cellAt (j*4+3) o_).trans h3;rw [show 0+j*4+3=j*4+3 by omega,h6] at ab;injection ab with ab
   subst ab;exact qrp n m h5
def qhu (N:Nat)(wl:World)(e:Ent):Prop:=(wl.cell? ⟨e.g,e.o,none⟩=some (.int .i64 e.t.op)∧wl.cell? ⟨e.g,e.o+1,none⟩=some (.string (bstr e.t.name))∧wl.cell? ⟨e.g,e.o+2,none⟩=some (.int .i64 e.t.sort)∧wl.cell? ⟨e.g,e.o+3,none⟩=some e.v)∧HasTs N 0 wl e.v e.t.args∧Bnd e.t∧Plain wl e.g∧∀ m,PlA m wl e.v e.t.args
def qnu (f e:Ent):Prop:=f.R.length<f.t.args.length∧e.t=f.t.args.getD f.R.length default
def qrq:List Ent→Prop
 | []=>True
 | [_]=>True
 | e::f::Q=>qnu f e∧qrq (f::Q)
theorem qfl:∀ {Q:List Ent} {e:Ent},qrq (e::Q)→∀ f∈Q,depth e.t<depth f.t
 | [],e,_,f,hf=>by simp at hf
 | f::Q,e,⟨h1,h2⟩,x,hx=>by
  have h3:depth e.t<depth f.t:=by
   rw [h1.2,qas f.t];exact Nat.lt_succ_of_le (qcs h1.1)
  rcases List.mem_cons.1 hx with rfl|hx
  ·exact h3
  ·exact Nat.lt_trans h3 (qfl h2 x hx)
theorem qw3{wl:World}{e f:Ent}(he:qhu N wl e)(hf:qhu N wl f)(h1:e.g=f.g)(h2:e.o=f.o):depth e.t=depth f.t:=by
 have h3:some e.v=some f.v:=by rw [← he.1.2.2.2,← hf.1.2.2.2,h1,h2]
 injection h3 with h3
 have h4:e.t.args=f.t.args:=qre N N (by rw [← h3];exact he.2.1) (hf.2.1);rw [qas,qas,h4]
theorem qz0{wl:World}{e f:Ent}(he:qhu N wl e)(hf:qhu N wl f)(h:depth e.t<depth f.t):¬ (f.g=e.g∧f.o=e.o):=fun ⟨a,b⟩=>by
 have:=qw3 he hf a.symm b.symm;omega
end rebp

namespace rebq
open mem dec rowl trm terml termb termt tma tmr termpr rebp
def dvB (Q:List Ent):List Nat:=Q.flatMap fun e=>e.dv.ownBlock.toList
theorem qdy (e:Ent)(Q:List Ent):dvB (e::Q)=e.dv.ownBlock.toList++dvB Q:=rfl
theorem qej{e:Ent}{Q:List Ent}(he:e∈Q)(hk:e.dv.ownBlock=some k):k∈dvB Q:=List.mem_flatMap.2 ⟨e,he,by rw [hk];simp⟩
theorem qcy{size:Nat}(h:w.ownsRow base e size v n xs):∀ k,v.ownBlock=some k→base≤k∧k<w.heap.size:=by
 intro k hk;rcases h.2 with ⟨rfl,_⟩|⟨g,cap,cur,rfl,hb,hg,_⟩
 ·cases hk
 ·cases hk
  exact ⟨hb,(q_ hg)⟩
structure PathR (N:Nat) (wl:World) (B gp cap:Nat) (X:List Nat) (T2 T4:TypeId) (Q:List Ent) (w:World):Prop where
 below:Below wl.heap.size wl w
 hB:wl.heap.size≤B
 row:w.ownsRow B T2 2 (.slice (some ⟨gp,0,none⟩) Q.length cap) Q.length (qbf Q)
 node:∀ e∈Q,qhu N wl e
 chain:qrq Q
 done:∀ e∈Q,w.ownsRow B T4 4 e.dv e.R.length (rowV e.R)
 apart:(gp::dvB Q).Nodup
 el:∀ e∈Q,∀ x∈e.R,El 21 0 (tmr.qb4 ((gp::dvB Q)++X) w) x
 hX:∀ k∈X,k<B
theorem PathR.lt{wl:World}{Q:List Ent}(h:PathR N wl B gp cap X T2 T4 Q w):∀ k∈gp::dvB Q,B≤k∧k<w.heap.size:=by
 intro k hk;rcases List.mem_cons.1 hk with rfl|hk
 ·exact qcy h.row _ rfl
 ·obtain ⟨e,he,hk⟩:=List.mem_flatMap.1 hk
  exact qcy (h.done e he) k (by simpa using hk)
theorem PathR.all{wl:World}{Q:List Ent}(h:PathR N wl B gp cap X T2 T4 Q w):∀ k∈(gp::dvB Q)++X,(k∈X∨wl.heap.size≤k)∧k<w.heap.size:=by
 intro k hk;have aa:=h.lt gp (by simp);have hB:=h.hB;rcases List.mem_append.1 hk with hk|hk
 ·have:=h.lt k hk
  exact ⟨.inr o_,by omega⟩
 ·have:=h.hX k hk
  exact ⟨.inl hk,by omega⟩
theorem qdz (hc:Chg S w w')(hS:∀ k∈S',k∈S∨w.heap.size≤k):tmr.Sub (tmr.qb4 S w) (tmr.qb4 S' w'):=fun a u hx=>by
 obtain ⟨h1,h2⟩:=qf0 hx;have aa:=l_ h2;refine qh4 (fun hm=>?_) ((World.cell?_of_block (a:=a) (hc.block _ aa h1)).trans h2);rcases hS _ hm with h3|h3
 ·exact h1 h3
 ·omega
theorem PathR.push{wl:World}{cap':Nat}{e x:Ent}{Q:List Ent}(h:PathR N wl B gp cap X T2 T4 (e::Q) w)(hx:qhu N wl x)(af:qnu e x)(hR:x.R=[])(hv:x.dv=.slice none 0 0)(hr:w'.ownsRow B T2 2 (.slice (some ⟨ab,0,none⟩) (e::Q).length.succ cap') (e::Q).length.succ (qbf (e::Q)++qrn x))(hg:w.grownBy w' (some gp))(ac:ab=gp∨ab=w.heap.size):PathR N wl B ab cap' X T2 T4 (x::e::Q) w':=by
 have ad:=h.lt;have hc:Chg [gp] w w':=⟨hg.os,hg.tape,hg.output,hg.size,fun k hk hn=>hg.block k hk (fun e=>hn (by simp at e;simp [e]))⟩;have ae:dvB (x::e::Q)=dvB (e::Q):=by rw [qdy x,hv];rfl
 have aa:=h.apart;rw [List.nodup_cons] at aa;refine ⟨h.below.trans (hc.below h.below.size (fun k hk=>by have:=(ad gp (by simp)).1;have:=h.hB;simp at hk;omega)),h.hB,hr,fun y hy=>?_,⟨af,h.chain⟩,fun y hy=>?_,?_,fun y hy z hz=>?_,h.hX⟩
 ·rcases List.mem_cons.1 hy with rfl|hy
  ·exact hx
  ·exact h.node y hy
 ·rcases List.mem_cons.1 hy with rfl|hy
  ·rw [hR,hv];exact ⟨rfl,.inl ⟨rfl,rfl⟩⟩
  ·exact hc.own (h.done y hy) (fun k hk hm=>by
    simp at hm;subst hm
    exact aa.1 (qej hy hk))
 ·rw [ae,List.nodup_cons]
  refine ⟨fun hm=>?_,aa.2⟩;rcases ac with rfl|rfl
  ·exact aa.1 hm
  ·have:=(ad _ (List.mem_cons_of_mem _ hm)).2;omega
 ·rcases List.mem_cons.1 hy with rfl|hy
  ·rw [hR] at hz;cases hz
  ·have h1:=h.el y hy z hz
   refine ⟨qbh _ ?_ h1.1,h1.2⟩;rw [ae];refine qdz ⟨hc.os,hc.tape,hc.output,hc.size,fun k hk hn=>hc.block k hk (fun hm=>hn (by simp at hm;simp [hm]))⟩ (fun k hk=>?_);rcases List.mem_append.1 hk with hk|hk
   ·rcases List.mem_cons.1 hk with rfl|hk
    ·rcases ac with rfl|rfl
     ·exact .inl (by simp)
     ·exact .inr n_
    ·exact .inl (List.mem_append_left _ (by simp [hk]))
   ·exact .inl (List.mem_append_right _ hk)
def putE (f:Ent)(u:TermM)(vu dv:Value):Ent:=⟨f.g,f.o,f.t,f.v,f.R++[(u,vu)],dv⟩
theorem PathR.pop{wl:World}{e f:Ent}{Q:List Ent}{w2 w3:World}(h:PathR N wl B gp cap X T2 T4 (e::f::Q) w){u:TermM}{vu:Value}(hd:depths u.args≤20)(hb:Bnd u)(ae:Below w.heap.size w w1)(hu:∀ wz,tmr.Sub (tmr.qb4 ((gp::dvB (e::f::Q))++X) w) wz→Kept w.heap.size w1 wz→HasTs 22 0 wz vu u.args)(ab:Below w1.heap.size w1 w2){dv:Value}{gd:Nat}(ah:dv.ownBlock=some gd)(af:f.dv.ownBlock=some gd∨gd=w2.heap.size)(an:gd<w3.heap.size)(hg:w2.grownBy w3 f.dv.ownBlock)(hr:w3.ownsRow B T4 4 dv (f.R.length+1) (rowV (f.R++[(u,vu)]))):
  PathR N wl B gp cap X T2 T4 (putE f u vu dv::Q) (w3.setCell ⟨gp,Q.length*2+1,none⟩ dv):=by
 have ag:=h.lt;have aa:=h.apart;rw [List.nodup_cons,qdy,qdy] at aa;have ai:=aa.2;have ao:=ag gp (by simp);have al:w.heap.size≤w2.heap.size:=Nat.le_trans ae.size ab.size;have hc:Chg (gp::dvB (e::f::Q)) w (w3.setCell ⟨gp,Q.length*2+1,none⟩ dv):=by
  refine ((((Chg.of_below ae).trans (Chg.of_below ab)).trans ⟨hg.os,hg.tape,hg.output,hg.size,fun k hk hn=>hg.block k hk (fun e'=>hn ?_)⟩)).trans (Chg.set (by simp) dv);refine List.mem_cons_of_mem _ (qej (e:=f) (by simp) e'.symm)
 have aj:∀ k,w.heap.size≤k→k<w1.heap.size→(w3.setCell ⟨gp,Q.length*2+1,none⟩ dv).heap[k]? =w1.heap[k]? := fun k h1 h2=>by
  rw [Below.heap_setCell w3 ⟨gp,Q.length*2+1,none⟩ dv k (by show k≠gp;omega),hg.block k (by have:=ab.size;omega) (fun e'=>?_),ab.block k h2];have:=(ag k (List.mem_cons_of_mem _ (qej (e:=f) (by simp) e'.symm))).2;omega
 have hS:∀ k∈gp::dvB (putE f u vu dv::Q),k∈gp::dvB (e::f::Q)∨w2.heap.size≤k:=fun k hk=>by
  rw [qdy] at hk;simp only [putE,ah,Option.toList_some,List.mem_cons,List.mem_append,List.not_mem_nil,or_false] at hk;rcases hk with rfl|rfl|hk
  ·exact .inl (by simp)
  ·rcases af with h1|h1
   ·exact .inl (List.mem_cons_of_mem _ (qej (e:=f) (by simp) h1))
   ·exact .inr o_
  ·exact .inl (by rw [qdy,qdy];simp [hk])
 have am:∀ k∈(gp::dvB (putE f u vu dv::Q))++X,k∈(gp::dvB (e::f::Q))++X∨w2.heap.size≤k:=fun k hk=>by
  rcases List.mem_append.1 hk with hk|hk
  ·exact (hS k hk).imp (fun h=>List.mem_append_left _ h) id
  ·exact .inl (List.mem_append_right _ hk)
 have ac:tmr.Sub (tmr.qb4 ((gp::dvB (e::f::Q))++X) w) (tmr.qb4 ((gp::dvB (putE f u vu dv::Q))++X) (w3.setCell ⟨gp,Q.length*2+1,none⟩ dv)):=qdz (hc.mono (fun k hk=>List.mem_append_left _ hk)) (fun k hk=>(am k hk).imp id (fun h1=>by omega))
 have ak:∀ y∈Q,∀ k,y.dv.ownBlock=some k→k≠gp∧f.dv.ownBlock≠some k:=fun y hy k hk=>by
  have h1:=qej hy hk;refine ⟨fun e'=>aa.1 (by subst e';simp [h1]),fun e'=>?_⟩;rw [e'] at ai;have h2:=(List.nodup_append.1 ai).2.1;simp only [Option.toList_some,List.singleton_append,List.nodup_cons] at h2;exact h2.1 h1
 refine ⟨h.below.trans (hc.below h.below.size (fun k hk=>by have:=(ag k hk).1;have:=h.hB;omega)),h.hB,?_,fun y hy=>?_,?_,fun y hy=>?_,?_,fun y hy x hx=>?_,h.hX⟩
 ·-- the path's row
  have h1:=h.row;have ap:¬ (some gp=f.dv.ownBlock):=fun e'=>aa.1 (by rw [← e'];simp)
  have h2:=own_below (own_below h1 ae) ab;have h3:=World.ownsRow.kept h2 hg (.inr ap);have h4:=qdu h3 (m:=Q.length+1) (by simp);have h5:=qa4 h4 (Q.length*2+1) dv;have e1:(qbf (e::f::Q)).take ((Q.length+1)*2)=qbf (f::Q):=qg8 (by simp);have e2:(qbf (f::Q)).set (Q.length*2+1) dv=qbf (putE f u vu dv::Q):=by
   rw [qbf,qbf,List.set_append_right _ _ (by rw [qbu];omega),qbu,Nat.add_sub_cancel_left];rfl
  rw [e1,e2] at h5;exact h5
 ·rcases List.mem_cons.1 hy with rfl|hy
  ·exact h.node f (by simp)
  ·exact h.node y (by simp [hy])
 ·have h1:=h.chain.2
  cases Q with
  | nil=>trivial
  | cons q Q=>exact ⟨h1.1,h1.2⟩
 ·rcases List.mem_cons.1 hy with rfl|hy
  ·have h1:w3.ownsRow B T4 4 (putE f u vu dv).dv (putE f u vu dv).R.length (rowV (putE f u vu dv).R):=by
    show w3.ownsRow B T4 4 dv (f.R++[(u,vu)]).length (rowV (f.R++[(u,vu)]));rw [List.length_append];exact hr
   refine (Chg.set (S:=[gp]) (by simp) dv).own h1 (fun k hk hm=>?_);have ad:dv.ownBlock=some k:=hk;rw [ah] at ad;cases ad
   simp at hm;subst hm;rcases af with h2|h2
   ·exact aa.1 (by rw [h2];simp)
   ·omega
  ·have h1:=World.ownsRow.kept (own_below (own_below (h.done y (by simp [hy])) ae) ab) hg (by
    cases hk:y.dv.ownBlock with
    | none=>exact .inl rfl
    | some k=>exact .inr (fun e'=>(ak y hy k hk).2 e'.symm))
   exact (Chg.set (S:=[gp]) (by simp) dv).own h1 (fun k hk hm=>by simp at hm;exact (ak y hy k hk).1 hm)
 ·rw [qdy]
  simp only [putE,ah,Option.toList_some,List.singleton_append,List.nodup_cons,List.mem_cons];refine ⟨fun hm=>?_,fun hm=>?_,?_⟩
  ·rcases hm with h1|h1
   ·subst h1
    rcases af with h2|h2
    ·exact aa.1 (by rw [h2];simp)
    ·omega
   ·exact aa.1 (by simp [h1])
  ·obtain ⟨y,hy,hk⟩:=List.mem_flatMap.1 hm
   have ad:y.dv.ownBlock=some gd:=by simpa using hk
   rcases af with h2|h2
   ·exact (ak y hy gd ad).2 h2
   ·have:=(ag gd (List.mem_cons_of_mem _ (qej (e:=y) (by simp [hy]) ad))).2
    omega
  ·exact (List.nodup_append.1 (List.nodup_append.1 ai).2.1).2.1
 ·rcases List.mem_cons.1 hy with rfl|hy
  ·rcases List.mem_append.1 (show x∈f.R++[(u,vu)] from hx) with hx|hx
   ·have h1:=h.el f (by simp) x hx
    exact ⟨qbh _ ac h1.1,h1.2⟩
   ·simp at hx
    subst hx;refine ⟨?_,hb⟩;have h1:=hu _ ac ⟨by rw [qez];have:=hc.size;have:=ab.size;have:=hg.size;simp [World.setCell];omega,fun k h1 h2=>?_⟩
    ·exact (qi5 h1).up o_
    ·rw [qgh (fun hm=>?_)]
     ·exact aj k h1 h2
     ·rcases am k hm with h3|h3
      ·have:=(h.all k h3).2;omega
      ·have:=ab.size;omega
  ·have h1:=h.el y (by simp [hy]) x hx
   exact ⟨qbh _ ac h1.1,h1.2⟩
end rebq

namespace tmd
open mem dec rowl trm trmv terml termb termt termx termso tma tmr
theorem qwe (N lo g size:Nat)(wl w:World)(hg:∀ w',Chg [g] w w'→Sub wl w')(n0:Nat)(hn:n0=0):
  CmpLays Tryz.prog 115 #[] (encT (N:=N) (lo:=lo) (w:=wl)) 4 cfT g n0 size w:=by
 intro m os dk aa x y;subst hn;have hc:Chg [g] w (sortWorldK encT 4 w g 0 m dk os):=qgj _;refine (qcu (n:=N) x.t y.t x.v y.v _ (qbh N (hg _ hc) x.h) (qbh N (hg _ hc) y.h) x.s).mono ?_;rintro e w' ⟨rfl,h⟩;exact ⟨rfl,h.grow⟩
theorem qwf (wl w:World)(d:Array (Elt N lo wl))(hg:∀ w',Chg [g] w w'→Sub wl w')(xs:List Value)(ho:w.ownsRow base 38 4 (.slice (some ⟨g,0,none⟩) d.size cap) d.size xs)(hx:∀ j,j<d.size→qc6 xs j d[j]!.t d[j]!.v)(hsz:d.size<4611686018427387904):
  Calls Tryz.prog 114 #[.slice (some ⟨g,0,none⟩) d.size cap,.func (.func 115) #[] #[]] w fun e w'=>e=.returned (.tuple #[])∧
   ∃ (d':Array (Elt N lo wl)) (ag:List Value),d'.size=d.size∧d'.toList.Perm d.toList∧(∀ i j,i<j→j<d.size→cmp d'[i]!.t d'[j]!.t≤0)∧w'.ownsRow base 38 4 (.slice (some ⟨g,0,none⟩) d.size cap) d.size ag∧
    (∀ j,j<d.size→qc6 ag j d'[j]!.t d'[j]!.v)∧Chg [g] w w':=by
 have eg:∀ args w,(callFunc 115 args).run Tryz.prog w=.ok (.enter 115 args) w:=Go.Proofs.enters_of Tryz.func115 k_ rfl;obtain ⟨cur,ac,ad,hnc,hcm,hcs⟩:∃ cur,base≤g∧w.heap[g]? =some (.cells cur 38 (0,0))∧d.size≤cap∧cap≤maxLen∧cur.size=cap*4:=by
  rcases ho.2 with ⟨hv,_⟩|⟨g',cap',cur,hv,hb,hg,hnc,hcm,hcs,_⟩
  ·cases hv
  ·simp only [Value.slice.injEq,Option.some.injEq,Addr.mk.injEq,and_true,true_and] at hv
   obtain ⟨rfl,rfl⟩:=hv;exact ⟨cur,hb,hg,hnc,hcm,hcs⟩
 have ai:g<w.heap.size:=(q_ ad)
 have hcell:∀ (xs:List Value) (d:Array (Elt N lo wl)) j,qc6 xs j d[j]!.t d[j]!.v→∀ c,c<4→xs[j*4+c]? =some (encT d[j]!)[c]! := by
  rintro xs d j ⟨a,b,c,e⟩ i hi;match i,hi with
  | 0,_=>exact a
  | 1,_=>exact b
  | 2,_=>exact c
  | 3,_=>exact e
 have hH:Sort.HoldsK encT 4 w g 0 d:=by
  intro t ht;rw [Sort.size_flatK] at ht;rw [Nat.zero_add,Sort.get_flatK _ _ _ _ ht,ho.cellAt t o_];have h4:=hcell xs d (t / 4) (hx (t / 4) o_) (t % 4) o_;rw [show t / 4*4+t % 4=t by omega] at h4;exact ⟨h4,ho.frozenAt _⟩
 have ae:=AnyQ.slices_SortFunc termsl.qB9 4 Tryz.isAgg38 Tryz.sizeOf38 encT (fun _=>rfl) (fun x v hv=>by
   obtain ⟨A,c,e,_⟩:=HasR.shape x.h rfl;simp only [encT,List.mem_cons,List.not_mem_nil,or_false] at hv;rcases hv with rfl|rfl|rfl|rfl
   ·rfl
   ·rfl
   ·rfl
   ·rw [e];rfl) cfT (swoT N lo wl) 115 #[] g 0 cap d w eg (qwe N lo g d.size wl w hg 0 rfl) hH ai hsz
 change Calls Tryz.prog 114 _ _ _ at ae
 refine ae.mono ?_;rintro e w' ⟨rfl,d',n,os,hp,hs,rfl⟩;obtain ⟨aa,_,af⟩:=hp;refine ⟨rfl,d',(Sort.flatK encT 4 d').toList,aa,?_,fun i j aj hj=>?_,?_,fun j hj=>?_,qgj _⟩
 ·have e1:d'.extract 0 d.size=d':=by rw [← aa];exact Array.extract_size
  have e2:d.extract 0 d.size=d:=Array.extract_size;rwa [e1,e2] at af
 ·have h:=hs i j y_ aj hj
  have h':¬ cmp d'[j]!.t d'[i]!.t<0:=of_decide_eq_false h;have:=qb6 d'[j]!.t d'[i]!.t;omega
 ·refine ⟨by rw [Array.length_toList,Sort.size_flatK,aa],.inr ⟨g,cap,_,rfl,ac,qrj _ ad,hnc,hcm,by simp [Sort.putCells,hcs],?_⟩⟩
  have hF:(Sort.flatK encT 4 d').size=d.size*4:=by rw [Sort.size_flatK,aa]
  rw [← hF];exact qrk _ _ (by rw [hF,hcs];omega)
 ·have ab:∀ c,c<4→(Sort.flatK encT 4 d').toList[j*4+c]? =some (encT d'[j]!)[c]! := by
   intro c hc;have ah:j*4+c<d'.size*4:=o_;have h:=Sort.get_flatK encT 4 d' (j*4+c) ah;rw [show (j*4+c) / 4=j by omega,show (j*4+c) % 4=c by omega] at h;rw [Array.getElem?_toList,← h,getElem!_pos _ _ (by rw [Sort.size_flatK];exact ah)];exact Array.getElem?_eq_getElem _
  exact ⟨ab 0 o_,ab 1 o_,ab 2 o_,ab 3 o_⟩
theorem qo1 (wl w:World)(R:List (TermM×Value))(hE:∀ x∈R,El N lo wl x)(hz:∀ x∈R,qa2 x.1.args≤2097152)(hg:∀ w',Chg [g] w w'→Sub wl w')(ho:w.ownsRow base 38 4 (.slice (some ⟨g,0,none⟩) R.length cap) R.length (rowV R))(hsz:R.length<4611686018427387904):
  Calls Tryz.prog 114 #[.slice (some ⟨g,0,none⟩) R.length cap,.func (.func 115) #[] #[]] w fun e w'=>e=.returned (.tuple #[])∧
   ∃ R':List (TermM×Value),R'.length=R.length∧R'.map Prod.fst=qcj (R.map Prod.fst)∧(∀ x∈R',El N lo wl x)∧w'.ownsRow base 38 4 (.slice (some ⟨g,0,none⟩) R.length cap) R'.length (rowV R')∧Chg [g] w w':=by
 obtain ⟨d,ac,ad⟩:∃ d:Array (Elt N lo wl),d.size=R.length∧∀ j,j<R.length→d[j]!.t=(R.getD j p0).1∧d[j]!.v=(R.getD j p0).2:=by
  refine ⟨Array.ofFn (n:=R.length) fun j=>⟨(R.getD j.1 p0).1,(R.getD j.1 p0).2,(hE _ (qph j.2)).1,(hE _ (qph j.2)).2,hz _ (qph j.2)⟩,by simp,fun j hj=>?_⟩;rw [getElem!_pos _ j (by simpa using hj)];simp only [Array.getElem_ofFn];exact ⟨by trivial,by trivial⟩
 have hc:=qwf (cap:=cap) (base:=base) wl w d hg (rowV R) (by rw [ac];exact ho) (fun j hj=>by
  rw [(ad j o_).1,(ad j o_).2]
  exact qh5 R j o_) o_
 rw [ac] at hc;refine hc.mono ?_;rintro e w' ⟨rfl,d',ag,h1,h2,h3,h4,h5,h6⟩;obtain ⟨R',aa⟩:∃ R':List (TermM×Value),R'=d'.toList.map (fun x=>(x.t,x.v)):=⟨_,rfl⟩;have hl:R'.length=R.length:=by rw [aa,List.length_map,Array.length_toList,h1]
 have ab:∀ (d:Array (Elt N lo wl)) j (hj:j<d.size),d[j]! = d[j]:=fun d j hj=>getElem!_pos d j hj
 have ah:∀ j,j<R.length→R'.getD j p0=(d'[j]!.t,d'[j]!.v):=fun j hj=>by
  rw [aa,List.getD_eq_getElem?_getD,List.getElem?_map,Array.getElem?_toList,Array.getElem?_eq_getElem o_,ab d' j o_];rfl
 have ae:ag=rowV R':=by
  apply List.ext_getElem?
  intro p;by_cases hp:p<R.length*4
  ·obtain ⟨a,b,c,e⟩:=h5 (p / 4) o_
   obtain ⟨a',b',c',e'⟩:=qh5 R' (p / 4) o_;rw [ah _ o_] at a' b' c' e';have ai:p=p / 4*4+p % 4:=o_;rw [ai];match p % 4,(show p % 4<4 by omega) with
   | 0,_=>exact a.trans a'.symm
   | 1,_=>exact b.trans b'.symm
   | 2,_=>exact c.trans c'.symm
   | 3,_=>exact e.trans e'.symm
  ·rw [List.getElem?_eq_none (by rw [h4.1];omega),List.getElem?_eq_none (by rw [qbr,hl];omega)]
 have af:d.toList.map (·.t)=R.map Prod.fst:=by
  apply List.ext_getElem
  ·simp [ac]
  ·intro j q1 q2
   have q3:j<R.length:=by simpa using q2
   have:=(ad j q3).1;rw [ab d j o_] at this;simp only [List.getElem_map,Array.getElem_toList];rw [this];simp [List.getD,List.getElem?_eq_getElem q3]
 refine ⟨rfl,R',hl,?_,fun x hx=>?_,by rw [hl,← ae];exact h4,h6⟩
 ·have e1:R'.map Prod.fst=d'.toList.map (·.t):=by rw [aa,List.map_map];rfl
  rw [e1];refine qha ?_ ((h2.map (fun x=>x.t)).trans (by rw [af]));refine List.pairwise_iff_getElem.2 (fun i j hi hj aj=>?_);have ak:i<d'.size:=by simpa using hi
  have al:j<d'.size:=by simpa using hj
  have q1:=h3 i j aj o_;rw [ab d' i ak,ab d' j al] at q1;simpa using q1
 ·rw [aa] at hx
  obtain ⟨y,_,rfl⟩:=List.mem_map.1 hx;exact ⟨y.h,y.b⟩
end tmd

namespace termpw
open mem rowl trm trmv terml termb termt termz termro termsd termvx termcl termsp termpr
def AllT (Q:Ent→TermM→Prop):List Ent→List TermM→Prop
 | [],[]=>True
 | e::L,t::T=>Q e t∧AllT Q L T
 | _,_=>False
theorem AllT.imp {Q Q':Ent→TermM→Prop}:∀ {L:List Ent} {T:List TermM},AllT Q L T→(∀ e∈L,∀ t,Q e t→Q' e t)→AllT Q' L T
 | [],[],_,_=>trivial
 | e::L,t::T,⟨a,b⟩,h=>⟨h e (by simp) t a,b.imp (fun x hx=>h x (by simp [hx]))⟩
 | [],_::_,h,_=>h.elim
 | _::_,[],h,_=>h.elim
theorem AllT.append {Q:Ent→TermM→Prop}:∀ {L M:List Ent} {T U:List TermM},AllT Q L T→AllT Q M U→AllT Q (L++M) (T++U)
 | [],_,[],_,_,h=>h
 | _::_,_,_::_,_,⟨a,b⟩,h=>⟨a,AllT.append b h⟩
 | [],_,_::_,_,h,_=>h.elim
 | _::_,_,[],_,h,_=>h.elim
theorem AllT.len {Q:Ent→TermM→Prop}:∀ {L:List Ent} {T:List TermM},AllT Q L T→L.length=T.length
 | [],[],_=>rfl
 | _::_,_::_,⟨_,b⟩=>by rw [List.length_cons,List.length_cons,AllT.len b]
 | [],_::_,h=>h.elim
 | _::_,[],h=>h.elim
theorem AllT.get {Q:Ent→TermM→Prop}:∀ {L:List Ent} {T:List TermM},AllT Q L T→∀ e∈L,∃ t,Q e t
 | [],[],_,e,he=>by simp at he
 | x::L,t::T,⟨a,b⟩,e,he=>by
  rcases List.mem_cons.1 he with rfl|he
  ·exact ⟨t,a⟩
  ·exact b.get e he
 | [],_::_,h,_,_=>h.elim
 | _::_,[],h,_,_=>h.elim
def PendOk (N lo:Nat)(wl:World)(B:Nat)(F:List Nat)(w:World)(e:Ent)(t:TermM):Prop:=e.2.2+depth t≤1073741824∧e.1∈F∧(∃ v,w.cell? ⟨e.1,e.2.1+3,none⟩=some v∧HasTs N lo wl v t.args)∧∃ n cap xs,w.ownsRow B 38 4 (.slice (some ⟨e.1,0,none⟩) n cap) n xs∧e.2.1+3<n*4
theorem PendOk.chg{wl:World}{e:Ent}{t:TermM}(h:PendOk N lo wl B F w e t)(hc:Chg S w w')(hF:∀ k∈F,k∈F')(hS:e.1 ∉ S):PendOk N lo wl B F' w' e t:=by
 obtain ⟨h1,h2,⟨v,h3,h4⟩,n,cap,xs,h5,h6⟩:=h;refine ⟨h1,hF _ h2,⟨v,?_,h4⟩,n,cap,xs,hc.own h5 (fun g hg=>?_),h6⟩
 ·exact (World.cell?_of_block (a:=⟨e.1,e.2.1+3,none⟩) (hc.block _ (l_ h3) hS)).trans h3
 ·simp [Value.ownBlock] at hg;subst hg;exact hS
theorem PendOk.set{wl:World}{e:Ent}{t:TermM}(h:PendOk N lo wl B F w e t)(g o:Nat)(u:Value)(aa:(e.1,e.2.1+3)≠(g,o)):PendOk N lo wl B F (w.setCell ⟨g,o,none⟩ u) e t:=by
 obtain ⟨h1,h2,⟨v,h3,h4⟩,n,cap,xs,h5,h6⟩:=h;refine ⟨h1,h2,⟨v,?_,h4⟩,?_⟩
 ·refine (World.cell?_setCell_other w ⟨g,o,none⟩ ⟨e.1,e.2.1+3,none⟩ u (fun e'=>aa ?_)).trans h3
  have e1:g=e.1:=congrArg Addr.block e';have e2:o=e.2.1+3:=congrArg Addr.off e';rw [e1,e2]
 ·obtain ⟨ys,h7,_⟩:=qm3 (lo:=B) (F:=[e.1]) (P:=[(g,o)]) (w:=w) (g:=g) (o:=o) u (by simp) e.1 (by simp) n cap xs h5
  exact ⟨n,cap,ys,h7,h6⟩
def SepR (wl W0:World)(N lo B:Nat)(F0:List Nat)(G:World→Prop)(n:Nat)(S:List Nat)(L:List Ent)(w:World):Prop:=∃ (T:List TermM) (F:List Nat),AllT (PendOk N lo wl B F w) L T∧qa2 T≤n∧n≤1073741824∧(∀ k∈S,W0.heap.size≤k∧k<w.heap.size∧k ∉ F)∧
 (∀ k∈F,(k∈F0∨W0.heap.size≤k)∧k<w.heap.size)∧(∀ k∈F0,wl.heap.size≤k∧k<W0.heap.size)∧wl.heap.size≤W0.heap.size∧Below wl.heap.size wl w∧(pos L).Nodup∧Inv B W0.heap.size G F L T w∧B≤W0.heap.size∧Chg F0 W0 w∧F.Nodup
theorem qry (T:List TermM):T.length≤qa2 T:=qat T
theorem qza{wl W0:World}{F0:List Nat}{G:World→Prop}{L:List Ent}(h:SepR wl W0 N lo B F0 G n S L w)(hc:Chg S w w')(hS:∀ k∈S',(k∈S∨w.heap.size≤k)∧k<w'.heap.size):SepR wl W0 N lo B F0 G n S' L w':=by
 obtain ⟨T,F,h1,h2,h3,h4,h5,h6,h7,h8,h9,ac,ad,aa,ae⟩:=h;refine ⟨T,F,h1.imp (fun e he t hp=>hp.chg hc (fun k hk=>hk) (fun hm=>(h4 _ hm).2.2 hp.2.1)),h2,h3,fun k hk=>⟨?_,(hS k hk).2,fun hm=>?_⟩,fun k hk=>⟨(h5 k hk).1,w_ (h5 k hk).2 hc.size⟩,h6,h7,h8.trans (hc.below h8.size (fun k hk=>by have:=(h4 k hk).1;omega)),h9,ac.kept ?_,ad,⟨hc.os.trans aa.os,hc.tape.trans aa.tape,hc.output.trans aa.output,Nat.le_trans aa.size hc.size,fun k hk hn=>(hc.block k (w_ hk aa.size) (fun hm=>by have:=(h4 k hm).1;omega)).trans (aa.block k hk hn)⟩,ae⟩
 ·rcases (hS k hk).1 with h|h
  ·exact (h4 k h).1
  ·exact Nat.le_trans aa.size h
 ·rcases (hS k hk).1 with h|h
  ·exact (h4 k h).2.2 hm
  ·have:=(h5 k hm).2;omega
 ·intro g hg m cap xs hx
  exact ⟨xs,hc.own hx (fun x ab=>by simp [Value.ownBlock] at ab;subst ab;exact fun hm=>(h4 _ hm).2.2 hg),fun _ _=>rfl⟩
theorem qo3 {Q:Ent→TermM→Prop}(l:List TermM)(g d:Nat):∀ m,m≤l.length→(∀ j,j<m→Q (g,0+j*4,d) (l.getD j default))→AllT Q (kids g 0 d m) ((l.take m).reverse)
 | 0,_,_=>by simp [kids,AllT]
 | m+1,hm,h=>by
  have e:(l.take (m+1)).reverse=l.getD m default::(l.take m).reverse:=by
   rw [List.take_succ_eq_append_getElem o_,List.reverse_append,qai o_];rfl
  rw [e];exact ⟨h m (Nat.lt_succ_self _),qo3 l g d m o_ (fun j hj=>h j o_)⟩
theorem qfa (g d:Nat):∀ m,(pos (kids g 0 d m)).Nodup
 | 0=>by simp [pos,kids]
 | m+1=>by
  have ih:=qfa g d m;unfold pos at ih ⊢;rw [kids,List.map_cons,List.nodup_cons];refine ⟨fun h=>?_,ih⟩;obtain ⟨_,j,h1,h2⟩:=qf1 (g:=g) (d:=d) (m:=m) h;have h3:0+m*4+3=j*4+3:=h2;omega
theorem qwh (l T:List TermM):qa2 (l.reverse++T)=qa2 l+qa2 T:=by
 simp only [qa2,List.map_append,List.sum_append,List.map_reverse];congr 1
 exact List.sum_reverse _
theorem qpr{e:Ent}{L:List Ent}(h:(pos (e::L)).Nodup):∀ x∈L,(x.1,x.2.1+3)≠(e.1,e.2.1+3):=by
 unfold pos at h;rw [List.map_cons,List.nodup_cons] at h;exact fun x hx e=>h.1 (by rw [← e];exact List.mem_map.2 ⟨x,hx,rfl⟩)
theorem qth (wl W0:World)(N lo B:Nat)(F0:List Nat)(G:World→Prop)(hB:B≤wl.heap.size):Visits 127 #[] (SepR wl W0 N lo B F0 G) where
 keep:=qza
 ent:=by
  rintro n S e L w ⟨T,F,h1,h2,h3,h4,h5,h6,h7,h8,h9,ai,aj,ab,ak⟩;cases T with
  | nil=>exact h1.elim
  | cons t T=>
   obtain ⟨hp,hL⟩:=h1;have hl:=hL.len;have aF:=qry T;have aw:qa2 (t::T)=size t+qa2 T:=by simp [qa2]
   exact ⟨(h5 _ hp.2.1).2,fun hm=>(h4 _ hm).2.2 hp.2.1,by have:=hp.1;omega,h3,by omega⟩
 visit:=by
  rintro n S e L w ⟨T,F,h1,h2,h3,h4,h5,h6,h7,h8,h9,ai,aj,ab,ak⟩;cases T with
  | nil=>exact h1.elim
  | cons t T=>
   obtain ⟨hp,hL⟩:=h1;have aG:=hp;obtain ⟨p1,p2,⟨v,p3,p4⟩,nr,ad,xr,p5,p6⟩:=hp;have aw:qa2 (t::T)=size t+qa2 T:=by simp [qa2]
   have aH:=qao t;have aI:=qry t.args;have aJ:=qhw t;have ax:=(h5 _ p2).2;have ay:wl.heap.size≤e.1:=by
    rcases (h5 _ p2).1 with h|h
    ·exact (h6 _ h).1
    ·omega
   refine ⟨n-1,by omega,(qCh (n:=N) (lo:=lo) e.1 e.2.1 e.2.2 t v wl w h8 (p4.up (Nat.le_succ N)) o_ p3 (p5.frozenAt _)).mono ?_⟩;rintro ex w' ⟨rfl,w1,v1,vs,aa,rfl,ho,ac⟩;have az:e.1 ∉ S:=fun hm=>(h4 _ hm).2.2 p2
   have hsz:w.heap.size≤(w1.setCell ⟨e.1,e.2.1+3,none⟩ v1).heap.size:=by simpa [World.setCell] using aa.size
   have ae:∀ k,k<w.heap.size→k≠e.1→(w1.setCell ⟨e.1,e.2.1+3,none⟩ v1).heap[k]? =w.heap[k]? := fun k hk aA=>(Below.heap_setCell w1 ⟨e.1,e.2.1+3,none⟩ v1 k aA).trans (aa.block k hk)
   have hcell:(w1.setCell ⟨e.1,e.2.1+3,none⟩ v1).cell? ⟨e.1,e.2.1+3,none⟩=some v1:=World.cell?_setCell_same _ _ _ ((aa.cell (p:=⟨e.1,e.2.1+3,none⟩) ax).trans p3);have am:Below wl.heap.size wl (w1.setCell ⟨e.1,e.2.1+3,none⟩ v1):=(h8.trans (aa.mono h8.size)).setCell ay v1
   have an:Chg F0 W0 (w1.setCell ⟨e.1,e.2.1+3,none⟩ v1):=⟨aa.os.trans ab.os,aa.tape.trans ab.tape,aa.output.trans ab.output,Nat.le_trans ab.size hsz,fun k hk hn=>by
    rw [ae k (w_ hk ab.size) (fun e'=>by
     subst e';rcases (h5 _ p2).1 with h|h
     ·exact hn h
     ·omega)]
    exact ab.block k hk hn⟩
   have ao:AllT (PendOk N lo wl B F (w1.setCell ⟨e.1,e.2.1+3,none⟩ v1)) L T:=hL.imp (fun x hx u hu=>(hu.chg (Chg.of_below (S:=[]) aa) (fun k hk=>hk) (by simp)).set _ _ _ (qpr h9 x hx));have ap:(pos L).Nodup:=by
    unfold pos at h9 ⊢;rw [List.map_cons,List.nodup_cons] at h9;exact h9.2
   have ah:∀ k∈S,W0.heap.size≤k∧k<(w1.setCell ⟨e.1,e.2.1+3,none⟩ v1).heap.size∧k ∉ F:=fun k hk=>⟨(h4 k hk).1,w_ (h4 k hk).2.1 hsz,(h4 k hk).2.2⟩
   have aq:∀ k∈F,(k∈F0∨W0.heap.size≤k)∧k<(w1.setCell ⟨e.1,e.2.1+3,none⟩ v1).heap.size:=fun k hk=>⟨(h5 k hk).1,w_ (h5 k hk).2 hsz⟩
   refine ⟨true,rfl,hsz,fun k hk aB=>ae k aB (fun e'=>az (by rw [← e'];exact hk)),.inr ⟨rfl,?_⟩⟩;rcases ho.2 with ⟨rfl,h0⟩|⟨g',cap',cur,rfl,hg1,hg2,hg3,hg4,_⟩
   ·have aC:t.args=[]:=List.eq_nil_of_length_eq_zero h0
    refine ⟨none,0,0,hcell,by omega,by omega,0,0,fun h=>absurd rfl h,T,F,ao,by omega,by omega,ah,aq,h6,h7,am,ap,?_,aj,an,ak⟩;exact ai.visit_nil aa aC p2 ⟨nr,ad,xr,p5,p6⟩ h9
   ·have al:∀ k∈F,k≠g':=fun k hk e'=>by have:=(h5 k hk).2;omega
    have aD:¬ g'=e.1:=fun e'=>al _ p2 e'.symm
    have au:B≤w.heap.size:=by have:=h8.size;omega
    have af:(w1.setCell ⟨e.1,e.2.1+3,none⟩ (.slice (some ⟨g',0,none⟩) t.args.length cap')).ownsRow B 38 4 (.slice (some ⟨g',0,none⟩) t.args.length cap') t.args.length (fours t.args vs t.args.length):=
     (Chg.set (S:=[e.1]) (by simp) _).own (qco ho au) (fun x hx=>by simp [Value.ownBlock] at hx;subst hx;simpa using aD)
    have av:∀ x∈e::L,x.1∈F:=fun x hx=>by
     rcases List.mem_cons.1 hx with rfl|hx
     ·exact p2
     ·obtain ⟨u,hu⟩:=hL.get x hx
      exact hu.2.1
    have ag:AllT (PendOk N lo wl B (g'::F) (w1.setCell ⟨e.1,e.2.1+3,none⟩ (.slice (some ⟨g',0,none⟩) t.args.length cap'))) (kids g' 0 (e.2.2+1) t.args.length) t.args.reverse:=by
     rw [← qrm t.args rfl];refine qo3 t.args g' (e.2.2+1) t.args.length n_ (fun j hj=>⟨?_,by simp,⟨vs j,?_,(ac j hj).1⟩,t.args.length,cap',_,af,?_⟩)
     ·have h1:=qcs hj
      have h2:=qas t;show e.2.2+1+depth (t.args.getD j default)≤1073741824;omega
     ·have h1:=(qi3 t.args vs t.args.length j hj).2.2.2
      have h2:=af.cellAt (j*4+3) o_;rw [h1] at h2;show World.cell? _ ⟨g',0+j*4+3,none⟩=_;rw [Nat.zero_add];exact h2
     ·show 0+j*4+3<_
      omega
    refine ⟨some ⟨g',0,none⟩,t.args.length,cap',hcell,by omega,hg3,g',0,fun _=>rfl,t.args.reverse++T,g'::F,ag.append (ao.imp (fun x hx u hu=>hu.chg (Chg.refl [] _) (fun k hk=>by simp [hk]) (by simp))),by rw [qwh];omega,by omega,fun k hk=>⟨(ah k hk).1,(ah k hk).2.1,fun hm=>?_⟩,fun k hk=>?_,h6,h7,am,?_,?_,aj,an,List.nodup_cons.2 ⟨fun hm=>al _ hm rfl,ak⟩⟩
    ·rcases List.mem_cons.1 hm with rfl|hm
     ·have:=(h4 _ hk).2.1;omega
     ·exact (ah k hk).2.2 hm
    ·rcases List.mem_cons.1 hk with rfl|hk
     ·refine ⟨.inr (by have:=ab.size;omega),?_⟩
      have:=(q_ hg2);simpa [World.setCell] using this
     ·exact aq k hk
    ·unfold pos
     rw [List.map_append];refine List.nodup_append.2 ⟨qfa g' _ _,ap,fun x hx y hy e'=>?_⟩;subst e';obtain ⟨x1,x2⟩:=x;obtain ⟨u,hu,aE⟩:=qw0 (L:=L) hy;exact al _ (av u (by simp [hu])) (aE.trans (qf1 hx).1)
    ·exact ai.visit aa rfl ho (fun j hj=>(ac j hj).2) au ab.size (fun k hk=>(h5 k hk).2) av ⟨nr,ad,xr,p5,p6⟩ h9
def qwi (B:Nat)(W:World)(gR i m cap:Nat)(t:TermM)(xs:List Value)(w':World):Prop:=∃ (v':Value) (S:List Nat) (aa:List Value),w'.ownsRow B 38 4 (.slice (some ⟨gR,0,none⟩) m cap) m aa∧(∀ p,p≠i*4+3→aa[p]? =xs[p]?)∧aa[i*4+3]? =some v'∧OT 38 (depth t) W.heap.size w' v' t.args S∧gR ∉ S
theorem qBf (wl W:World)(gR i m cap:Nat)(t:TermM)(v:Value)(xs:List Value)(aa:Below wl.heap.size wl W)(hB:B≤wl.heap.size)(ae:wl.heap.size≤gR)(ho:W.ownsRow B 38 4 (.slice (some ⟨gR,0,none⟩) m cap) m xs)(hi:i<m)(hc:xs[i*4+3]? =some v)(hv:HasTs N lo wl v t.args)(hs:size t≤1073741823):
  Calls Tryz.prog 111 #[.pointer (some ⟨gR,i*4,none⟩),.func (.func 127) #[] #[]] W fun e w'=>e=.returned (.tuple #[])∧qwi B W gR i m cap t xs w'∧Chg [gR] W w'∧Below wl.heap.size wl w':=by
 have eg:∀ args w,(callFunc 127 args).run Tryz.prog w=.ok (.enter 127 args) w:=Go.Proofs.enters_of Tryz.func127 k_ rfl;have ab:=(qc8 ho).2.1;have ak:=qi1 t;have hcell:W.cell? ⟨gR,i*4+3,none⟩=some v:=by rw [ho.cellAt _ o_];exact hc
 have hI:Inv B W.heap.size (qwi B W gR i m cap t xs) [gR] [(gR,i*4,1)] [t] W:=by
  intro w' Ss af ac ad;cases Ss with
  | nil=>exact ac.elim
  | cons S Ss=>
   obtain ⟨⟨v',h1,h2⟩,h3⟩:=ac;cases Ss with
   | cons S' Ss=>exact h3.elim
   | nil=>
    obtain ⟨ag,h4,h5⟩:=af gR (by simp) m cap xs ho;refine ⟨v',S,ag,h4,fun p hp=>h5 p (fun hm=>?_),?_,h2,fun hm=>?_⟩
    ·simp [pos] at hm
     exact hp hm
    ·rw [← h4.cellAt (i*4+3) o_];exact h1
    ·simp only [List.flatten_cons,List.flatten_nil,List.append_nil,List.singleton_append,List.nodup_cons] at ad
     exact ad.1 hm
 refine (qlt _ _ eg _ (qth wl W N lo B [gR] (qwi B W gR i m cap t xs) hB) (size t) gR (i*4) W ⟨[t],[gR],⟨⟨by show 1+depth t≤_;omega,by simp,⟨v,hcell,hv⟩,m,cap,xs,ho,by show i*4+3<_;omega⟩,trivial⟩,by simp [qa2],by omega,fun k hk=>by simp at hk,fun k hk=>?_,fun k hk=>?_,aa.size,aa,by simp [pos],hI,by have:=aa.size;omega,Chg.refl _ _,by simp⟩).mono ?_
 ·simp at hk;subst hk;exact ⟨.inl (by simp),ab⟩
 ·simp at hk;subst hk;exact ⟨ae,ab⟩
 ·rintro e w' ⟨rfl,n',S,T,F,h1,_,_,_,_,_,_,h8,_,ah,_,ai,aj⟩
  cases T with
  | cons p T=>exact h1.elim
  | nil=>exact ⟨rfl,ah w' [] (fun g _ n c ys hy=>⟨ys,hy,fun _ _=>rfl⟩) trivial (by simpa using aj),ai,h8⟩
end termpw

namespace termcy
open mem rowl trm terml termb termt termx termro termpr termpw
abbrev st4 (w:World)(x:Nat)(u0 u1 u2 u3:Value):World:=(((w.setCell ⟨x,0,none⟩ u0).setCell ⟨x,1,none⟩ u1).setCell ⟨x,2,none⟩ u2).setCell ⟨x,3,none⟩ u3
theorem qwj (h:Below B a w)(hx:B≤x)(u0 u1 u2 u3:Value):Below B a (st4 w x u0 u1 u2 u3):=(((h.setCell hx u0).setCell hx u1).setCell hx u2).setCell hx u3
theorem row1 (w:World)(u0 u1 u2 u3:Value):(w.alloc (.cells #[u0,u1,u2,u3] 38)).ownsRow w.heap.size 38 4 (.slice (some ⟨w.heap.size,0,none⟩) 1 1) 1 [u0,u1,u2,u3]:=by
 simpa using World.ownsRow_lit (e:=38) (size:=4) w #[u0,u1,u2,u3] 1 n_ Aa_ rfl
theorem qA9{L:List TermM}(h:OT 38 n lo w v L S)(hx:x<lo)(u0 u1 u2 u3:Value):OT 38 n lo (st4 w x u0 u1 u2 u3) v L S:=by
 refine h.chg (S':=[x]) ?_ (fun k hk hm=>?_)
 ·exact ((((Chg.refl [x] w).trans (Chg.set (by simp) u0)).trans (Chg.set (by simp) u1)).trans (Chg.set (by simp) u2)).trans (Chg.set (by simp) u3)
 ·have:=(h.lt k hk).1
  simp at hm;omega
set_option maxRecDepth 20000 in
set_option maxHeartbeats 2000000 in
theorem qwk (t:TermM)(v:Value)(w:World)(hv:HasTs N lo w v t.args)(hs:size t≤1073741823):
  Calls Tryz.prog 70 #[aggT t v] w fun e w'=>∃ v' S,e=.returned (aggT t v')∧OT 38 (depth t) w.heap.size w' v' t.args S∧Below w.heap.size w w':=by
 obtain ⟨W,hW⟩:=e_ ((w.alloc (.cells #[.int .i64 t.op,.string (bstr t.name),.int .i64 t.sort,v] 38)).alloc (.cells #[.int .i64 0,.string { data:=#[] },.int .i64 0,.slice none 0 0] 38));have al:Below w.heap.size w W:=by rw [hW];exact (b_.alloc n_ _).alloc (by simp) _
 have am:W.heap.size=w.heap.size+2:=by rw [hW];simp
 have an:W.heap[w.heap.size+1]? =some (.cells #[.int .i64 0,.string { data:=#[] },.int .i64 0,.slice none 0 0] 38 (0,0)):=by rw [hW];exact qa5 _ _ _ (by simp)
 have ho:W.ownsRow w.heap.size 38 4 (.slice (some ⟨w.heap.size,0,none⟩) 1 1) 1 [.int .i64 t.op,.string (bstr t.name),.int .i64 t.sort,v]:=by
  rw [hW];exact own_below (row1 w _ _ _ _) (b_.alloc n_ _)
 have aa:=z_ (qBf (N:=N) (lo:=lo) (B:=w.heap.size) w W w.heap.size 0 1 1 t v _ al n_ n_ ho o_ rfl hv hs);have HY:=z_ an;obtain ⟨A,c,rfl,_⟩:=HasR.shape hv rfl;obtain ⟨to,af⟩:=e_ (t.op);obtain ⟨tn,ag⟩:=e_ (t.name);obtain ⟨ts,ah⟩:=e_ (t.sort);obtain ⟨tl,ai⟩:=e_ (t.args.length);have aj:=z_ (And.intro af (And.intro ag (And.intro ah ai)));have HD:=z_ (termro.qas t);unfold aggT;rw [← af,← ag,← ah] at hW aa ⊢;rw [← ai] at hW aa ⊢;have HZ:=z_ am;clear hv hs al am an ho af ag ah ai;go_enter Tryz.func70,Tryz.ntmps70
 go_wp2_with fail
 rw [← hW];clear hW;simp only [Nat.zero_mul] at aa;refine aa.out.mono ?_;rintro e w7 ⟨rfl,⟨v7,S7,au,ao,ae,ap,ab,av⟩,ad,aq⟩;have hcell:∀ p,p<4→w7.cell? ⟨w.heap.size,p,none⟩=au[p]? := fun p hp=>ao.cellAt p o_
 have k0:=(hcell 0 o_).trans (ae 0 o_);have k1:=(hcell 1 o_).trans (ae 1 o_);have k2:=(hcell 2 o_).trans (ae 2 o_);have k3:=(hcell 3 o_).trans ap;simp at k0 k1 k2;have ac:=(ad.block (w.heap.size+1) Ba_ (by simp)).trans HY.out;have z0:=h_ w7 _ 0 _ _ _ ac;have z1:=h_ w7 _ 1 _ _ _ ac;have z2:=h_ w7 _ 2 _ _ _ ac;have z3:=h_ w7 _ 3 _ _ _ ac;have q0:=g_ w7 _ 0 _ _ ac;have q1:=g_ w7 _ 1 _ _ ac;have q2:=g_ w7 _ 2 _ _ ac;have q3:=g_ w7 _ 3 _ _ ac;have ak:=ad.size;rw [HD.out] at ab;obtain ⟨A7,c7,rfl⟩:=OT.shape ab;rw [← aj.out.2.2.2] at k3
 have aw:Hid (∀ u0 u1 u2 u3,∃ v' S,(Ending.returned (.agg #[.int .i64 to,.string (bstr tn),.int .i64 ts,.slice A7 tl c7]))=.returned (.agg #[.int .i64 to,.string (bstr tn),.int .i64 ts,v'])∧OT 38 (depth t) w.heap.size (st4 w7 (w.heap.size+1) u0 u1 u2 u3) v' t.args S∧Below w.heap.size w (st4 w7 (w.heap.size+1) u0 u1 u2 u3)):=z_ (fun u0 u1 u2 u3=>by
  refine ⟨.slice A7 tl c7,S7,rfl,?_,qwj aq o_ _ _ _ _⟩;rw [HD.out,aj.out.2.2.2]
  exact (qA9 ab (x:=w.heap.size+1) Ba_ u0 u1 u2 u3).mono Ba_)
 clear ao ae ap ab av ad aq hcell ak ac aa aj HD HY;go_wp2;refine bodyPost_ret (v:=.agg #[.int .i64 to,.string (bstr tn),.int .i64 ts,.slice A7 tl c7]) (by simp [results,Tryz.results70,go_sem,z0,z1,z2,z3]) rfl ?_;exact aw.out _ _ _ _
end termcy

namespace rebi
open mem dec rowl trm terml termb termt tmr rebp
theorem qti (n:Nat):0<n→n<2 ^ 64→1≤Lib.bitLen n∧2 ^ (Lib.bitLen n-1)≤n:=by
 induction n using Nat.strongRecOn with
 | ind n ih=>
  intro h0 h;have e:=Lib.bitLen_half n o_ h;by_cases h1:n=1
  ·subst h1
   exact ⟨by rw [e];omega,by decide⟩
  ·obtain ⟨a,b⟩:=ih (n / 2) o_ o_ o_
   rw [e];refine ⟨by omega,?_⟩;have e2:1+Lib.bitLen (n / 2)-1=(Lib.bitLen (n / 2)-1)+1:=o_;rw [e2,Nat.pow_succ];omega
set_option maxRecDepth 50000 in
theorem qo4 (Q:List Ent)(hQ:Q≠[])(hl:Q.length≤1048577)(B gp cap g o:Nat)(w:World)(h:w.ownsRow B 215 2 (.slice (some ⟨gp,0,none⟩) Q.length cap) Q.length (qbf Q))(ad:∀ f∈Q,¬ (f.g=g∧f.o=o))(ae:∀ f∈Q,Plain w f.g)(af:Plain w g):
  Calls Tryz.prog 159 #[.slice (some ⟨gp,0,none⟩) Q.length cap,.pointer (some ⟨g,o,none⟩)] w fun e w'=>e=.returned (.bool false)∧w'=w:=by
 have ag:0<Q.length:=List.length_pos_iff.2 hQ;obtain ⟨b1,b2⟩:=qti Q.length ag o_;have HL:=z_ (fun W=>bitl.qBh Q.length o_ W);obtain ⟨k,hk⟩:∃ k,Lib.bitLen Q.length=k+1:=⟨Lib.bitLen Q.length-1,by omega⟩;rw [hk] at b2 HL;have hp:2 ^ k≤Q.length:=by simpa using b2
 have aj:k<21:=by
  have h1:2 ^ k<2 ^ 21:=o_;exact (Nat.pow_lt_pow_iff_right o_).1 h1
 obtain ⟨p,aa⟩:=e_ (2 ^ k);have ao:0<p:=by rw [aa];exact Nat.two_pow_pos k
 rw [← aa] at hp;have ak:IntKind.u64.wrap ((Q.length:Nat):Int)=((Q.length:Nat):Int):=by simp only [IntKind.wrap,IntKind.bits,IntKind.signed];simp;omega
 have ap:wrap64 (((k+1:Nat):Int)-1)=(k:Int):=by rw [IntWalk.wrap64_in _ o_];omega
 have al:wrap64 ((k:Int)+1-1)=(k:Int):=by rw [IntWalk.wrap64_in _ o_];omega
 have aq:wrap64 ((2:Int) ^ k)=(p:Int):=by
  have e:(2:Int) ^ k=((2 ^ k:Nat):Int):=by simp
  rw [e,← aa,IntWalk.wrap64_in _ o_]
 obtain ⟨q,hq⟩:∃ q,p=q+1:=⟨p-1,by omega⟩;have au:wrap64 ((p:Int)-1)=(q:Int):=by rw [IntWalk.wrap64_in _ o_];omega
 have hi:Q.length-1-q<Q.length:=o_;have ab:=qro hi;rw [show Q.length-1-(Q.length-1-q)=q by omega,List.getElem?_eq_getElem hi,Option.map_some] at ab;have hx:=ad _ (List.getElem_mem hi);have ac:=ae _ (List.getElem_mem hi);generalize Q[Q.length-1-q]'hi=x at ab hx ac
 have s1:=(h.cellAt (q*2) o_).trans ab;obtain ⟨n,hn⟩:=e_ (Q.length);rw [← hn] at ak HL ⊢;have av:q<n:=o_;have i1:(0:Int)≤(q:Int):=o_;have i2:(q:Int)<(n:Int):=o_;have aw:(0:Int)≤(k:Int):=o_
 have ah:∀ n,(binOp .eql 117 (.pointer (some ⟨x.g,x.o,none⟩)) (.pointer (some ⟨g,o,none⟩))).run Tryz.prog n=.ok (.bool false) n∨n≠w:=fun n=>by
  by_cases ai:n=w
  ·subst ai
   obtain ⟨j0,am,ax,an,ay⟩:=info_parts qb1;obtain ⟨ca,ta,ha⟩:=ac;obtain ⟨cb,tb,hb⟩:=af;exact .inl (run_eql_ptr_other n Tryz.underlying117 am (by rw [an];omega) (fun e=>hx (by simpa using e)) ha hb)
  ·exact .inr ai
 have ah:=(ah w).resolve_right (fun h=>h rfl);clear h ad ab hi ae af ac hQ hn hp aa hq b1 b2 hk hl ag;go_enter Tryz.func159,Tryz.ntmps159
 go_wp2_with fail
 refine (HL.out _).mono ?_;rintro e w1 ⟨rfl,rfl⟩;go_wp2;go_ret;exact ⟨rfl,rfl⟩
end rebi
end Go.Proofs.YtiilamngcoegiaaGreat
