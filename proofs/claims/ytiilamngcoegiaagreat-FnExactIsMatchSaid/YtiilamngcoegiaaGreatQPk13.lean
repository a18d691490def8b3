/- parts -/
import Derived.Lib.SmallJoins
import Derived.ChangeArms
import Derived.Lib.SliceRun
import Derived.Test.YtiilamngcoegiaaGreatQPk17
namespace Go.Proofs.YtiilamngcoegiaaGreat
open Go.ChangeShapes Go.WideShapes Go.ChangeAt Go.RowKit
variable {w w' W:World}{lo N k n m j base c b:Nat}{v u:Value}{S:List Nat}{a:Addr}{unt:Int}{ass:Bool}{cs:List Value}{H:Type}{A:Option Addr}{e:TypeId}
set_option maxRecDepth 100000
namespace termop
open Go.Joins Go.ChangeShapes Go.WideShapes Go.ChangeAt Go.RowKit Go.Deep
open mem rowl trm terml termt termx
section
variable {H:Type} {enc:TypeId×Value→H} {W:World} {base:Nat}
theorem i64b{x:Int}(h:(Lit.int .i64 x).wf=true):I64 x:=by
 simp only [Lit.wf,Bool.and_eq_true,decide_eq_true_eq] at h;exact h
theorem qhn{α:Type}[Inhabited α]{R:qhq α}(hk:0<k){len:Nat}(hl:len≤m)(hm:m≤maxLen)(h:∀ j,j<len→∃ (x:α) (cs:List Value),(∀ i,i<k→W.cell? ((a.add (j*k)).add i)=some (cs.getD i undef))∧R 0 W cs x):
  ∃ L:List α,HasR R k 0 W (.slice (some a) len m) L:=by
 let f:Nat→α:=fun j=>if h':j<len then Classical.choose (h j h') else default
 have hf:∀ j,j<len→∃ cs:List Value,(∀ i,i<k→W.cell? ((a.add (j*k)).add i)=some (cs.getD i undef))∧R 0 W cs (f j):=by
  intro j hj;have:=Classical.choose_spec (h j hj);simpa only [f,dif_pos hj] using this
 refine ⟨(List.range len).map f,some a,m,by simp,by simpa using hl,hm,fun j hj=>?_⟩;have ab:j<len:=by simpa using hj
 obtain ⟨cs,h1,h2⟩:=hf j ab;have aa:((List.range len).map f).getD j default=f j:=by simp [List.getD,ab]
 obtain ⟨ag,ad,_⟩:=hf 0 o_;have ae:=ad 0 hk;obtain ⟨b,o,sp⟩:=a;have af:sp=none:=by simpa [Addr.add] using World.cell?_spot ae
 subst af;have ac:∀ i,i<k→W.cell? ⟨b,o+j*k+i,none⟩=some (cs.getD i undef):=by
  intro i hi;have:=h1 i hi;rw [Addr.add_lit,Addr.add_lit] at this;exact this
 exact ⟨b,o,cs,rfl,y_,World.block_lt_of_cell? W _ (ac 0 hk),ac,by rw [aa];exact h2⟩
theorem qly{y:DataW H×List MemPlace}(ht:DataW.trod enc Tryz.prog W base (fun _=>true) true n 32 cs=some y):
  ∃ (op:Int) (s:ByteArray) (so:Int) (va:Value) (n':Nat) (y':DataW H×List MemPlace),n=n'+1∧cs=[.int .i64 op,.string s,.int .i64 so,va]∧s.size≤maxLen∧I64 op∧I64 so∧DataW.trod enc Tryz.prog W base (fun _=>true) true n' 30 [va]=some y':=by
 have aa:Tryz.prog.cellsOf 3=1:=by kernel_rfl
 have ab:Tryz.prog.cellsOf 9=1:=by kernel_rfl
 have ac:Tryz.prog.cellsOf 30=1:=by kernel_rfl
 have hC:Tryz.prog.cellsOf 32=4:=by kernel_rfl
 obtain ⟨xs,n',hn,_,hl,hlen,hf⟩:=DataW.trod_struct Tryz.underlying32 ht;rw [hC] at hl;obtain ⟨c0,c1,c2,c3,rfl⟩:∃ c0 c1 c2 c3,cs=[c0,c1,c2,c3]:=by
  match cs,hl with
  | [c0,c1,c2,c3],_=>exact ⟨c0,c1,c2,c3,rfl⟩
 obtain ⟨y0,y1,y2,y3,rfl⟩:∃ y0 y1 y2 y3,xs=[y0,y1,y2,y3]:=by
  match xs,hlen with
  | [y0,y1,y2,y3],_=>exact ⟨y0,y1,y2,y3,rfl⟩
 have h0:DataW.trod enc Tryz.prog W base (fun _=>true) true n' 3 (([c0,c1,c2,c3].drop 0).take (Tryz.prog.cellsOf 3))=some y0:=hf 0 _ rfl;have h1:DataW.trod enc Tryz.prog W base (fun _=>true) true n' 9 (([c0,c1,c2,c3].drop 1).take (Tryz.prog.cellsOf 9))=some y1:=hf 1 _ rfl;have h2:DataW.trod enc Tryz.prog W base (fun _=>true) true n' 3 (([c0,c1,c2,c3].drop 2).take (Tryz.prog.cellsOf 3))=some y2:=hf 2 _ rfl;have h3:DataW.trod enc Tryz.prog W base (fun _=>true) true n' 30 (([c0,c1,c2,c3].drop 3).take (Tryz.prog.cellsOf 30))=some y3:=hf 3 _ rfl;rw [aa] at h0 h2;rw [ab] at h1;rw [ac] at h3;simp only [List.drop_zero,List.take_succ_cons,List.take_zero,List.drop_succ_cons] at h0 h1 h2 h3;obtain ⟨x0,e0,_,w0⟩:=DataW.trod_int Tryz.underlying3 h0;obtain ⟨s,e1,_,hs⟩:=DataW.trod_string Tryz.underlying9 h1;obtain ⟨x2,e2,_,w2⟩:=DataW.trod_int Tryz.underlying3 h2;simp only [List.cons.injEq,and_true] at e0 e1 e2;subst e0 e1 e2;exact ⟨x0,s,x2,c3,n',_,hn,rfl,hs,i64b w0,i64b w2,h3⟩
theorem qlz:∀ (n:Nat) {v:Value} {y:DataW H×List MemPlace},DataW.trod enc Tryz.prog W base (fun _=>true) true n 30 [v]=some y→∃ L:List TermM,HasTs n 0 W v L:=by
 intro n;induction n using Nat.strongRecOn with
 | _ n ih=>
  intro v y hf;have hC:Tryz.prog.cellsOf 32=4:=by kernel_rfl
  rcases DataW.trod_slice Tryz.underlying30 hf with ⟨hcs,hx⟩|⟨a,len,cap,elems,rest,k,hn,hcs,hx,hb,hl,hm,hlen,hel,_,_⟩
  ·simp at hcs
   subst hcs;exact ⟨[],HasR.nil _ _ _ Aa_ _⟩
  ·simp at hcs
   subst hcs;rw [hC] at hel;refine qhn o_ hl hm (fun j hj=>?_);have he:=hel j hj;rw [List.getElem?_eq_getElem o_] at he;obtain ⟨cs,hc,ht⟩:=Option.bind_eq_some_iff.1 he;obtain ⟨op,s,so,va,n',y',hk,rfl,hs,h1,h2,h3⟩:=qly ht;obtain ⟨L,hL⟩:=ih n' o_ h3;obtain ⟨_,af,aa⟩:=World.cells?_some hc;have ab:=aa 0 o_;have ac:=aa 1 o_;have ad:=aa 2 o_;have ae:=aa 3 o_;refine ⟨.mk op s.data.toList so L,[.int .i64 op,.string s,.int .i64 so,va],fun i hi=>?_,?_⟩
   ·match i,hi with
    | 0,_=>rw [ab];rfl
    | 1,_=>rw [ac];rfl
    | 2,_=>rw [ad];rfl
    | 3,_=>rw [ae];rfl
   ·obtain ⟨m,rfl⟩:∃ m,n=m+1:=⟨k,hn⟩
    exact ⟨va,by show _=[_,Value.string (bstr s.data.toList),_,_];rw [qbk];rfl,hL.up o_,by show (s.data.toList).length≤_;rw [← qbj,qbk];exact hs,h1,h2⟩
end
theorem qra{enc:TypeId×Value→H}{d:DataW H}{p:List MemPlace}(aa:Value.okWide Tryz.prog W .any base 32 v)(hd:DataW.Trod enc Tryz.prog W 0 (fun _=>true) true 32 v d p):
  ∃ (n:Nat) (t:TermM) (va:Value),v=aggT t va∧HasTs n 0 W va t.args∧Bnd t:=by
 have hC:Tryz.prog.cellsOf 32=4:=by kernel_rfl
 obtain ⟨cs,rfl,hsz⟩:=okWide_struct Tryz.underlying32 aa;obtain ⟨ab,hf⟩:=hd;obtain ⟨op,s,so,va,n',y',hk,hcs,hs,h1,h2,h3⟩:=qly hf;obtain ⟨L,hL⟩:=qlz n' h3;refine ⟨n',.mk op s.data.toList so L,va,?_,hL,by show (s.data.toList).length≤_;rw [← qbj,qbk];exact hs,h1,h2⟩;have:cs=#[.int .i64 op,.string s,.int .i64 so,va]:=by
  simp only [Value.cells] at hcs;exact Array.ext' (by rw [hcs])
 rw [this];show _=Value.agg #[.int .i64 op,.string (bstr s.data.toList),.int .i64 so,va];rw [qbk]
end termop

namespace termcl
open mem dec rowl trm terml termb termt
def four (L:List TermM)(vs:Nat→Value)(j:Nat):List Value:=[.int .i64 (L.getD j default).op,.string (bstr (L.getD j default).name),.int .i64 (L.getD j default).sort,vs j]
def fours (L:List TermM)(vs:Nat→Value)(m:Nat):List Value:=(List.range m).flatMap (four L vs)
theorem qkc (L:List TermM)(vs:Nat→Value)(m:Nat):fours L vs (m+1)=fours L vs m++four L vs m:=by
 unfold fours;rw [List.range_succ,List.flatMap_append];simp
theorem qeh (L:List TermM)(vs:Nat→Value):∀ m,(fours L vs m).length=m*4
 | 0=>rfl
 | m+1=>by rw [qkc,List.length_append,qeh L vs m];simp [four];omega
theorem c68_{p:Prop}(h:p:=by
 rw [List.getElem?_append_right o_,hl,Nat.add_sub_cancel_left];rfl
):p:=h
theorem qi3 (L:List TermM)(vs:Nat→Value):∀ (m j:Nat),j<m→qc6 (fours L vs m) j (L.getD j default) (vs j)
 | 0,j,h=>by omega
 | m+1,j,h=>by
  have hl:=qeh L vs m;unfold qc6;rw [qkc];by_cases hj:j<m
  ·obtain ⟨a,b,c,d⟩:=qi3 L vs m j hj
   exact ⟨by rw [List.getElem?_append_left o_];exact a,by rw [List.getElem?_append_left o_];exact b,by rw [List.getElem?_append_left o_];exact c,by rw [List.getElem?_append_left o_];exact d⟩
  ·obtain rfl:j=m:=o_
   refine ⟨?_,?_,?_,?_⟩
   ·rw [List.getElem?_append_right o_,hl,Nat.sub_self];rfl
   ·exact c68_
   ·exact c68_
   ·exact c68_
theorem qvi{L:List TermM}(h:HasTs (n+1) lo w (.slice A m c) L):
  ∃ vs:Nat→Value,(∀ j,j<m→HasTs n lo w (vs j) (L.getD j default).args∧Bnd (L.getD j default))∧∀ g o,A=some ⟨g,o,none⟩→∀ j x,(fours L vs m)[j]? =some x→w.cell? ((⟨g,o,none⟩:Addr).add j)=some x:=by
 have aa:∀ j,j<m→∃ va,(HasTs n lo w va (L.getD j default).args∧Bnd (L.getD j default))∧∀ g o,A=some ⟨g,o,none⟩→w.cell? ⟨g,o+j*4,none⟩=some (.int .i64 (L.getD j default).op)∧w.cell? ⟨g,o+j*4+1,none⟩=some (.string (bstr (L.getD j default).name))∧w.cell? ⟨g,o+j*4+2,none⟩=some (.int .i64 (L.getD j default).sort)∧w.cell? ⟨g,o+j*4+3,none⟩=some va:=by
  intro j hj;obtain ⟨k,g,o,A2,c2,hk,hA,_,_,c0,c1,ab,c3,hh,hb⟩:=qal h hj;obtain rfl:k=n:=o_;refine ⟨_,⟨hh,hb⟩,fun g' o' e=>?_⟩;rw [hA] at e;simp only [Option.some.injEq,Addr.mk.injEq,and_true] at e;obtain ⟨rfl,rfl⟩:=e;exact ⟨c0,c1,ab,c3⟩
 refine ⟨fun j=>if hj:j<m then Classical.choose (aa j hj) else undef,fun j hj=>?_,fun g o hA p x hx=>?_⟩
 ·simp only [hj,dif_pos]
  exact (Classical.choose_spec (aa j hj)).1
 ·have ac:p<m*4:=by have:=(List.getElem?_eq_some_iff.1 hx).1;rwa [qeh] at this
  obtain ⟨q,i,rfl,hi⟩:∃ q i,p=q*4+i∧i<4:=⟨p / 4,p % 4,by omega,by omega⟩;have hj:q<m:=o_;obtain ⟨a,b,c,d⟩:=qi3 L (fun j=>if hj:j<m then Classical.choose (aa j hj) else undef) m q hj;simp only [hj,dif_pos] at d;obtain ⟨e0,e1,e2,e3⟩:=(Classical.choose_spec (aa q hj)).2 g o hA;rw [Addr.add_lit];match i,hi with
  | 0,_=>rw [Nat.add_zero] at hx ⊢;rw [a] at hx;injection hx with hx;subst hx;exact e0
  | 1,_=>rw [b] at hx;injection hx with hx;subst hx;rw [← Nat.add_assoc];exact e1
  | 2,_=>rw [c] at hx;injection hx with hx;subst hx;rw [← Nat.add_assoc];exact e2
  | 3,_=>rw [d] at hx;injection hx with hx;subst hx;rw [← Nat.add_assoc];exact e3
theorem qvj (L:List TermM)(vs:Nat→Value)(m:Nat)(h:∀ j,j<m→(vs j).oneCell'=true):∀ x∈fours L vs m,x.oneCell'=true:=by
 intro x hx;obtain ⟨j,hj,hx⟩:=List.mem_flatMap.1 hx;simp only [four,List.mem_cons,List.not_mem_nil,or_false] at hx;rcases hx with rfl|rfl|rfl|rfl
 ·rfl
 ·rfl
 ·rfl
 ·exact h j (by simpa using hj)
def qj8 (n lo:Nat)(wl:World)(L:List TermM)(w:World)(e:Ending)(w':World):Prop:=∃ (v:Value) (vs:Nat→Value),e=.returned v∧w'.ownsRow w.heap.size 38 4 v L.length (fours L vs L.length)∧(∀ j,j<L.length→HasTs n lo wl (vs j) (L.getD j default).args∧Bnd (L.getD j default))∧Below w.heap.size w w'
set_option maxRecDepth 20000 in
theorem qvk{L:List TermM}{wl:World}(ac:Below wl.heap.size wl w)(h:HasTs (n+1) lo wl v L)(hl:L.length≤1073741824):
  Calls Tryz.prog 126 #[v] w (qj8 n lo wl L w):=by
 obtain ⟨A,c,rfl,h⟩:=HasR.shape h rfl;obtain ⟨j0,ah,ai,aj,ak⟩:=info_parts qb1;obtain ⟨vs,h1,h2⟩:=qvi h;have H1:=z_ h1;have HL:=z_ (qeh L vs L.length);have HO:=z_ (qvj L vs L.length (fun j hj=>by obtain ⟨A',c',e,_⟩:=HasR.shape (h1 j hj).1 rfl;rw [e];rfl));cases A with
 | none=>
  have h0:L.length=0:=by
   by_cases hz:L.length=0
   ·exact hz
   ·obtain ⟨_,_,_,_,_,_,hA,_⟩:=qal h (j:=0) o_
    cases hA
  have HR:Hid (qj8 n lo wl L w (.returned (.slice none 0 0)) w):=z_ ⟨_,vs,rfl,by rw [h0];exact ⟨rfl,.inl ⟨rfl,rfl⟩⟩,H1.out,Below.refl _ _⟩;have he:∀ W,(binOp .eql 36 (.slice none L.length c) (.slice none 0 0)).run Tryz.prog W=.ok (.bool true) W:=fun W=>Lib.run_eql_slice_nil W 36 38 none L.length c 0 0 Tryz.underlying36
  clear h h1 h2 H1 HL HO h0 ac;go_enter Tryz.func126,Tryz.ntmps126
  go_wp2;go_ret;exact HR.out
 | some a=>
  obtain ⟨g,o,sp⟩:=a;obtain ⟨q,hq⟩:=e_ (L.length)
  have af:q≠0→sp=none:=fun hz=>by
   obtain ⟨_,g',o',_,_,_,hA,_⟩:=qal h (j:=0) o_;simp only [Option.some.injEq,Addr.mk.injEq] at hA;exact hA.2.2
  have H2:Hid (∀ (j:Nat) (x:Value),(fours L vs q)[j]? =some x→w.cell? ((⟨g,o,sp⟩:Addr).add j)=some x):=z_ (fun j x hx=>by
   have al:=(List.getElem?_eq_some_iff.1 hx).1;rw [qeh] at al;obtain rfl:=af o_;have h3:=h2 g o rfl j x (by rw [← hq];exact hx)
   exact (ac.cell (World.block_lt_of_cell? wl _ h3)).trans h3)
  have HQ:=z_ hq;rw [← hq] at HL HO hl ⊢;clear h h1 h2 af hq ac;have he:∀ W,(binOp .eql 36 (.slice (some ⟨g,o,sp⟩) q c) (.slice none 0 0)).run Tryz.prog W=.ok (.bool false) W:=fun W=>Lib.run_eql_slice_nil W 36 38 (some ⟨g,o,sp⟩) q c 0 0 Tryz.underlying36
  go_enter Tryz.func126,Tryz.ntmps126
  have ag:(w.alloc (.cells #[] 38)).ownsRow w.heap.size 38 4 (.slice (some ⟨w.heap.size,0,none⟩) 0 0) 0 []:=World.ownsRow_lit (e:=38) (size:=4) w #[] 0 n_ Aa_ rfl;have HF:=z_ ag;clear ag
  go_wp2_with (at_builtin;refine wpList_append_d rfl _ _ _ rfl w.heap.size 38 j0 _ 4 56 Tryz.underlying36 ah ai aj ak rfl o_ w.heap.size 0 0 [] rfl HF.out ⟨g,o,sp⟩ q c (fours L vs q) rfl HL.out (fun j x hx=>by
   have hc:=H2.out j x hx
   exact (((Below.refl w.heap.size w).alloc n_ _).cell (World.block_lt_of_cell? w _ hc)).trans hc) HO.out Aa_ o_ (by simp) ?_;intro g4 ad w4 aa ab hg4 am ae)
  have HR:Hid (qj8 n lo wl L w (.returned (.slice (some ⟨g4,0,none⟩) (0+q) ad)) w4):=z_ (by
   refine ⟨_,vs,rfl,?_,H1.out,(b_.alloc n_ _).grown ab (by simp) (by intro k hk;cases hk;exact Nat.le_refl _)⟩;rw [Nat.zero_add] at aa ⊢;rw [← HQ.out]
   exact aa)
  clear aa ab hg4 ae;rw [Nat.zero_add] at HR;go_wp2;go_ret;exact HR.out
end termcl

namespace tma
open mem dec rowl trm trmv terml termt termcl
def qd5 (unt:Int)(ass:Bool)(k:Nat)(a:TermM):List TermM:=if unt≠0∧a.op=unt-1 then [] else if ass=true∧a.op=(k:Int) then a.args else [a]
def partsM (unt:Int)(ass:Bool)(k:Nat)(L:List TermM):List TermM:=L.flatMap (qd5 unt ass k)
theorem qpe (unt:Int)(ass:Bool)(k:Nat)(L:List TermM)(a:TermM):partsM unt ass k (L++[a])=partsM unt ass k L++qd5 unt ass k a:=by simp [partsM]
theorem qex{a:TermM}(h:unt≠0∧a.op=unt-1):qd5 unt ass k a=[]:=by rw [qd5,if_pos h]
theorem qey{a:TermM}(h:¬ (unt≠0∧a.op=unt-1))(h2:ass=true∧a.op=(k:Int)):qd5 unt ass k a=a.args:=by rw [qd5,if_neg h,if_pos h2]
theorem qdo{a:TermM}(h:¬ (unt≠0∧a.op=unt-1))(h2:¬ (ass=true∧a.op=(k:Int))):qd5 unt ass k a=[a]:=by rw [qd5,if_neg h,if_neg h2]
theorem qkd (unt:Int)(ass:Bool)(k:Nat)(L:List TermM)(h:j<L.length):partsM unt ass k (L.take (j+1))=partsM unt ass k (L.take j)++qd5 unt ass k (L.getD j default):=by
 rw [List.take_succ_eq_append_getElem h,qpe];simp [List.getD,List.getElem?_eq_getElem h]
theorem qj9 (unt:Int)(ass:Bool)(k:Nat)(L:List TermM)(j:Nat):(partsM unt ass k (L.take j)).length≤(partsM unt ass k L).length:=by
 have e:partsM unt ass k L=partsM unt ass k (L.take j)++partsM unt ass k (L.drop j):=by
  unfold partsM;rw [← List.flatMap_append,List.take_append_drop]
 rw [e,List.length_append];omega
noncomputable def qc5 (unt:Int)(ass com:Bool)(k:Nat)(L:List TermM):TermM:=
 if unt≠0∧(partsM unt ass k L).length=0 then .mk (unt-1) [] 0 [] else if unt≠0∧(partsM unt ass k L).length=1 then (partsM unt ass k L).getD 0 default
 else .mk k [] 0 (if com=true∧(partsM unt ass k L).length≤7 then qcj (partsM unt ass k L) else partsM unt ass k L)
def rowV (R:List (TermM×Value)):List Value:=R.flatMap fun x=>[.int .i64 x.1.op,.string (bstr x.1.name),.int .i64 x.1.sort,x.2]
theorem qbz (R Q:List (TermM×Value)):rowV (R++Q)=rowV R++rowV Q:=by simp [rowV]
theorem qbr:∀ R:List (TermM×Value),(rowV R).length=R.length*4
 | []=>rfl
 | x::R=>by
  have:=qbr R;simp only [rowV,List.flatMap_cons,List.length_append,List.length_cons,List.length_nil] at this ⊢;omega
theorem qm0 (R:List (TermM×Value))(h:∀ x∈R,x.2.oneCell'=true):∀ v∈rowV R,v.oneCell'=true:=by
 intro v hv;simp only [rowV,List.mem_flatMap] at hv;obtain ⟨x,hx,hv⟩:=hv;simp only [List.mem_cons,List.not_mem_nil,or_false] at hv;rcases hv with rfl|rfl|rfl|rfl
 ·rfl
 ·rfl
 ·rfl
 ·exact h x hx
theorem qhn{L:List TermM}(h:HasTs (n+1) lo w (.slice A m c) L)(hm:m=L.length):
  ∃ R:List (TermM×Value),R.map Prod.fst=L∧(∀ x∈R,HasTs n lo w x.2 x.1.args∧Bnd x.1)∧∀ g o,A=some ⟨g,o,none⟩→∀ j x,(rowV R)[j]? =some x→w.cell? ((⟨g,o,none⟩:Addr).add j)=some x:=by
 obtain ⟨vs,h1,h2⟩:=qvi h;refine ⟨(List.range m).map fun j=>(L.getD j default,vs j),?_,?_,?_⟩
 ·apply List.ext_getElem
  ·simp [hm]
  ·intro i h3 h4
   simp [List.getD,List.getElem?_eq_getElem h4]
 ·intro x hx
  simp only [List.mem_map,List.mem_range] at hx;obtain ⟨j,hj,rfl⟩:=hx;exact h1 j hj
 ·have e:rowV ((List.range m).map fun j=>(L.getD j default,vs j))=fours L vs m:=by
   simp only [rowV,fours,List.flatMap_map];rfl
  rw [e];exact h2
end tma

namespace tmr
open mem dec rowl trm trmv terml termb termt tma
def Sub (wl w:World):Prop:=∀ a u,wl.cell? a=some u→w.cell? a=some u
theorem Sub.refl (w:World):Sub w w:=fun _ _ h=>h
theorem Sub.trans{a b c:World}(h:Sub a b)(k:Sub b c):Sub a c:=fun x u hx=>k x u (h x u hx)
theorem Sub.below (hb:Below w.heap.size w w'):Sub w w':=fun _ _ h=>(hb.cell (l_ h)).trans h
theorem qbh:∀ (n:Nat) {lo:Nat} {wl w:World} {v:Value} {L:List TermM},Sub wl w→HasTs n lo wl v L→HasTs n lo w v L
 | 0,lo,wl,w,v,L,hs,⟨A,c,e,h1,h2,h3⟩=>⟨A,c,e,h1,h2,fun j hj=>by
  obtain ⟨g,o,cs,e,hl,hg,hc,hr⟩:=h3 j hj
  exact hr.elim⟩
 | n+1,lo,wl,w,v,L,hs,⟨A,c,e,h1,h2,h3⟩=>⟨A,c,e,h1,h2,fun j hj=>by
  obtain ⟨g,o,cs,e,hl,hg,hc,va,ab,hh,r⟩:=h3 j hj;have aa:∀ i,i<4→w.cell? ⟨g,o+j*4+i,none⟩=some (cs.getD i undef):=fun i hi=>hs _ _ (hc i hi)
  exact ⟨g,o,cs,e,hl,l_ (aa 0 o_),aa,va,ab,qbh n hs hh,r⟩⟩
theorem qre:∀ (n m:Nat) {lo lo':Nat} {w:World} {v:Value} {L M:List TermM},HasTs n lo w v L→HasTs m lo' w v M→L=M
 | n,m,lo,lo',w,v,L,M,h,h'=>by
  obtain ⟨A,c,rfl,h1,h2,h3⟩:=h;obtain ⟨A',c',e,ah,ai,ae⟩:=h';simp only [Value.slice.injEq] at e;obtain ⟨rfl,e2,rfl⟩:=e;apply List.ext_getElem e2
  intro j hj ac;obtain ⟨g,o,cs,e,_,_,hc,hr⟩:=h3 j hj;obtain ⟨g',o',aj,e',_,_,aa,ad⟩:=ae j ac;rw [e] at e';simp only [Option.some.injEq,Addr.mk.injEq,and_true] at e';obtain ⟨rfl,rfl⟩:=e';rw [qai hj] at hr;rw [qai ac] at ad;match n,m,hr,ad with
  | n+1,m+1,⟨va,af,hh,_⟩,⟨ak,ab,ag,_⟩=>
   subst af ab;have a0:=(hc 0 o_).symm.trans (aa 0 o_);have a1:=(hc 1 o_).symm.trans (aa 1 o_);have a2:=(hc 2 o_).symm.trans (aa 2 o_);have a3:=(hc 3 o_).symm.trans (aa 3 o_);simp at a0 a1 a2 a3;subst a3;have a4:=qre n m hh ag;have e1:=TermM.eta L[j];have e2:=TermM.eta M[j];rw [← e1,← e2,a0,qxg a1,a2,a4]
def qb4 (S:List Nat)(w:World):World:={ w with heap:=w.heap.mapIdx fun i o=>if i∈S then .cells #[] 3 else o }
theorem qez (S:List Nat)(w:World):(qb4 S w).heap.size=w.heap.size:=by simp [qb4]
theorem qgh (h:k ∉ S):(qb4 S w).heap[k]? =w.heap[k]? := by
 simp only [qb4,Array.getElem?_mapIdx];cases w.heap[k]? with
 | none=>rfl
 | some o=>simp [h]
theorem qyt (h:k∈S)(o:Nat):(qb4 S w).cell? ⟨k,o,none⟩=none:=by
 by_cases hk:k<w.heap.size
 ·have e:(qb4 S w).heap[k]? =some (.cells #[] 3):=by
   simp only [qb4,Array.getElem?_mapIdx,Array.getElem?_eq_getElem hk];simp [h]
  simp [World.cell?,e]
 ·have e:(qb4 S w).heap[k]? =none:=Array.getElem?_eq_none (by rw [qez];omega)
  simp [World.cell?,e]
theorem qf0 (h:(qb4 S w).cell? a=some u):a.block ∉ S∧w.cell? a=some u:=by
 have aa:=World.cell?_spot h;obtain ⟨b,o,sp⟩:=a;obtain rfl:sp=none:=aa;by_cases hb:b∈S
 ·rw [qyt hb] at h;cases h
 ·exact ⟨hb,(World.cell?_of_block (a:=⟨b,o,none⟩) (qgh hb)).symm.trans h⟩
theorem qh4 (hb:a.block ∉ S)(h:w.cell? a=some u):(qb4 S w).cell? a=some u:=(World.cell?_of_block (a:=a) (qgh hb)).trans h
theorem qdq (S:List Nat)(w:World):Sub (qb4 S w) w:=fun _ _ h=>(qf0 h).2
theorem qB8 (h:Chg S w w'):Sub (qb4 S w) w':=fun a u hx=>by
 obtain ⟨h1,h2⟩:=qf0 hx;exact (World.cell?_of_block (a:=a) (h.block _ (l_ h2) h1)).trans h2
theorem qvs (h:Chg S w w'):Sub (qb4 S w) (qb4 S w'):=fun a u hx=>qh4 (qf0 hx).1 (qB8 h a u hx)
theorem qnt (hb:Below w.heap.size w w')(hS:∀ k∈S,w.heap.size≤k):Sub w (qb4 S w'):=fun a u hx=>by
 have aa:=l_ hx;exact qh4 (fun hm=>by have:=hS _ hm;omega) (Sub.below hb a u hx)
theorem qki (hS:∀ k∈S,k<lo):Kept lo w (qb4 S w):=⟨by rw [qez];exact Nat.le_refl _,fun k hk _=>qgh (fun hm=>by have:=hS k hm;omega)⟩
abbrev p0:TermM×Value:=(default,undef)
theorem qh5:∀ (R:List (TermM×Value)) (j:Nat),j<R.length→qc6 (rowV R) j (R.getD j p0).1 (R.getD j p0).2
 | [],_,h=>by simp at h
 | x::R,0,_=>⟨rfl,rfl,rfl,rfl⟩
 | x::R,j+1,h=>by
  obtain ⟨a,b,c,d⟩:=qh5 R j Bg_;have e:rowV (x::R)=[.int .i64 x.1.op,.string (bstr x.1.name),.int .i64 x.1.sort,x.2]++rowV R:=by simp [rowV]
  have g:(x::R).getD (j+1) p0=R.getD j p0:=by simp
  rw [e,g]
  have aa:∀ i y,(rowV R)[j*4+i]? =some y→([Value.int .i64 x.1.op,.string (bstr x.1.name),.int .i64 x.1.sort,x.2]++rowV R)[(j+1)*4+i]? =some y:=fun i y hy=>by
   rw [List.getElem?_append_right (by simp;omega)];have:(j+1)*4+i - [Value.int .i64 x.1.op,.string (bstr x.1.name),.int .i64 x.1.sort,x.2].length=j*4+i:=by simp;omega
   rw [this];exact hy
  exact ⟨aa 0 _ a,aa 1 _ b,aa 2 _ c,aa 3 _ d⟩
theorem qrf{R:List (TermM×Value)}(h:j<R.length):(R.map Prod.fst).getD j default=(R.getD j p0).1:=by
 simp [List.getD,List.getElem?_eq_getElem h]
theorem qph{R:List (TermM×Value)}(h:j<R.length):R.getD j p0∈R:=by rw [List.getD_eq_getElem?_getD,List.getElem?_eq_getElem h];exact List.getElem_mem _
abbrev El (N lo:Nat)(wl:World)(x:TermM×Value):Prop:=HasTs N lo wl x.2 x.1.args∧Bnd x.1
def RowIn (N lo:Nat)(wl w:World)(v:Value)(R:List (TermM×Value)):Prop:=
 ∃ A c,v=.slice A R.length c∧R.length≤c∧c≤maxLen∧(R≠[]→∃ g o,A=some ⟨g,o,none⟩∧∀ j x,(rowV R)[j]? =some x→w.cell? ((⟨g,o,none⟩:Addr).add j)=some x)∧∀ x∈R,El N lo wl x
theorem RowIn.shape{wl:World}{R:List (TermM×Value)}(h:RowIn N lo wl w v R)(hm:m=R.length):∃ A c,v=.slice A m c∧RowIn N lo wl w (.slice A m c) R∧m≤9223372036854775807:=by
 subst hm;obtain ⟨A,c,rfl,h'⟩:=h;exact ⟨A,c,rfl,⟨A,c,rfl,h'⟩,by have:=h'.1;have:=h'.2.1;unfold maxLen at this;omega⟩
theorem RowIn.at {N lo:Nat}{wl w:World}{A:Option Addr}{m c:Nat}{R:List (TermM×Value)}(h:RowIn N lo wl w (.slice A m c) R){j:Nat}(hj:j<R.length):
  ∃ g o B cb,A=some ⟨g,o,none⟩∧g<w.heap.size∧w.cell? ⟨g,o+j*4,none⟩=some (.int .i64 (R.getD j p0).1.op)∧w.cell? ⟨g,o+j*4+1,none⟩=some (.string (bstr (R.getD j p0).1.name))∧w.cell? ⟨g,o+j*4+2,none⟩=some (.int .i64 (R.getD j p0).1.sort)∧
   w.cell? ⟨g,o+j*4+3,none⟩=some (.slice B (R.getD j p0).1.args.length cb)∧(R.getD j p0).2=.slice B (R.getD j p0).1.args.length cb∧El N lo wl (R.getD j p0):=by
 obtain ⟨A',c',e,_,_,h2,h3⟩:=h;simp only [Value.slice.injEq] at e;obtain ⟨rfl,_,rfl⟩:=e;obtain ⟨g,o,e,hc⟩:=h2 (fun e=>by rw [e] at hj;simp at hj);have hE:=h3 _ (qph hj);obtain ⟨B,cb,eB,_⟩:=HasR.shape hE.1 rfl;obtain ⟨a,b,c,d⟩:=qh5 R j hj
 have aa:∀ i y,(rowV R)[j*4+i]? =some y→w.cell? ⟨g,o+j*4+i,none⟩=some y:=fun i y hy=>by
  have:=hc _ _ hy;rw [Addr.add_lit] at this;rwa [Nat.add_assoc]
 have k0:=aa 0 _ a;exact ⟨g,o,B,cb,e,l_ k0,k0,aa 1 _ b,aa 2 _ c,by rw [← eB];exact aa 3 _ d,eB,hE⟩
theorem RowIn.has{wl:World}{R:List (TermM×Value)}(hs:Sub wl w)(h:RowIn N lo wl w v R):HasTs (N+1) 0 w v (R.map Prod.fst):=by
 obtain ⟨A,c,rfl,h'⟩:=h.shape rfl;have hR:=h'.1;obtain ⟨A',c',e,h1,h2,_⟩:=hR;simp only [Value.slice.injEq] at e;obtain ⟨rfl,_,rfl⟩:=e;refine ⟨A,c,by rw [List.length_map],by rw [List.length_map];exact h1,h2,fun j hj=>?_⟩;rw [List.length_map] at hj;obtain ⟨g,o,B,cb,e,hg,c0,c1,c2,c3,e2,hE⟩:=h'.1.at hj;rw [qrf hj];refine ⟨g,o,[.int .i64 (R.getD j p0).1.op,.string (bstr (R.getD j p0).1.name),.int .i64 (R.getD j p0).1.sort,(R.getD j p0).2],e,y_,hg,fun i hi=>?_,(R.getD j p0).2,rfl,(qbh N hs hE.1).mono (qa7 N) y_,hE.2⟩;match i,hi with
 | 0,_=>exact c0
 | 1,_=>exact c1
 | 2,_=>exact c2
 | 3,_=>rw [e2];exact c3
theorem RowIn.wl{wl aa:World}{R:List (TermM×Value)}(hs:Sub wl aa)(h:RowIn N lo wl w v R):RowIn N lo aa w v R:=by
 obtain ⟨A,c,e,h1,h2,h3,h4⟩:=h;exact ⟨A,c,e,h1,h2,h3,fun x hx=>⟨qbh N hs (h4 x hx).1,(h4 x hx).2⟩⟩
theorem RowIn.sub{wl:World}{R:List (TermM×Value)}(hs:Sub w w')(h:RowIn N lo wl w v R):RowIn N lo wl w' v R:=by
 obtain ⟨A,c,e,h1,h2,h3,h4⟩:=h;refine ⟨A,c,e,h1,h2,fun aa=>?_,h4⟩;obtain ⟨g,o,e,hc⟩:=h3 aa;exact ⟨g,o,e,fun j x hx=>hs _ _ (hc j x hx)⟩
theorem RowIn.own{wl:World}{R:List (TermM×Value)}(ho:w.ownsRow b e 4 v R.length (rowV R))(hE:∀ x∈R,El N lo wl x):RowIn N lo wl w v R:=by
 rcases ho.2 with ⟨rfl,h0⟩|⟨g,cap,cur,rfl,hb,hg,hnc,hcm,hcs,htake⟩
 ·have hR:R=[]:=List.eq_nil_of_length_eq_zero h0
  subst hR;exact ⟨none,0,rfl,Nat.le_refl _,by unfold maxLen;omega,fun ab=>absurd rfl ab,hE⟩
 ·refine ⟨_,cap,rfl,hnc,hcm,fun _=>⟨g,0,rfl,fun j x hx=>?_⟩,hE⟩
  have aa:=(List.getElem?_eq_some_iff.1 hx).1;rw [qbr] at aa;rw [Addr.add_lit,Nat.zero_add,ho.cellAt j aa,hx]
theorem qvt{wl wz:World}{R:List (TermM×Value)}(ho:w.ownsRow b e 4 v R.length (rowV R))(hE:∀ x∈R,El N lo wl x)(ac:lo≤b)(hs:Sub wl wz)(hk:Kept b w wz):HasTs (N+1) lo wz v (R.map Prod.fst):=by
 rcases ho.2 with ⟨rfl,h0⟩|⟨g,cap,cur,rfl,hb,hg,hnc,hcm,hcs,htake⟩
 ·have hR:R=[]:=List.eq_nil_of_length_eq_zero h0
  subst hR;exact HasR.nil _ _ _ Aa_ _
 ·have ad:=(q_ hg)
  refine ⟨_,cap,by rw [List.length_map],by rw [List.length_map];exact hnc,hcm,fun j hj=>?_⟩;rw [List.length_map] at hj;rw [qrf hj];obtain ⟨a,b',c,d⟩:=qh5 R j hj;have ab:=hE _ (qph hj)
  have aa:∀ i y,i<4→(rowV R)[j*4+i]? =some y→wz.cell? ⟨g,0+j*4+i,none⟩=some y:=fun i y hi hy=>by
   rw [hk.cell hb ad,Nat.zero_add,ho.cellAt _ o_,hy]
  have k0:=aa 0 _ o_ a;refine ⟨g,0,[.int .i64 (R.getD j p0).1.op,.string (bstr (R.getD j p0).1.name),.int .i64 (R.getD j p0).1.sort,(R.getD j p0).2],rfl,Nat.le_trans ac hb,l_ k0,fun i hi=>?_,(R.getD j p0).2,rfl,qbh N hs ab.1,ab.2⟩;match i,hi with
  | 0,_=>exact k0
  | 1,_=>exact aa 1 _ o_ b'
  | 2,_=>exact aa 2 _ o_ c
  | 3,_=>exact aa 3 _ o_ d
end tmr

namespace tmb
open mem dec rowl trm terml termb termt tma tmr gramo tsk tsl
theorem c75_{p:Prop}(h:p:=by
 clear aa ac aJ ak;go_wp2;go_roundw
 case rel=>exact ⟨j+1,R++R2,by go_num,by omega,ag,aH,aK,aM,aL⟩
 case measure=>simp [intOf];omega
):p:=h
set_option maxRecDepth 50000 in
set_option maxHeartbeats 8000000 in
theorem qpo (nm:List UInt8)(Ad:Option Addr)(dn cd:Nat)(a b:Bool)(u:Int)(hu:I64 u)(bc:0≤u)(i s0 s1 s2 s3 s4:Nat)(R0:List (TermM×Value))(va:Value)(wl w:World)(hs:Sub wl w)(h:RowIn N lo wl w va R0)(aN:∀ x∈R0,a=true→x.1.op=(i:Int)→x.1.args≠[])(hsz:(partsM u a i (R0.map Prod.fst)).length≤1048576):
  Calls Tryz.prog 200 #[aggE nm Ad dn cd a b u i s0 s1 s2 s3 s4,va] w fun e w'=>∃ (v:Value) (R:List (TermM×Value)),e=.returned v∧R.map Prod.fst=partsM u a i (R0.map Prod.fst)∧(∀ x∈R,El N lo wl x)∧w'.ownsRow (w.heap.size+1) 38 4 v R.length (rowV R)∧(R=[]→v=.slice none 0 0)∧Below w.heap.size w w':=by
 have aO:∀ j,j≤(R0.map Prod.fst).length→(partsM u a i ((R0.map Prod.fst).take j)).length≤1048576:=fun j _=>Nat.le_trans (qj9 u a i (R0.map Prod.fst) j) hsz
 obtain ⟨m,hm⟩:=e_ (R0.length);obtain ⟨A,c,rfl,h,br⟩:=h.shape hm;have bd:=z_ h;have be:=z_ aO;have bf:=z_ aN;have HM:=z_ hm;have az:=z_ hs;obtain ⟨j0,aP,aQ,aR,aS⟩:=info_parts qb1;obtain ⟨W,hW⟩:=e_ (w.alloc (.cells #[.string (bstr nm),.slice Ad dn cd,.bool a,.bool b,.int .i64 u,.int .i64 (i:Int),.int .i64 (s0:Int),.int .u16 (s1:Int),.int .u16 (s2:Int),.int .u16 (s3:Int),.int .u16 (s4:Int)] 181));have aT:=fr1_ hW;have aU:C11 w.heap.size nm Ad dn cd a b u i s0 s1 s2 s3 s4 W:=by
  rw [hW];exact qp8 (termt.qa5 _ _ _ rfl)
 have aV:=fr3_ hW;have am:=z_ aT;have aW:=z_ aU;have bg:=z_ aV;have bh:Hid (W.ownsRow W.heap.size 38 4 (.slice none 0 0) 0 (rowV [])):=z_ ⟨rfl,.inl ⟨rfl,rfl⟩⟩;clear h aO hsz aN hm aT aU aV hs;go_enter Tryz.func200,Tryz.ntmps200
 go_wp2_with fail
 rw [← hW];clear hW;go_loopw [5,7,10,18,22] (fun v5 _ bi _ _ wr=>∃ (j:Nat) (R:List (TermM×Value)),bi=.int .i64 j∧j≤m∧Hid (R.map Prod.fst=partsM u a i ((R0.map Prod.fst).take j))∧Hid (∀ x∈R,El N lo wl x)∧Hid (wr.ownsRow W.heap.size 38 4 v5 R.length (rowV R))∧Hid (R=[]→v5=.slice none 0 0)∧Hid (Below W.heap.size W wr)) (fun _ _ x _ _ _=>m-(intOf x).toNat)
 case atStart=>exact ⟨0,[],rfl,y_,z_ rfl,z_ (fun x hx=>by cases hx),bh,z_ (fun _=>rfl),z_ b_⟩
 case round=>
  obtain ⟨j,R,rfl,hj,HF,HA,HO,HN,HB⟩:=hrel;by_cases bs:j<m
  ·have aq:j<R0.length:=by have:=HM.out;omega
   obtain ⟨g,o,B,cb,rfl,hg,e0,e1,e2,e3,eB,hh,aX⟩:=bd.out.at aq;rw [eB] at hh;have an:=am.out.trans (HB.out.mono am.out.size);have bj:j<(R0.map Prod.fst).length:=by rw [List.length_map];exact aq
   have f0:=(an.cell (p:=⟨g,o+j*4,none⟩) hg).trans e0;have f1:=(an.cell (p:=⟨g,o+j*4+1,none⟩) hg).trans e1;have f2:=(an.cell (p:=⟨g,o+j*4+2,none⟩) hg).trans e2;have f3:=(an.cell (p:=⟨g,o+j*4+3,none⟩) hg).trans e3;have ao:=z_ (qkd u a i (R0.map Prod.fst) bj);rw [qrf aq] at ao;have aY:=z_ aX;have HH:=z_ hh;have ap:=z_ (bf.out (R0.getD j p0) (qph aq));have aZ:=z_ (be.out (j+1) o_);obtain ⟨t,ht⟩:=e_ ((R0.getD j p0).1);rw [← ht] at f0 f1 f2 f3 ao aY HH ap;obtain ⟨q,hq⟩:=e_ (t.args.length);rw [← hq] at f3 HH;have HQ:=z_ hq;obtain ⟨r1,aA⟩:∃ r1,decide (u≠0∧t.op=u-1)=r1:=⟨_,rfl⟩;obtain ⟨r2,aB⟩:∃ r2,(a&&decide (t.op=(i:Int)))=r2:=⟨_,rfl⟩;have bk:=z_ (fun W'=>qk6 nm Ad dn cd a b u hu bc i s0 s1 s2 s3 s4 t B q cb r1 aA W');have bl:=z_ (fun W'=>qj0 nm Ad dn cd a b u i s0 s1 s2 s3 s4 t B q cb r2 aB W');have a6:=z_ aA;have a7:=z_ aB;have a8:Hid (∀ ob,Below wr.heap.size wr (wr.alloc ob)):=z_ (fun ob=>b_.alloc n_ ob);have hX:∀ ob,C11 w.heap.size nm Ad dn cd a b u i s0 s1 s2 s3 s4 (wr.alloc ob):=fun ob=>aW.out.below (HB.out.alloc HB.out.size ob)
   have y0:=fun ob=>(hX ob).1
   have y1:=fun ob=>(hX ob).2.1
   have y2:=fun ob=>(hX ob).2.2.1
   have y3:=fun ob=>(hX ob).2.2.2.1
   have y4:=fun ob=>(hX ob).2.2.2.2.1
   have y5:=fun ob=>(hX ob).2.2.2.2.2.1
   have y6:=fun ob=>(hX ob).2.2.2.2.2.2.1
   have y7:=fun ob=>(hX ob).2.2.2.2.2.2.2.1
   have y8:=fun ob=>(hX ob).2.2.2.2.2.2.2.2.1
   have y9:=fun ob=>(hX ob).2.2.2.2.2.2.2.2.2.1
   have aC:=fun ob=>(hX ob).2.2.2.2.2.2.2.2.2.2
   clear hX;have d1:decide ((j:Int)<(m:Int))=true:=d_;have i1:(0:Int)≤(j:Int):=o_;have i2:(j:Int)<(m:Int):=o_;clear e0 e1 e2 e3 eB hh aX ht hq aA aB an hg;go_wp2_with fail
   refine (bk.out _).mono ?_;rintro e w5 ⟨rfl,au⟩
   have ae:Hid ((w5.cell? ⟨wr.heap.size,0,none⟩=some (.int .i64 t.op)∧w5.cell? ⟨wr.heap.size,1,none⟩=some (.string (bstr t.name))∧w5.cell? ⟨wr.heap.size,2,none⟩=some (.int .i64 t.sort)∧w5.cell? ⟨wr.heap.size,3,none⟩=some (.slice B q cb))∧Below wr.heap.size wr w5∧wr.heap.size<w5.heap.size):=z_ (by
    have hk:∀ z,w5.cell? ⟨wr.heap.size,z,none⟩=_:=fun z=>au.cell (p:=⟨wr.heap.size,z,none⟩) (by simp)
    refine ⟨⟨(hk 0).trans (by simp),(hk 1).trans (by simp),(hk 2).trans (by simp),(hk 3).trans (by simp)⟩,(a8.out _).trans (au.mono (a8.out _).size),?_⟩;have:=au.size;simp at this
    omega)
   clear au y0 y1 y2 y3 y4 y5 y6 y7 y8 y9 aC f0 f1 f2 f3;cases r1 with
   | true=>
    have ba:u≠0∧t.op=u-1:=of_decide_eq_true a6.out;have ag:Hid (R.map Prod.fst=partsM u a i ((R0.map Prod.fst).take (j+1))):=z_ (by rw [ao.out,qex ba,List.append_nil];exact HF.out);have bm:=z_ (own_below HO.out ae.out.2.1);have bn:=z_ (HB.out.trans (ae.out.2.1.mono HB.out.size));clear ba;go_wp2;go_roundw
    case rel=>exact ⟨j+1,R,by go_num,by omega,ag,HA,bm,HN,bn⟩
    case measure=>simp [intOf];omega
   | false=>
    obtain ⟨y0,y1,y2,y3,y4,y5,y6,y7,y8,y9,aC⟩:=aW.out.below (HB.out.trans (ae.out.2.1.mono HB.out.size));obtain ⟨z0,z1,z2,z3⟩:=ae.out.1;go_wp2_with fail
    refine (bl.out _).mono ?_;rintro e w6 ⟨rfl,aD⟩
    have aE:Hid ((w6.cell? ⟨wr.heap.size,0,none⟩=some (.int .i64 t.op)∧w6.cell? ⟨wr.heap.size,1,none⟩=some (.string (bstr t.name))∧w6.cell? ⟨wr.heap.size,2,none⟩=some (.int .i64 t.sort)∧w6.cell? ⟨wr.heap.size,3,none⟩=some (.slice B q cb))∧Below wr.heap.size wr w6):=z_ (by
     have hk:∀ z,w6.cell? ⟨wr.heap.size,z,none⟩=w5.cell? ⟨wr.heap.size,z,none⟩:=fun z=>aD.cell (p:=⟨wr.heap.size,z,none⟩) ae.out.2.2
     rw [hk,hk,hk,hk]
     exact ⟨ae.out.1,ae.out.2.1.trans (aD.mono ae.out.2.1.size)⟩)
    have av:=z_ (own_below HO.out aE.out.2);have af:=z_ (HB.out.trans (aE.out.2.mono HB.out.size));clear aD y0 y1 y2 y3 y4 y5 y6 y7 y8 y9 aC z0 z1 z2 z3;obtain ⟨z0,z1,z2,z3⟩:=aE.out.1;have aw:¬ (u≠0∧t.op=u-1):=of_decide_eq_false a6.out;cases r2 with
    | true=>
     have ah:a=true∧t.op=(i:Int):=by have:=a7.out;simpa using this
     have bo:0<q:=by rw [HQ.out];exact List.length_pos_iff.2 (ap.out ah.1 ah.2)
     obtain ⟨k2,g2,o2,_,_,bp,rfl,_,hg2,_⟩:=qal HH.out bo;subst bp;obtain ⟨R2,ad,ax,bb⟩:=qhn HH.out HQ.out;have ay:R2.length=q:=by rw [HQ.out,← ad,List.length_map]
     have ai:=z_ ay;have aF:Hid ((rowV R2).length=q*4):=z_ (by rw [qbr,ay])
     have aG:Hid (∀ j x,(rowV R2)[j]? =some x→w6.cell? ((⟨g2,o2,none⟩:Addr).add j)=some x):=z_ (fun j x hx=>by
      have h9:=bb g2 o2 rfl j x hx;rw [Addr.add_lit] at h9 ⊢
      exact Sub.below (am.out.trans (af.out.mono am.out.size)) _ _ (az.out _ _ h9))
     have aj:Hid (∀ v∈rowV R2,v.oneCell'=true):=z_ (qm0 R2 (fun x hx=>by
      obtain ⟨A9,c9,e9,_⟩:=HasR.shape (ax x hx).1 rfl
      rw [e9];rfl))
     have aH:Hid (∀ x∈R++R2,El (k2+1) lo wl x):=z_ (fun x hx=>by
      rcases List.mem_append.1 hx with h9|h9
      ·exact HA.out x h9
      ·exact ⟨(ax x h9).1.up (Nat.le_succ _),(ax x h9).2⟩)
     have ag:Hid ((R++R2).map Prod.fst=partsM u a i ((R0.map Prod.fst).take (j+1))):=z_ (by rw [ao.out,qey aw ah,List.map_append,HF.out,ad]);have bq:R.length+q≤1048576:=by
      have h9:=aZ.out;rw [← ag.out,List.length_map,List.length_append,ay] at h9;exact h9
     have aI:W.heap.size≤w6.heap.size:=af.out.size;clear ah ad ax bb ay aw hg2;go_wp2_with (at_builtin;refine wpList_append_lies _ rfl _ _ _ rfl W.heap.size 38 j0 _ 4 56 Tryz.underlying36 aP aQ aR aS rfl o_ _ R.length (rowV R) rfl av.out ⟨g2,o2,none⟩ q cb (rowV R2) rfl aF.out aG.out aj.out o_ Aa_ o_ aI _ rfl ?_;intro g4 ab w7 aa ac aJ ak)
     have aK:Hid (w7.ownsRow W.heap.size 38 4 (.slice (some ⟨g4,0,none⟩) (R.length+q) ab) (R++R2).length (rowV (R++R2))):=z_ (by rw [qbz,List.length_append,ai.out];exact aa);have aL:=z_ (af.out.grown ac af.out.size (qb7 av.out))
     have aM:Hid (R++R2=[]→(.slice (some ⟨g4,0,none⟩) (R.length+q) ab:Value)=.slice none 0 0):=z_ (fun e=>by
      have h9:=congrArg List.length e;rw [List.length_append,ai.out] at h9;simp at h9
      try omega)
     exact c75_
    | false=>
     have ah:¬ (a=true∧t.op=(i:Int)):=fun h9=>by
      have:=a7.out;rw [h9.1,h9.2] at this;simp at this
     obtain ⟨R2,ad⟩:∃ R2:List (TermM×Value),R2=[(t,.slice B q cb)]:=⟨_,rfl⟩;have ai:Hid (R2.length=1):=z_ (by rw [ad];rfl);have aF:Hid ((rowV R2).length=1*4):=z_ (by rw [qbr,ai.out])
     have aG:Hid (∀ j x,(rowV R2)[j]? =some x→(w6.alloc (.cells #[.int .i64 t.op,.string (bstr t.name),.int .i64 t.sort,.slice B q cb] 38)).cell? ((⟨w6.heap.size,0,none⟩:Addr).add j)=some x):=z_ (by
      rw [ad];intro j x hx;match j,hx with
      | 0,hx=>simp [rowV] at hx;subst hx;simp [Addr.add]
      | 1,hx=>simp [rowV] at hx;subst hx;simp [Addr.add]
      | 2,hx=>simp [rowV] at hx;subst hx;simp [Addr.add]
      | 3,hx=>simp [rowV] at hx;subst hx;simp [Addr.add])
     have aj:Hid (∀ v∈rowV R2,v.oneCell'=true):=z_ (qm0 R2 (fun x hx=>by
      rw [ad] at hx;simp at hx
      subst hx;rfl))
     have aH:Hid (∀ x∈R++R2,El N lo wl x):=z_ (fun x hx=>by
      rcases List.mem_append.1 hx with h9|h9
      ·exact HA.out x h9
      ·rw [ad] at h9
       simp at h9;subst h9
       exact ⟨HH.out,aY.out⟩)
     have ag:Hid ((R++R2).map Prod.fst=partsM u a i ((R0.map Prod.fst).take (j+1))):=z_ (by rw [ao.out,qdo aw ah,List.map_append,HF.out,ad];rfl);have bq:R.length+1≤1048576:=by
      have h9:=aZ.out;rw [← ag.out,List.length_map,List.length_append,ai.out] at h9;exact h9
     have aI:W.heap.size≤w6.heap.size:=af.out.size;have al:Hid (∀ ob,Below w6.heap.size w6 (w6.alloc ob)):=z_ (fun ob=>b_.alloc n_ ob);clear ah ad aw;go_wp2_with (at_builtin;refine wpList_append_lies _ rfl _ _ _ rfl W.heap.size 38 j0 _ 4 56 Tryz.underlying36 aP aQ aR aS rfl o_ _ R.length (rowV R) rfl (own_below av.out (al.out _)) ⟨w6.heap.size,0,none⟩ 1 1 (rowV R2) rfl aF.out aG.out aj.out o_ Aa_ o_ (Nat.le_trans aI (al.out _).size) _ rfl ?_;intro g4 ab w7 aa ac aJ ak)
     have aK:Hid (w7.ownsRow W.heap.size 38 4 (.slice (some ⟨g4,0,none⟩) (R.length+1) ab) (R++R2).length (rowV (R++R2))):=z_ (by rw [qbz,List.length_append,ai.out];exact aa);have aL:Hid (Below W.heap.size W w7):=z_ ((af.out.alloc af.out.size _).grown ac (Nat.le_trans af.out.size (al.out _).size) (qb7 av.out))
     have aM:Hid (R++R2=[]→(.slice (some ⟨g4,0,none⟩) (R.length+1) ab:Value)=.slice none 0 0):=z_ (fun e=>by
      have h9:=congrArg List.length e;rw [List.length_append,ai.out] at h9;simp at h9
      try omega)
     exact c75_
  ·obtain rfl:j=m:=o_
   have HQ:Hid (R.map Prod.fst=partsM u a i (R0.map Prod.fst)):=z_ (by rw [HF.out,HM.out,List.take_of_length_le (by rw [List.length_map];omega)]);have HE:=z_ (bg.out ▸ HO.out);go_wp2;go_ret;exact ⟨_,R,rfl,HQ.out,HA.out,HE.out,HN.out,am.out.trans (HB.out.mono am.out.size)⟩
end tmb

set_option maxRecDepth 100000
namespace bndop
open Go.Joins Go.ChangeShapes Go.WideShapes Go.ChangeAt Go.RowKit Go.Deep
open mem rowl trm terml termop bndl
section
variable {H:Type} {enc:TypeId×Value→H} {W:World} {base:Nat}
theorem qA2{y:DataW H×List MemPlace}(ht:DataW.trod enc Tryz.prog W base (fun _=>true) true n 77 cs=some y):∃ b:BindM,RB n 0 W cs b:=by
 have ac:Tryz.prog.cellsOf 32=4:=by kernel_rfl
 have hC:Tryz.prog.cellsOf 77=8:=by kernel_rfl
 obtain ⟨xs,n',hn,_,hl,hlen,hf⟩:=DataW.trod_struct Tryz.underlying77 ht;rw [hC] at hl;obtain ⟨c0,c1,c2,c3,c4,c5,c6,c7,rfl⟩:∃ c0 c1 c2 c3 c4 c5 c6 c7,cs=[c0,c1,c2,c3,c4,c5,c6,c7]:=by
  match cs,hl with
  | [c0,c1,c2,c3,c4,c5,c6,c7],_=>exact ⟨c0,c1,c2,c3,c4,c5,c6,c7,rfl⟩
 obtain ⟨y0,y1,rfl⟩:∃ y0 y1,xs=[y0,y1]:=by
  match xs,hlen with
  | [y0,y1],_=>exact ⟨y0,y1,rfl⟩
 have h0:DataW.trod enc Tryz.prog W base (fun _=>true) true n' 32 (([c0,c1,c2,c3,c4,c5,c6,c7].drop 0).take (Tryz.prog.cellsOf 32))=some y0:=hf 0 _ rfl;have h1:DataW.trod enc Tryz.prog W base (fun _=>true) true n' 32 (([c0,c1,c2,c3,c4,c5,c6,c7].drop 4).take (Tryz.prog.cellsOf 32))=some y1:=hf 1 _ rfl;rw [ac] at h0 h1;simp only [List.drop_zero,List.take_succ_cons,List.take_zero,List.drop_succ_cons] at h0 h1;obtain ⟨op,s,so,va,m1,aj,e1,aa,ad,i1,i2,t1⟩:=qly h0;obtain ⟨ae,s',af,vb,m2,ak,e2,ab,ag,i3,i4,t2⟩:=qly h1;obtain ⟨L1,ah⟩:=qlz m1 t1;obtain ⟨L2,ai⟩:=qlz m2 t2;simp only [List.cons.injEq,and_true] at aa ab;obtain ⟨rfl,rfl,rfl,rfl⟩:=aa;obtain ⟨rfl,rfl,rfl,rfl⟩:=ab;refine ⟨⟨.mk op s.data.toList so L1,.mk ae s'.data.toList af L2⟩,c3,c7,?_,ah.up o_,ai.up o_,⟨by show (s.data.toList).length≤_;rw [← qbj,qbk];exact ad,i1,i2⟩,by show (s'.data.toList).length≤_;rw [← qbj,qbk];exact ag,i3,i4⟩;show _=[_,Value.string (bstr s.data.toList),_,_,_,Value.string (bstr s'.data.toList),_,_];rw [qbk,qbk];rfl
theorem qA3 (n:Nat){y:DataW H×List MemPlace}(hf:DataW.trod enc Tryz.prog W base (fun _=>true) true n 29 [v]=some y):∃ L:List BindM,HasBs n 0 W v L:=by
 have hC:Tryz.prog.cellsOf 77=8:=by kernel_rfl
 rcases DataW.trod_slice Tryz.underlying29 hf with ⟨hcs,hx⟩|⟨a,len,cap,elems,rest,k,hn,hcs,hx,hb,hl,hm,hlen,hel,_,_⟩
 ·simp at hcs
  subst hcs;exact ⟨[],HasR.nil _ _ _ Aa_ _⟩
 ·simp at hcs
  subst hcs;rw [hC] at hel;refine qhn o_ hl hm (fun j hj=>?_);have he:=hel j hj;rw [List.getElem?_eq_getElem o_] at he;obtain ⟨cs,hc,ht⟩:=Option.bind_eq_some_iff.1 he;obtain ⟨b,hb⟩:=qA2 ht;have aa:=hb;obtain ⟨va,vb,rfl,_⟩:=aa;obtain ⟨_,ac,ab⟩:=World.cells?_some hc
  refine ⟨b,_,fun i hi=>?_,(by
   obtain ⟨va,vb,e,h1,h2,r⟩:=hb
   exact ⟨va,vb,e,h1.up o_,h2.up o_,r⟩)⟩
  rw [ab i (by simpa using hi)];match i,hi with
  | 0,_=>rfl
  | 1,_=>rfl
  | 2,_=>rfl
  | 3,_=>rfl
  | 4,_=>rfl
  | 5,_=>rfl
  | 6,_=>rfl
  | 7,_=>rfl
end
theorem qxe{enc:TypeId×Value→H}{d:DataW H}{p:List MemPlace}(ab:Value.okWide Tryz.prog W .any base 29 v)(hd:DataW.Trod enc Tryz.prog W 0 (fun _=>true) true 29 v d p):∃ (n:Nat) (L:List BindM),HasBs n 0 W v L:=by
 obtain ⟨a0,len,cap,rfl⟩:=okWide_slice Tryz.underlying29 ab;obtain ⟨aa,hf⟩:=hd;obtain ⟨L,hL⟩:=qA3 aa (v:=.slice a0 len cap) hf;exact ⟨aa,L,hL⟩
end bndop
end Go.Proofs.YtiilamngcoegiaaGreat
