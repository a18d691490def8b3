
import Derived.Test.YtiilamngcoegiaaGreatQTermb
import Derived.Test.YtiilamngcoegiaaGreatQPk04
import Derived.Deep.LoopGhost
import Derived.Deep.RegionHeld3
import Derived.BigQuiet
namespace Go.Proofs.YtiilamngcoegiaaGreat.termw
open Go.ChangeShapes Go.WideShapes Go.ChangeAt Go.RowKit
open mem dec rowl trm terml termb
theorem qoo (x:Int)(w:World):Calls Tryz.prog 227 #[.int .i64 x] w fun e w'=>e=.returned (.bool false)∧w=w':=by
 go_enter Tryz.func227,Tryz.ntmps227
 go_wp2;go_ret;exact ⟨by simp,rfl⟩
theorem c6_ {p:Prop}(h:p:=by
 rw [hr];go_enter Tryz.func198,Tryz.ntmps198
 go_wp2_with (go_at_call 227;refine (qoo _ _).mono ?_;rintro e w' ⟨rfl,rfl⟩)
 go_ret;exact ⟨rfl,rfl⟩
):p:=h
theorem qfr (x y:Int)(w:World):Calls Tryz.prog 198 #[.int .i64 x,.int .i64 y] w fun e w'=>e=.returned (.int .i64 (cmpI x y))∧w=w':=by
 by_cases h1:x<y
 ·have hr:cmpI x y=-1:=by unfold cmpI;rw [if_neg o_,if_pos h1]
  exact c6_
 ·by_cases h2:y<x
  ·have hr:cmpI x y=1:=by unfold cmpI;rw [if_neg o_,if_neg h1]
   exact c6_
  ·have hr:cmpI x y=0:=by unfold cmpI;rw [if_pos o_]
   exact c6_
theorem qop (x:ByteArray)(w:World):Calls Tryz.prog 228 #[.string x] w fun e w'=>e=.returned (.bool false)∧w=w':=by
 go_enter Tryz.func228,Tryz.ntmps228
 go_wp2;go_ret;exact ⟨by simp,rfl⟩
theorem qAj (t:TypeId)(a b:ByteArray):binOp .gtr t (.string a) (.string b)=pure (.bool !(Op.bytesLess a.toList b.toList || a.toList==b.toList)):=by simp [binOp,Op.stringOp]
theorem j1_ {p:Prop}(h:p:=by
 clear h0 hr hl;go_enter Tryz.func199,Tryz.ntmps199
 go_wp2_with (go_at_call 228;refine (qop _ _).mono ?_;rintro e w' ⟨rfl,rfl⟩)
 go_ret;exact ⟨rfl,rfl⟩
):p:=h
theorem c5_ {p:Prop}(h:p:=by
 rw [hr];rw [hl] at hgt aa;exact j1_
):p:=h
theorem qxs (x y:List UInt8)(w:World):Calls Tryz.prog 199 #[.string (bstr x),.string (bstr y)] w fun e w'=>e=.returned (.int .i64 (cmpB x y))∧w=w':=by
 have hgt:=qAj 9 (bstr x) (bstr y);rw [qig,qfc] at hgt;have aa:=binOp_string_lss 9 (bstr x) (bstr y);rw [qig] at aa;by_cases h0:x=y
 ·have hr:cmpB x y=0:=by unfold cmpB;rw [if_pos h0]
  rw [hr];have hl:qbp x y=false:=by rw [h0];exact qia _
  rw [hl,decide_eq_true h0] at hgt;rw [hl] at aa;exact j1_
 ·rw [decide_eq_false h0] at hgt
  cases hl:qbp x y with
  | true=>
   have hr:cmpB x y=-1:=by unfold cmpB;rw [if_neg h0,if_pos hl]
   exact c5_
  | false=>
   have hr:cmpB x y=1:=by unfold cmpB;rw [if_neg h0,if_neg (by rw [hl];simp)]
   exact c5_
def or3 (a b c:Int):Int:=if a≠0 then a else if b≠0 then b else c
theorem qC5 (g cap:Nat)(a b c:Int)(w:World)(h0:w.cell? ⟨g,0,none⟩=some (.int .i64 a))(h1:w.cell? ⟨g,1,none⟩=some (.int .i64 b))(h2:w.cell? ⟨g,2,none⟩=some (.int .i64 c)):
  Calls Tryz.prog 197 #[.slice (some ⟨g,0,none⟩) 3 cap] w fun e w'=>e=.returned (.int .i64 (or3 a b c))∧w=w':=by
 have hcell:∀ j:Nat,j<3→w.cell? ⟨g,j,none⟩=some (.int .i64 ([a,b,c].getD j 0)):=by
  intro j hj;match j,hj with
  | 0,_=>exact h0
  | 1,_=>exact h1
  | 2,_=>exact h2
 have HC:=z_ hcell;clear hcell h0 h1 h2;go_enter Tryz.func197,Tryz.ntmps197
 go_wp2;go_loopw [5,8] (fun _ i wr=>∃ j:Nat,j≤3∧i=.int .i64 j∧Hid (∀ q,q<j→[a,b,c].getD q 0=0)∧Hid (w=wr)) (fun _ i _=>3-(intOf i).toNat)
 case atStart=>exact ⟨0,by omega,rfl,z_ (fun q hq=>by omega),z_ rfl⟩
 case round=>
  obtain ⟨j,hj,rfl,HQ,HW⟩:=hrel;obtain rfl:=HW.out;by_cases ab:j<3
  ·have hc:=HC.out j ab
   obtain ⟨x,hx⟩:=e_ ([a,b,c].getD j 0);rw [← hx] at hc;have HX:=z_ hx;clear hx;by_cases aa:x=0
   ·subst aa
    go_wp2;go_roundw
    case rel=>exact ⟨j+1,by omega,by go_num,z_ (fun q hq=>by
     by_cases e:q=j
     ·subst e;exact HX.out.symm
     ·exact HQ.out q o_),by first|exact z_ rfl|exact True.intro⟩
    case measure=>simp [intOf];omega
   ·have HR:Hid (or3 a b c=x):=z_ (by
     have h:=HX.out;have hq:=HQ.out;unfold or3;match j,ab with
     | 0,_=>simp at h;subst h;rw [if_pos aa]
     | 1,_=>have q0:=hq 0 o_;simp at h q0;subst h;rw [if_neg (by simp [q0]),if_pos aa]
     | 2,_=>have q0:=hq 0 o_;have q1:=hq 1 o_;simp at h q0 q1;subst h;rw [if_neg (by simp [q0]),if_neg (by simp [q1])])
    go_wp2;go_ret;exact ⟨qan HR.out.symm,rfl⟩
  ·obtain rfl:j=3:=o_
   have HR:Hid (or3 a b c=0):=z_ (by
    have hq:=HQ.out;have q0:=hq 0 o_;have q1:=hq 1 o_;have q2:=hq 2 o_;simp at q0 q1 q2;subst q0 q1 q2
    rfl)
   go_wp2;go_ret;exact ⟨qan HR.out.symm,rfl⟩
def cmpN (t u:TermM):Int:=if cmpI t.op u.op≠0 then cmpI t.op u.op else if cmpB t.name u.name≠0 then cmpB t.name u.name else cmpI t.sort u.sort
theorem ql6 (t u:TermM):cmp t u=if cmpN t u≠0 then cmpN t u else cmpL t.args u.args:=by
 obtain ⟨o,n,s,l⟩:=t;obtain ⟨o',n',s',m⟩:=u;rw [qfd];unfold cmpN;simp only [TermM.op,TermM.name,TermM.sort,TermM.args];by_cases h1:cmpI o o'=0
 ·by_cases h2:cmpB n n'=0
  ·simp [h1,h2]
  ·simp [h1,h2]
 ·simp [h1]
theorem ql7 {wr w0 w1:World}{g g' o o':Nat}{a0 a1 a2 b0 b1 b2:Value}
  (h:(w0.cell? ⟨g,o,none⟩=some a0∧w0.cell? ⟨g,o+1,none⟩=some a1∧w0.cell? ⟨g,o+2,none⟩=some a2∧
   w0.cell? ⟨g',o',none⟩=some b0∧w0.cell? ⟨g',o'+1,none⟩=some b1∧w0.cell? ⟨g',o'+2,none⟩=some b2)∧GB wr.heap.size wr w0)
  (hp:g<wr.heap.size∧g'<wr.heap.size) (hb:GB w0.heap.size w0 w1):
  (w1.cell? ⟨g,o,none⟩=some a0∧w1.cell? ⟨g,o+1,none⟩=some a1∧w1.cell? ⟨g,o+2,none⟩=some a2∧
   w1.cell? ⟨g',o',none⟩=some b0∧w1.cell? ⟨g',o'+1,none⟩=some b1∧w1.cell? ⟨g',o'+2,none⟩=some b2)∧GB wr.heap.size wr w1:=by
 have hs:=h.2.below.size;have k:∀ x,w1.cell? ⟨g,x,none⟩=w0.cell? ⟨g,x,none⟩:=fun x=>hb.below.cell (p:=⟨g,x,none⟩) (by show g<_;omega)
 have k':∀ x,w1.cell? ⟨g',x,none⟩=w0.cell? ⟨g',x,none⟩:=fun x=>hb.below.cell (p:=⟨g',x,none⟩) Am_
 rw [k,k,k,k',k',k'];exact ⟨h.1,h.2.trans (hb.mono hs)⟩
set_option maxRecDepth 20000 in
set_option maxHeartbeats 2000000 in
theorem qij (t u:TermM)(ga oa gb ob:Nat)(w:World)(ag:ga<w.heap.size)(ah:gb<w.heap.size)(a0:w.cell? ⟨ga,oa,none⟩=some (.int .i64 t.op))(a1:w.cell? ⟨ga,oa+1,none⟩=some (.string (bstr t.name)))(a2:w.cell? ⟨ga,oa+2,none⟩=some (.int .i64 t.sort))
  (b0:w.cell? ⟨gb,ob,none⟩=some (.int .i64 u.op)) (b1:w.cell? ⟨gb,ob+1,none⟩=some (.string (bstr u.name))) (b2:w.cell? ⟨gb,ob+2,none⟩=some (.int .i64 u.sort)):
  Calls Tryz.prog 160 #[.pointer (some ⟨ga,oa,none⟩),.pointer (some ⟨gb,ob,none⟩)] w fun e w'=>e=.returned (.int .i64 (cmpN t u))∧GB w.heap.size w w':=by
 have HR:Hid (or3 (cmpI t.op u.op) (cmpB t.name u.name) (cmpI t.sort u.sort)=cmpN t u):=z_ rfl;obtain ⟨to,aa⟩:=e_ (t.op);obtain ⟨tn,ab⟩:=e_ (t.name);obtain ⟨ts,ac⟩:=e_ (t.sort);obtain ⟨uo,ad⟩:=e_ (u.op);obtain ⟨un,ae⟩:=e_ (u.name);obtain ⟨us,af⟩:=e_ (u.sort);rw [← aa] at a0 HR;rw [← ad] at b0 HR;rw [← ab] at a1 HR;rw [← ae] at b1 HR;rw [← ac] at a2 HR;rw [← af] at b2 HR;clear aa ab ac ad ae af;go_enter Tryz.func160,Tryz.ntmps160
 go_wp2_with fail
 go_region_held3 (fun w'=>(w'.cell? ⟨ga,oa,none⟩=some (.int .i64 to)∧w'.cell? ⟨ga,oa+1,none⟩=some (.string (bstr tn))∧w'.cell? ⟨ga,oa+2,none⟩=some (.int .i64 ts)∧
   w'.cell? ⟨gb,ob,none⟩=some (.int .i64 uo)∧w'.cell? ⟨gb,ob+1,none⟩=some (.string (bstr un))∧w'.cell? ⟨gb,ob+2,none⟩=some (.int .i64 us))∧GB w.heap.size w w')
  (first|(refine ⟨⟨?_,?_,?_,?_,?_,?_⟩,(GB.refl _ _).drew⟩<;>assumption)|assumption|(go_split_ands;exact ql7 (g:=ga) (g':=gb) ⟨⟨by assumption,by assumption,by assumption,by assumption,by assumption,by assumption⟩,by assumption⟩ ⟨ag,ah⟩ ((GB.refl _ _).alloc n_ _)))
  ((first|(go_at_call 199;refine (qxs _ _ _).mono ?_;rintro e w1 ⟨rfl,rfl⟩)|(go_at_call 198;refine (qfr _ _ _).mono ?_;rintro e w1 ⟨rfl,rfl⟩)|(go_at_call 197;refine (qC5 _ _ (cmpI to uo) (cmpB tn un) (cmpI ts us) _ (by simp) (by simp) (by simp)).mono ?_;rintro e w1 ⟨rfl,rfl⟩)))
 all_goals (go_wp2;go_ret;go_split_ands;exact ⟨qan HR.out,by assumption⟩)
end Go.Proofs.YtiilamngcoegiaaGreat.termw
