
import Derived.Test.YtiilamngcoegiaaGreatQZl
import Derived.Test.YtiilamngcoegiaaGreatQPk01
import Derived.OwnWalk
import Derived.Deep.QuietTactic
import Derived.BigQuiet
import Derived.Lib.Tables
namespace Go.Proofs.YtiilamngcoegiaaGreat.sets
open Go.ChangeShapes Go.WideShapes Go.ChangeAt Go.RowKit
open mem setm
theorem qdt:(Tryz.prog.info? 3).map (fun i=>(i.zero,i.size,i.bytes))=some (some (.int .i64 0),1,8):=by kernel_rfl
theorem qck (s k:Nat)(hs:s<65536)(hk:k<16)(b:Bool)(hb:s.testBit k=b)(w:World):
  Calls Tryz.prog 153 #[.int .u16 (s:Int),.int .i64 (k:Int)] w fun e w'=>e=.returned (.bool b)∧w=w':=by
 subst hb
 have H:Hid ((bits .and .u16 ((s:Int) / 2 ^ k) 1==1)=s.testBit k):=z_ (by
  have e:(s:Int) / 2 ^ k=((s / 2 ^ k:Nat):Int):=by simp
  have hl:s / 2 ^ k<65536:=Nat.lt_of_le_of_lt (Nat.div_le_self _ _) hs;rw [← qu0,e];have:=ql3 (s / 2 ^ k) 1 hl (by decide);rw [show ((1:Nat):Int)=1 from rfl] at this;rw [this,Nat.and_one_is_mod,Bool.eq_iff_iff]
  simp)
 go_enter Tryz.func153,Tryz.ntmps153
 go_wp2;go_ret;exact ⟨qa0 (by rw [← H.out];try simp),rfl⟩
theorem qmj (s k:Nat)(hs:s<65536)(hk:k<16)(w:World):
  Calls Tryz.prog 186 #[.int .u16 (s:Int),.int .i64 (k:Int)] w fun e w'=>e=.returned (.int .u16 ((s ||| 2 ^ k:Nat):Int))∧w=w':=by
 have H:Hid (bits .or .u16 (s:Int) (IntKind.u16.wrap (2 ^ k))=((s ||| 2 ^ k:Nat):Int)):=z_ (by
  have e:(2:Int) ^ k=((2 ^ k:Nat):Int):=by simp
  have hl:=qqb hk
  rw [e,qbl _ (Int.natCast_nonneg _) (by exact_mod_cast hl),qqa s (2 ^ k) hs hl])
 go_enter Tryz.func186,Tryz.ntmps186
 go_wp2;go_ret;exact ⟨qan (by rw [← H.out];try simp),rfl⟩
theorem qAf (s:Nat):(qc2 s 16).length=(qc2 (s / 256) 8).length+(qc2 (s % 256) 8).length:=by
 have h:∀ k,k≤8→(qc2 s (8+k)).length=(qc2 s 8).length+(qc2 (s / 256) k).length:=by
  intro k;induction k with
  | zero=>intro _;simp [qc2]
  | succ k ih=>
   intro hk;rw [← Nat.add_assoc,qep s (8+k),qep (s / 256) k,List.length_append,List.length_append,ih o_];have:s.testBit (8+k)=(s / 256).testBit k:=by
    rw [show (256:Nat)=2 ^ 8 from rfl,← Nat.shiftRight_eq_div_pow,Nat.testBit_shiftRight]
   rw [this];split<;>simp<;>omega
 have h2:qc2 s 8=qc2 (s % 256) 8:=by
  unfold qc2;apply List.filter_congr
  intro k hk;rw [show (256:Nat)=2 ^ 8 from rfl,Nat.testBit_mod_two_pow];simp at hk;simp [hk]
 rw [h 8 o_,← h2];omega
theorem qxo:∀ n:Fin 256,Lib.pop8 (n.val:Int)=((qc2 n.val 8).length:Int):=by decide +kernel
theorem qu2 (n:Nat)(h:n<256):Lib.pop8 (n:Int)=((qc2 n 8).length:Int):=qxo ⟨n,h⟩
theorem qxp (s:Nat)(hs:s<65536)(w:World):
  Calls Tryz.prog 247 #[.int .u16 (s:Int)] w fun e w'=>e=.returned (.int .i64 ((els s).length:Int))∧∃ n,w'=w.drewN n:=by
 have h1:bits .and .u16 (s:Int) 255=(s:Int) % 256:=bits_mask .u16 16 (by decide) qbl 8 (by decide) s (Int.natCast_nonneg _) (by exact_mod_cast hs);have HP:=z_ (qAf s);have hd:(s:Int) / 256=((s / 256:Nat):Int):=by simp
 have hm:(s:Int) % 256=((s % 256:Nat):Int):=by simp
 have p1:=qu2 (s / 256) o_;have p2:=qu2 (s % 256) o_;have l1:=qe9 (s / 256) 8;have l2:=qe9 (s % 256) 8;rw [← hd] at p1;rw [← hm] at p2;have P1:=z_ p1;have P2:=z_ p2;have b1:0≤Lib.pop8 ((s:Int) / 256):=o_;have b2:0≤Lib.pop8 ((s:Int) % 256):=o_;have b3:Lib.pop8 ((s:Int) / 256)≤8:=o_;have b4:Lib.pop8 ((s:Int) % 256)≤8:=o_;clear hd hm p1 p2 l1 l2;go_enter Tryz.func247,Tryz.ntmps247
 go_wp2;generalize hC:(ByteArray.mk _)=C
 have aa:C=Lib.pop8tab:=by rw [← hC];rfl
 clear hC;subst aa;have i1:∀ w:World,(Instr.index 9 (.string Lib.pop8tab) (.int .u16 ((s:Int) / 256))).run Tryz.prog w=.ok (.int .u8 (Lib.pop8 ((s:Int) / 256))) w:=fun w=>Lib.run_index_pop8tab w _ _ _ Tryz.underlying9 o_ o_
 have i2:∀ w:World,(Instr.index 9 (.string Lib.pop8tab) (.int .u16 ((s:Int) % 256))).run Tryz.prog w=.ok (.int .u8 (Lib.pop8 ((s:Int) % 256))) w:=fun w=>Lib.run_index_pop8tab w _ _ _ Tryz.underlying9 o_ o_
 go_quiet (fail)
 go_wp2;go_ret;exact ⟨qan (by have:=P1.out;have:=P2.out;have:=HP.out;unfold els;omega),_,rfl⟩
theorem qjx (s:Nat)(hs:s<65536)(w:World):
  Calls Tryz.prog 243 #[.int .u16 (s:Int)] w fun e w'=>e=.returned (.int .i64 ((els s).length:Int))∧∃ n,w'=w.drewN n:=by
 go_enter Tryz.func243,Tryz.ntmps243
 go_wp2_with (go_at_call 247;refine (qxp s hs _).mono ?_;rintro e w1 ⟨rfl,nq,rfl⟩)
 go_ret;exact ⟨rfl,_,rfl⟩
theorem qxq (s:Nat)(hs:s<65536)(w:World):
  Calls Tryz.prog 245 #[.int .u16 (s:Int)] w fun e w'=>∃ v,e=.returned v∧w'.ownsRow w.heap.size 3 1 v (els s).length (ivs (nats (els s)))∧Below w.heap.size w w':=by
 obtain ⟨i0,hi,ag,ah,ai⟩:=info_parts qdt;have hlen:=qe9 s 16;obtain ⟨N,hN⟩:=e_ ((els s).length);have ak:N≤16:=by rw [hN];exact hlen
 have aj:=z_ (fun W=>qjx s hs W);rw [← hN] at aj;have HN:=z_ hN;clear hlen hN;go_enter Tryz.func245,Tryz.ntmps245
 go_wp2_with (first|(go_at_call 243;refine (aj.out _).mono ?_;rintro e w0 ⟨rfl,nq,rfl⟩)|(at_make;refine wpList_make_own _ rfl _ _ 60 rfl w.heap.size 3 i0 (.int .i64 0) 1 Tryz.underlying60 hi ag ah _ _ _ N rfl rfl rfl (by rw [ai];omega) Aa_ n_ ?_))
 intro w1 hown ac;have al:Below w.heap.size w w1:=(qa3 (Below.refl w.heap.size w) nq).grown ac n_ Be_;clear ac;go_wp2;go_loopw [3,8] (fun v i wr=>∃ (k:Nat),k≤16∧i=.int .i64 k∧wr.ownsRow w.heap.size 3 1 v (qc2 s k).length (ivs (nats (qc2 s k)))∧Below w.heap.size w wr) (fun _ i _=>16-(intOf i).toNat)
 case atStart=>exact ⟨0,y_,rfl,by simpa [qc2,ivs,nats] using hown,al⟩
 case round=>
  obtain ⟨k,hk,rfl,hown,aa⟩:=hrel;have hel:=qe9 s k;have HO:=z_ (qb7 hown);by_cases ae:k<16
  ·have am:decide ((k:Int)<16)=true:=by simp;omega
   cases hb:s.testBit k with
   | true=>
    have HE:=z_ (qu1 hb);have HC:=z_ (fun W=>qck s k hs ae true hb W);clear hb;go_wp2_with (first|(go_at_call 153;refine (HC.out _).mono ?_;rintro e w0 ⟨rfl,rfl⟩)|(at_builtin;refine wpList_append_own _ rfl _ _ 60 rfl w.heap.size 3 i0 (.int .i64 0) 1 8 Tryz.underlying60 hi ag ah ai rfl (by decide) _ _ _ rfl (hown.alloc _) ⟨wr.heap.size,0,none⟩ 1 1 [.int .i64 (k:Int)] rfl rfl (qfn _ _ _) (qgn _ rfl) Aa_ o_ An_ ?_))
    intro v2 w2 ad ab _;have HB:=(aa.alloc aa.size (.cells #[.int .i64 (k:Int)] 3)).grown ab An_ HO.out;have af:w2.ownsRow w.heap.size 3 1 v2 (qc2 s (k+1)).length (ivs (nats (qc2 s (k+1)))):=by rw [HE.out];simpa [ivs,nats] using ad
    clear ad ab hown aa;go_wp2;go_roundw
    case rel=>exact ⟨k+1,by omega,by go_num,af,HB⟩
    case measure=>simp [intOf];omega
   | false=>
    have HE:=z_ (qsc hb);have HC:=z_ (fun W=>qck s k hs ae false hb W);clear hb;go_wp2_with (go_at_call 153;refine (HC.out _).mono ?_;rintro e w0 ⟨rfl,rfl⟩)
    go_roundw
    case rel=>exact ⟨k+1,by omega,by go_num,by rw [HE.out];exact hown,aa⟩
    case measure=>simp [intOf];omega
  ·obtain rfl:k=16:=o_
   clear ae;go_wp2;go_ret;exact ⟨_,rfl,hown,aa⟩
def inI (x a b:Int):Bool:=decide (a≤x∧x≤b)
theorem c2_ {p:Prop}(h:p:=by
 go_enter Tryz.func128,Tryz.ntmps128
 go_wp2;go_ret;exact ⟨qa0 HR.out.symm,rfl⟩
):p:=h
theorem qcc (x a b:Int)(r:Bool)(hr:inI x a b=r)(w:World):
  Calls Tryz.prog 128 #[.int .i64 x,.int .i64 a,.int .i64 b] w fun e w'=>e=.returned (.bool r)∧w=w':=by
 subst hr;by_cases h1:a≤x
 ·by_cases h2:x≤b
  ·have HR:Hid (inI x a b=true):=z_ (by unfold inI;simp;exact ⟨h1,h2⟩)
   exact c2_
  ·have HR:Hid (inI x a b=false):=z_ (by unfold inI;simp;omega)
   have d:decide (x≤b)=false:=by simpa using h2
   exact c2_
 ·have HR:Hid (inI x a b=false):=z_ (by unfold inI;simp;omega)
  have d:decide (a≤x)=false:=by simpa using h1
  exact c2_
theorem qfo (k:Nat)(hk:k<16)(w:World):
  Calls Tryz.prog 221 #[.int .i64 (k:Int)] w fun e w'=>e=.returned (.int .i64 ((2 ^ k:Nat):Int))∧w=w':=by
 have H:Hid (wrap64 (2 ^ k)=((2 ^ k:Nat):Int)):=z_ (by
  have hl:=qqb hk;have e:(2:Int) ^ k=((2 ^ k:Nat):Int):=by simp
  rw [e];obtain ⟨b,hb⟩:=e_ (2 ^ k);rw [← hb] at hl ⊢
  unfold wrap64;omega)
 go_enter Tryz.func221,Tryz.ntmps221
 go_wp2;go_ret;exact ⟨qan (by rw [← H.out];try simp),rfl⟩
def hasI (n k:Int):Bool:=decide (0≤k∧k<16∧n / 2 ^ k.toNat % 2=1)
theorem qeq (s k:Nat)(hk:k<16):hasI s k=s.testBit k:=by
 unfold hasI;rw [← qu0];congr 1
 simp;omega
theorem c3_ {p:Prop}(h:p:=by
 go_enter Tryz.func80,Tryz.ntmps80
 go_wp2;go_ret;exact ⟨qa0 HR.out.symm,rfl⟩
):p:=h
theorem qcg (n k:Int)(r:Bool)(hr:hasI n k=r)(w:World):
  Calls Tryz.prog 80 #[.int .i64 n,.int .i64 k] w fun e w'=>e=.returned (.bool r)∧w=w':=by
 subst hr;by_cases h1:0≤k
 ·by_cases h2:k<16
  ·have HR:Hid ((bits .and .i64 (n / 2 ^ k.toNat) 1==1)=hasI n k):=z_ (by
    rw [qxn,Bool.eq_iff_iff];unfold hasI
    simp [h1,h2])
   go_enter Tryz.func80,Tryz.ntmps80
   go_wp2;go_ret;exact ⟨qa0 HR.out,rfl⟩
  ·have HR:Hid (hasI n k=false):=z_ (by unfold hasI;simp;omega)
   have d:decide (k<16)=false:=by simpa using h2
   exact c3_
 ·have HR:Hid (hasI n k=false):=z_ (by unfold hasI;simp;omega)
  have d:decide (0≤k)=false:=by simpa using h1
  exact c3_
end Go.Proofs.YtiilamngcoegiaaGreat.sets
