
import Derived.Test.YtiilamngcoegiaaGreatSubs
import Derived.Test.YtiilamngcoegiaaGreatSets
namespace Go.Proofs.YtiilamngcoegiaaGreat.sortn
set_option maxRecDepth 100000
open Go.ChangeShapes Go.WideShapes Go.ChangeAt Go.RowKit
open mem split strl subs
def isL (b:UInt8):Bool:=decide ((97≤b.toNat∧b.toNat≤122)∨(65≤b.toNat∧b.toNat≤90))
def isDg (b:UInt8):Bool:=decide (48≤b.toNat∧b.toNat≤57)
def isLD (b:UInt8):Bool:=isL b || isDg b
def qaz (l:List UInt8):Bool:=decide (1≤l.length∧l.length≤12)&&isL (l.getD 0 0)&&l.all isLD&&decide (l≠[105,102])&&decide (l≠[97,110,100])
theorem qkv (l:List UInt8)(f:UInt8→Bool)(k:Nat)(h:k<l.length):(l.take (k+1)).all f=((l.take k).all f&&f (l.getD k 0)):=by
 rw [List.take_succ_eq_append_getElem h,List.all_append];simp [List.getD,List.getElem?_eq_getElem h]
theorem qu5 (l:List UInt8)(f:UInt8→Bool)(k:Nat)(h:k<l.length)(hf:f (l.getD k 0)=false):l.all f=false:=by
 simp only [List.all_eq_false];exact ⟨l[k],List.getElem_mem h,by simpa [List.getD,List.getElem?_eq_getElem h] using hf⟩
theorem qcf (l:List UInt8):(bstr l).toList=l:=by rw [ByteArray.toList_eq];exact qf3 l
theorem i1_ {p:Prop}(h:p:=by
 go_wp2;go_ret;exact ⟨qa0 (by first|exact HQ.out.symm|(rw [HQ.out];simp;omega)),rfl⟩
):p:=h
theorem j4_ {p:Prop}(h:p:=by
 go_enter Tryz.func223,Tryz.ntmps223
 exact i1_
):p:=h
theorem c14_ {p:Prop}(h:p:=by
 have HQ:Hid (r=false):=z_ (by rw [← HR.out];simp;omega);exact j4_
):p:=h
theorem c16_ {p:Prop}(h:p:=by
 have HQ:Hid (r=true):=z_ (by rw [← HR.out];simp;omega);exact j4_
):p:=h
theorem qkw (b:UInt8)(r:Bool)(hr:isL b=r)(w:World):
  Calls Tryz.prog 223 #[.int .u8 (b.toNat:Int)] w fun e w'=>e=.returned (.bool r)∧w=w':=by
 obtain ⟨x,hx⟩:=e_ (b.toNat);have HR:Hid (decide ((97≤x∧x≤122)∨(65≤x∧x≤90))=r):=z_ (by rw [← hr,isL,hx]);rw [← hx];clear hx hr;have aa:(97≤x∧x≤122)∨(122<x)∨(65≤x∧x≤90)∨(90<x∧x<97)∨x<65:=o_;rcases aa with ⟨h1,h2⟩|h1|⟨h1,h2⟩|⟨h1,h2⟩|h1
 ·exact c16_
 ·exact c14_
 ·exact c16_
 ·exact c14_
 ·exact c14_
theorem j5_ {p:Prop}(h:p:=by
 go_enter Tryz.func224,Tryz.ntmps224
 exact i1_
):p:=h
theorem c15_ {p:Prop}(h:p:=by
 have HQ:Hid (r=false):=z_ (by rw [← HR.out];simp;omega);exact j5_
):p:=h
theorem qqg (b:UInt8)(r:Bool)(hr:isDg b=r)(w:World):
  Calls Tryz.prog 224 #[.int .u8 (b.toNat:Int)] w fun e w'=>e=.returned (.bool r)∧w=w':=by
 obtain ⟨x,hx⟩:=e_ (b.toNat);have HR:Hid (decide (48≤x∧x≤57)=r):=z_ (by rw [← hr,isDg,hx]);rw [← hx];clear hx hr;have aa:(48≤x∧x≤57)∨(57<x)∨x<48:=o_;rcases aa with ⟨h1,h2⟩|h1|h1
 ·have HQ:Hid (r=true):=z_ (by rw [← HR.out];simp;omega)
  exact j5_
 ·exact c15_
 ·exact c15_
theorem i2_ {p:Prop}(h:p:=by
 go_wp2;go_ret;exact ⟨qa0 HQ.out.symm,rfl⟩
):p:=h
theorem j7_ {p:Prop}(h:p:=by
 exact i2_
):p:=h
theorem c18_ {p:Prop}(h:p:=by
 have HQ:Hid (r=false):=z_ (by rw [← HR.out];simp [qaz];omega);go_enter Tryz.func187,Tryz.ntmps187
 exact j7_
):p:=h
theorem c21_ {p:Prop}(h:p:=by
 go_round
 case rel=>exact ⟨k+1,by omega,by go_num,af⟩
 case measure=>simp [intOf];omega
):p:=h
theorem c23_ {p:Prop}(h:p:=by
 exact j7_
):p:=h
theorem qi4 (l:List UInt8)(hl:l.length≤maxLen)(r:Bool)(hr:qaz l=r)(w:World):
  Calls Tryz.prog 187 #[.string (bstr l)] w fun e w'=>e=.returned (.bool r)∧w=w':=by
 unfold maxLen at hl;have hsz:(bstr l).size=l.length:=qbg l;have HR:=z_ hr;clear hr;by_cases ak:l.length<1
 ·exact c18_
 by_cases al:12<l.length
 ·exact c18_
 have ae:∀ w:World,(Instr.index 9 (.string (bstr l)) (.int .i64 0)).run Tryz.prog w=.ok (.int .u8 ((l.getD 0 0).toNat:Int)) w:=fun w=>qbq (i:=0) w Tryz.underlying9 o_
 have am:decide ((l.length:Int)<1)=false:=by simp;omega
 have an:decide ((12:Int)<(l.length:Int))=false:=by simp;omega
 obtain ⟨b,hb⟩:=e_ (l.getD 0 0);rw [← hb] at ae;cases hL:isL b with
 | false=>
  have HQ:Hid (r=false):=z_ (by rw [← HR.out];simp only [qaz];rw [← hb,hL];simp);have HC:=z_ (fun W=>qkw b false hL W);clear hL hb;go_enter Tryz.func187,Tryz.ntmps187
  go_wp2_with (go_at_call 223;refine (HC.out _).mono ?_;rintro e w1 ⟨rfl,rfl⟩)
  go_ret;exact ⟨qa0 HQ.out.symm,rfl⟩
 | true=>
  have HC:=z_ (fun W=>qkw b true hL W);have HL:=z_ hL;have HB:=z_ hb;clear hL hb;go_enter Tryz.func187,Tryz.ntmps187
  go_wp2_with (go_at_call 223;refine (HC.out _).mono ?_;rintro e w1 ⟨rfl,rfl⟩)
  go_loop [3,20] (fun u i=>∃ k:Nat,k≤l.length∧i=.int .i64 k∧Hid ((l.take k).all isLD=true)) (fun _ i=>l.length-(intOf i).toNat)
  case atStart=>exact ⟨0,y_,rfl,z_ (by simp)⟩
  case round=>
   obtain ⟨k,hk,rfl,HA⟩:=hrel;by_cases hlt:k<l.length
   ·have ac:∀ w:World,(Instr.index 9 (.string (bstr l)) (.int .i64 (k:Int))).run Tryz.prog w=.ok (.int .u8 ((l.getD k 0).toNat:Int)) w:=fun w=>qbq w Tryz.underlying9 hlt
    obtain ⟨c,hc⟩:=e_ (l.getD k 0);rw [← hc] at ac;cases aa:isL c with
    | true=>
     have ad:=z_ (fun W=>qkw c true aa W);have af:Hid ((l.take (k+1)).all isLD=true):=z_ (by rw [qkv l _ k hlt,HA.out,← hc,isLD,aa];rfl);clear aa hc;go_wp2_with (go_at_call 223;refine (ad.out _).mono ?_;rintro e w1 ⟨rfl,rfl⟩)
     exact c21_
    | false=>
     have ad:=z_ (fun W=>qkw c false aa W);cases ab:isDg c with
     | true=>
      have ag:=z_ (fun W=>qqg c true ab W);have af:Hid ((l.take (k+1)).all isLD=true):=z_ (by rw [qkv l _ k hlt,HA.out,← hc,isLD,ab];simp);clear aa hc ab;go_wp2_with (first|(go_at_call 223;refine (ad.out _).mono ?_;rintro e w1 ⟨rfl,rfl⟩)|(go_at_call 224;refine (ag.out _).mono ?_;rintro e w1 ⟨rfl,rfl⟩))
      exact c21_
     | false=>
      have ag:=z_ (fun W=>qqg c false ab W)
      have HQ:Hid (r=false):=z_ (by
       have ah:=qu5 l isLD k hlt (by rw [← hc,isLD,aa,ab];rfl)
       rw [← HR.out];simp only [qaz];rw [ah];simp)
      clear aa hc ab;go_wp2_with (first|(go_at_call 223;refine (ad.out _).mono ?_;rintro e w1 ⟨rfl,rfl⟩)|(go_at_call 224;refine (ag.out _).mono ?_;rintro e w1 ⟨rfl,rfl⟩))
      go_ret;exact ⟨qa0 HQ.out.symm,rfl⟩
   ·obtain rfl:k=l.length:=o_
    have hA:l.all isLD=true:=by have:=HA.out;rwa [List.take_length] at this
    by_cases h1:l=[105,102]
    ·have HQ:Hid (r=false):=z_ (by rw [← HR.out];simp only [qaz];rw [h1];simp)
     have ai:((bstr l).toList==[105,102])=true:=by rw [qcf,h1];rfl
     have H1:=z_ h1;clear hA h1;exact c23_
    ·by_cases h2:l=[97,110,100]
     ·have HQ:Hid (r=false):=z_ (by rw [← HR.out];simp only [qaz];rw [h2];simp)
      have ai:((bstr l).toList==[105,102])=false:=by rw [qcf];simpa using h1
      have aj:((bstr l).toList==[97,110,100])=true:=by rw [qcf,h2];rfl
      have H1:=z_ h2;clear hA h1 h2;exact c23_
     ·have HQ:Hid (r=true):=z_ (by
       rw [← HR.out];simp only [qaz];rw [hA,← HB.out,HL.out];simp [h1,h2];omega)
      have ai:((bstr l).toList==[105,102])=false:=by rw [qcf];simpa using h1
      have aj:((bstr l).toList==[97,110,100])=false:=by rw [qcf];simpa using h2
      clear hA h1 h2;exact c23_
theorem qon (y:Int):
  (decide (97≤y)=true∧decide (y≤122)=true) ∨
  (decide (97≤y)=false∧decide (65≤y)=true∧decide (y≤90)=true) ∨
  (decide (97≤y)=false∧decide (65≤y)=false∧decide (48≤y)=true∧decide (y≤57)=true) ∨
  (decide (97≤y)=true∧decide (y≤122)=false∧decide (65≤y)=true∧decide (y≤90)=false∧decide (48≤y)=true∧decide (y≤57)=false) ∨
  (decide (97≤y)=false∧decide (65≤y)=true∧decide (y≤90)=false∧decide (48≤y)=true∧decide (y≤57)=false) ∨
  (decide (97≤y)=false∧decide (65≤y)=false∧decide (48≤y)=true∧decide (y≤57)=false) ∨
  (decide (97≤y)=false∧decide (65≤y)=false∧decide (48≤y)=false):=by
 simp only [decide_eq_true_eq,decide_eq_false_iff_not];omega
def clL (y:Int):Bool:=decide ((97≤y∧y≤122)∨(65≤y∧y≤90))
def clD (y:Int):Bool:=decide (48≤y∧y≤57)
theorem qu6 (b:UInt8):isL b=clL (b.toNat:Int):=by
 rw [isL,clL,decide_eq_decide];omega
theorem qu7 (b:UInt8):isLD b=(clL (b.toNat:Int) || clD (b.toNat:Int)):=by
 rw [isLD,qu6,isDg,clD];congr 1;rw [decide_eq_decide];omega
theorem j2_ {p:Prop}(h:p:=by
 have ac:Hid ((l.take (k+1)).all isLD=true):=z_ (ad.out (by simp only [clL,clD,Bool.or_eq_true,decide_eq_true_eq,decide_eq_false_iff_not] at *;omega) HK.out);go_wp2;go_round
 case rel=>exact ⟨k+1,by omega,by go_num,ac⟩
 case measure=>simp [intOf];omega
):p:=h
theorem j3_ {p:Prop}(h:p:=by
 have HQ:Hid (r=false):=z_ (ab.out (by simp only [clL,clD,Bool.or_eq_false_iff,decide_eq_true_eq,decide_eq_false_iff_not] at *;omega));exact i2_
):p:=h
theorem c11_ {p:Prop}(h:p:=by
 rcases qon y with ⟨g1,g2⟩|⟨g1,g2,g3⟩|⟨g1,g2,g3,g4⟩|⟨g1,g2,g3,g4,g5,g6⟩|⟨g1,g2,g3,g4,g5⟩|⟨g1,g2,g3,g4⟩|⟨g1,g2,g3⟩
 ·exact j2_
 ·exact j2_
 ·exact j2_
 ·exact j3_
 ·exact j3_
 ·exact j3_
 ·exact j3_
):p:=h
theorem j6_ {p:Prop}(h:p:=by
 go_enter Tryz.func132,Tryz.ntmps132
 exact i2_
):p:=h
theorem c12_ {p:Prop}(h:p:=by
 have HQ:Hid (r=false):=z_ (HL.out (by simp only [clL,decide_eq_true_eq,decide_eq_false_iff_not] at *;omega));exact j6_
):p:=h
theorem c17_ {p:Prop}(h:p:=by
 obtain rfl:k=l.length:=o_;have HQ:Hid (r=true):=z_ (af.out (by have:=HK.out;rwa [List.take_length] at this));exact j7_
):p:=h
theorem c19_ {p:Prop}(h:p:=by
 have HQ:Hid (r=false):=z_ (by rw [← HR.out];simp [qaz];omega);exact j6_
):p:=h
theorem c22_ {p:Prop}(h:p:=by
 exact j6_
):p:=h
set_option maxHeartbeats 1000000 in
theorem qfl (l:List UInt8)(hl:l.length≤maxLen)(r:Bool)(hr:qaz l=r)(w:World):
  Calls Tryz.prog 132 #[.string (bstr l)] w fun e w'=>e=.returned (.bool r)∧w=w':=by
 unfold maxLen at hl;have hsz:(bstr l).size=l.length:=qbg l;have HR:=z_ hr;clear hr;by_cases h1:l=[105,102]
 ·have HQ:Hid (r=false):=z_ (by rw [← HR.out];simp only [qaz];rw [h1];simp)
  have ag:((bstr l).toList==[105,102])=true:=by rw [qcf,h1];rfl
  clear h1;exact c22_
 have ag:((bstr l).toList==[105,102])=false:=by rw [qcf];simpa using h1
 by_cases h2:l=[97,110,100]
 ·have HQ:Hid (r=false):=z_ (by rw [← HR.out];simp only [qaz];rw [h2];simp)
  have ah:((bstr l).toList==[97,110,100])=true:=by rw [qcf,h2];rfl
  clear h1 h2;exact c22_
 have ah:((bstr l).toList==[97,110,100])=false:=by rw [qcf];simpa using h2
 have H1:=z_ h1;have H2:=z_ h2;clear h1 h2;by_cases ai:l.length<1
 ·exact c19_
 by_cases aj:12<l.length
 ·exact c19_
 have ae:∀ w:World,(Instr.index 9 (.string (bstr l)) (.int .i64 0)).run Tryz.prog w=.ok (.int .u8 ((l.getD 0 0).toNat:Int)) w:=fun w=>qbq (i:=0) w Tryz.underlying9 o_
 have ak:decide ((l.length:Int)<1)=false:=by simp;omega
 have al:decide ((12:Int)<(l.length:Int))=false:=by simp;omega
 have HL:Hid (clL ((l.getD 0 0).toNat:Int)=false→r=false):=z_ (by
  intro h;rw [← HR.out];simp only [qaz];rw [qu6,h];simp)
 have HT:Hid (clL ((l.getD 0 0).toNat:Int)=true→l.all isLD=true→r=true):=z_ (by
  intro h h';rw [← HR.out];simp only [qaz];rw [qu6,h,h'];have:=H1.out;have:=H2.out;simp [*];omega)
 have HF:Hid (∀ k,k<l.length→(clL ((l.getD k 0).toNat:Int) || clD ((l.getD k 0).toNat:Int))=false→r=false):=z_ (by
  intro k hk h;rw [← HR.out];simp only [qaz];rw [qu5 l isLD k hk (by rw [qu7];exact h)];simp)
 have HA:Hid (∀ k,k<l.length→(clL ((l.getD k 0).toNat:Int) || clD ((l.getD k 0).toNat:Int))=true→(l.take k).all isLD=true→(l.take (k+1)).all isLD=true):=z_ (by
  intro k hk h h2;rw [qkv l _ k hk,h2,qu7,h];rfl)
 obtain ⟨x,hx⟩:∃ x:Int,x=((l.getD 0 0).toNat:Int):=⟨_,rfl⟩;rw [← hx] at ae HL HT;clear hx;rcases qon x with ⟨h1,h2⟩|⟨h1,h2,h3⟩|⟨h1,h2,_⟩|⟨h1,h2,h3,h4,_⟩|⟨h1,h2,h3,_⟩|⟨h1,h2,_⟩|⟨h1,h2,_⟩
 ·have af:Hid (l.all isLD=true→r=true):=z_ (HT.out (by simp only [clL,decide_eq_true_eq] at *;omega))
  go_enter Tryz.func132,Tryz.ntmps132
  go_wp2;go_loop [3] (fun i=>∃ k:Nat,k≤l.length∧i=.int .i64 k∧Hid ((l.take k).all isLD=true)) (fun i=>l.length-(intOf i).toNat)
  case atStart=>exact ⟨0,y_,rfl,z_ (by simp)⟩
  case round=>
   obtain ⟨k,hk,rfl,HK⟩:=hrel;by_cases hlt:k<l.length
   ·have aa:∀ w:World,(Instr.index 9 (.string (bstr l)) (.int .i64 (k:Int))).run Tryz.prog w=.ok (.int .u8 ((l.getD k 0).toNat:Int)) w:=fun w=>qbq w Tryz.underlying9 hlt
    have ab:=z_ (HF.out k hlt);have ad:=z_ (HA.out k hlt);obtain ⟨y,hy⟩:∃ y:Int,y=((l.getD k 0).toNat:Int):=⟨_,rfl⟩;rw [← hy] at aa ab ad;clear hy ae h1 h2;exact c11_
   ·exact c17_
 ·have af:Hid (l.all isLD=true→r=true):=z_ (HT.out (by simp only [clL,decide_eq_true_eq] at *;omega))
  go_enter Tryz.func132,Tryz.ntmps132
  go_wp2;go_loop [3] (fun i=>∃ k:Nat,k≤l.length∧i=.int .i64 k∧Hid ((l.take k).all isLD=true)) (fun i=>l.length-(intOf i).toNat)
  case atStart=>exact ⟨0,y_,rfl,z_ (by simp)⟩
  case round=>
   obtain ⟨k,hk,rfl,HK⟩:=hrel;by_cases hlt:k<l.length
   ·have aa:∀ w:World,(Instr.index 9 (.string (bstr l)) (.int .i64 (k:Int))).run Tryz.prog w=.ok (.int .u8 ((l.getD k 0).toNat:Int)) w:=fun w=>qbq w Tryz.underlying9 hlt
    have ab:=z_ (HF.out k hlt);have ad:=z_ (HA.out k hlt);obtain ⟨y,hy⟩:∃ y:Int,y=((l.getD k 0).toNat:Int):=⟨_,rfl⟩;rw [← hy] at aa ab ad;clear hy ae h1 h2 h3;exact c11_
   ·exact c17_
 ·exact c12_
 ·exact c12_
 ·exact c12_
 ·exact c12_
 ·exact c12_
theorem qqh {w:World}{A:Option Addr}{n c:Nat}{xs:List Value}(h:Has w (.slice A n c) xs){k:Nat}(hk:k≤n):Has w (.slice A k c) (xs.take k):=by
 obtain ⟨A',c',e,h1,h2,h3⟩:=h;simp only [Value.slice.injEq] at e;obtain ⟨rfl,rfl,rfl⟩:=e;refine ⟨A,c,by rw [List.length_take];congr 1;omega,by rw [List.length_take];omega,h2,fun j u hu=>?_⟩;rw [List.getElem?_take] at hu;split at hu
 ·exact h3 j u hu
 ·cases hu
theorem qqi (P:List (List UInt8))(k:Nat):(ssv P).take k=ssv (P.take k):=by simp [ssv,List.map_take]
theorem qu8 {P:List (List UInt8)}{x:List UInt8}{k:Nat}(hk:k<P.length)(h:P.getD k []=x):x∈P:=by
 rw [← h];simp only [List.getD,List.getElem?_eq_getElem hk,Option.getD_some];exact List.getElem_mem hk
theorem c20_ {p:Prop}(h:p:=by
 clear aa hy;go_wp2;go_round
 case rel=>exact ⟨k+1,by omega,by go_num,ab⟩
 case measure=>simp [intOf];omega
):p:=h
theorem qu9 (P:List (List UInt8))(x:List UInt8)(v:Value)(w:World)(h:Has w v (ssv P)):
  Calls Tryz.prog 234 #[v,.string (bstr x)] w fun e w'=>∃ i:Int,e=.returned (.int .i64 i)∧-1≤i∧i≤9223372036854775807∧(0≤i↔x∈P)∧w=w':=by
 obtain ⟨A,c,rfl,h⟩:=h.shape (qb9 P);have hl:=h.len.2;have HH:=z_ h;clear h;go_enter Tryz.func234,Tryz.ntmps234
 go_wp2;go_loop [5,8] (fun u i=>∃ k:Nat,k≤P.length∧i=.int .i64 k∧Hid (x ∉ P.take k)) (fun _ i=>P.length-(intOf i).toNat)
 case atStart=>exact ⟨0,y_,rfl,z_ (by simp)⟩
 case round=>
  obtain ⟨k,hk,rfl,HX⟩:=hrel;by_cases hlt:k<P.length
  ·obtain ⟨g,o,rfl,hg,hcell⟩:=HH.out.cellAt hlt
   rw [qe0 P k hlt] at hcell;obtain ⟨y,hy⟩:=e_ (P.getD k []);rw [← hy] at hcell;by_cases aa:x=y
   ·subst aa
    have HM:Hid (x∈P):=z_ (qu8 hlt hy.symm);clear hy;go_wp2;go_ret;exact ⟨k,rfl,by omega,by omega,⟨fun _=>HM.out,fun _=>by omega⟩,rfl⟩
   ·have ac:((bstr x).toList==(bstr y).toList)=false:=by rw [qf4];simpa using aa
    have ab:Hid (x ∉ P.take (k+1)):=z_ (by rw [qfi P k hlt,← hy];simp only [List.mem_append,List.mem_singleton,not_or];exact ⟨HX.out,aa⟩);exact c20_
  ·obtain rfl:k=P.length:=o_
   have HM:Hid (x ∉ P):=z_ (by have:=HX.out;rwa [List.take_length] at this);go_wp2;go_ret;exact ⟨-1,rfl,by omega,by omega,⟨fun h=>by omega,fun h=>absurd h HM.out⟩,rfl⟩
theorem qmg (P:List (List UInt8))(x:List UInt8)(v:Value)(r:Bool)(hr:decide (x∈P)=r)(w:World)(h:Has w v (ssv P)):
  Calls Tryz.prog 216 #[v,.string (bstr x)] w fun e w'=>e=.returned (.bool r)∧w=w':=by
 have HI:=z_ (qu9 P x v w h);have HR:=z_ hr;obtain ⟨A,c,rfl,_⟩:=h.shape (qb9 P);clear h hr;go_enter Tryz.func216,Tryz.ntmps216
 go_wp2_with (go_at_call 234;refine HI.out.mono ?_;rintro e w1 ⟨i,rfl,ab,ac,aa,rfl⟩)
 go_ret;exact ⟨qa0 (by first|exact HR.out|(rw [← HR.out,Bool.eq_iff_iff];simp only [decide_eq_true_eq];exact aa)),rfl⟩
theorem qua (P:List (List UInt8))(x:List UInt8)(v:Value)(r:Bool)(hr:decide (x∈P)=r)(w:World)(h:Has w v (ssv P)):
  Calls Tryz.prog 178 #[v,.string (bstr x)] w fun e w'=>e=.returned (.bool r)∧w=w':=by
 obtain ⟨A,c,rfl,h⟩:=h.shape (qb9 P);have hl:=h.len.2;have HH:=z_ h;have HR:=z_ hr;clear h hr;go_enter Tryz.func178,Tryz.ntmps178
 go_wp2;go_loop [5] (fun i=>∃ k:Nat,k≤P.length∧i=.int .i64 k∧Hid (x ∉ P.take k)) (fun i=>P.length-(intOf i).toNat)
 case atStart=>exact ⟨0,y_,rfl,z_ (by simp)⟩
 case round=>
  obtain ⟨k,hk,rfl,HX⟩:=hrel;by_cases hlt:k<P.length
  ·obtain ⟨g,o,rfl,hg,hcell⟩:=HH.out.cellAt hlt
   rw [qe0 P k hlt] at hcell;obtain ⟨y,hy⟩:=e_ (P.getD k []);rw [← hy] at hcell;by_cases aa:y=x
   ·subst aa
    have HM:Hid (r=true):=z_ (by rw [← HR.out];simpa using qu8 hlt hy.symm);clear hy;go_wp2;go_ret;exact ⟨qa0 HM.out.symm,rfl⟩
   ·have ac:((bstr y).toList==(bstr x).toList)=false:=by rw [qf4];simpa using aa
    have ab:Hid (x ∉ P.take (k+1)):=z_ (by rw [qfi P k hlt,← hy];simp only [List.mem_append,List.mem_singleton,not_or];exact ⟨HX.out,fun e=>aa e.symm⟩);exact c20_
  ·obtain rfl:k=P.length:=o_
   have HM:Hid (r=false):=z_ (by rw [← HR.out];simp only [decide_eq_false_iff_not];have:=HX.out;rwa [List.take_length] at this);go_wp2;go_ret;exact ⟨qa0 HM.out.symm,rfl⟩
def qb2 (P:List (List UInt8))(k:Nat):Bool:=(List.range k).all fun i=>qaz (P.getD i [])&&!decide (P.getD i []∈P.take i)
theorem qe5 (P:List (List UInt8))(k:Nat):qb2 P (k+1)=(qb2 P k&&(qaz (P.getD k [])&&!decide (P.getD k []∈P.take k))):=by
 rw [qb2,List.range_succ,List.all_append];simp [qb2]
theorem qf7 (P:List (List UInt8))(k n:Nat)(hk:k<n)(h:qaz (P.getD k [])=false∨P.getD k []∈P.take k):qb2 P n=false:=by
 simp only [qb2,List.all_eq_false];refine ⟨k,by simpa using hk,?_⟩;rcases h with h|h
 ·rw [h];simp
 ·rw [decide_eq_true h];simp
theorem qqj (P:List (List UInt8))(hP:∀ k,k<P.length→(P.getD k []).length≤maxLen)(v:Value)(r:Bool)(hr:qb2 P P.length=r)(w:World)(h:Has w v (ssv P)):
  Calls Tryz.prog 170 #[v] w fun e w'=>e=.returned (.bool r)∧w=w':=by
 obtain ⟨A,c,rfl,h⟩:=h.shape (qb9 P);have hl:=h.len.2;have ac:P.length≤c:=by obtain ⟨A',c',e,h1,h2,_⟩:=h;simp only [Value.slice.injEq] at e;rw [e.2.2,← qb9 P];exact h1
 have HH:=z_ h;have HR:=z_ hr;have HP:=z_ hP;clear h hr hP;go_enter Tryz.func170,Tryz.ntmps170
 go_wp2;go_loop [3,4,7] (fun _ _ i=>∃ k:Nat,k≤P.length∧i=.int .i64 k∧Hid (qb2 P k=true)) (fun _ _ i=>P.length-(intOf i).toNat)
 case atStart=>exact ⟨0,y_,rfl,z_ rfl⟩
 case round=>
  obtain ⟨k,hk,rfl,HX⟩:=hrel;by_cases hlt:k<P.length
  ·obtain ⟨g,o,rfl,hg,hcell⟩:=HH.out.cellAt hlt
   rw [qe0 P k hlt] at hcell;have HT:=z_ (qqh HH.out (k:=k) o_);rw [qqi] at HT;have HS:=z_ (qe5 P k);have HB:=z_ (qf7 P k P.length hlt);have aa:=z_ (HP.out k hlt);obtain ⟨x,hx⟩:=e_ (P.getD k []);rw [← hx] at hcell HS HB aa;have HC:=z_ (fun r hr=>qmg (P.take k) x (.slice (some ⟨g,o,none⟩) k c) r hr w HT.out);clear hx;cases hn:qaz x with
   | false=>
    have HQ:Hid (r=false):=z_ (by rw [← HR.out];exact HB.out (.inl hn));have HN:=z_ (fun W=>qi4 x aa.out false hn W);clear hn;go_wp2_with (go_at_call 187;refine (HN.out _).mono ?_;rintro e w1 ⟨rfl,rfl⟩)
    go_ret;exact ⟨qa0 HQ.out.symm,rfl⟩
   | true=>
    have HN:=z_ (fun W=>qi4 x aa.out true hn W);by_cases hm:x∈P.take k
    ·have HQ:Hid (r=false):=z_ (by rw [← HR.out];exact HB.out (.inr hm))
     have ab:=z_ (HC.out true (by simpa using hm));clear hn hm;go_wp2_with (first|(go_at_call 187;refine (HN.out _).mono ?_;rintro e w1 ⟨rfl,rfl⟩)|(go_at_call 216;refine ab.out.mono ?_;rintro e w1 ⟨rfl,rfl⟩))
     go_ret;exact ⟨qa0 HQ.out.symm,rfl⟩
    ·have ad:Hid (qb2 P (k+1)=true):=z_ (by rw [HS.out,HX.out,hn];simpa using hm)
     have ab:=z_ (HC.out false (by simpa using hm));clear hn hm;go_wp2_with (first|(go_at_call 187;refine (HN.out _).mono ?_;rintro e w1 ⟨rfl,rfl⟩)|(go_at_call 216;refine ab.out.mono ?_;rintro e w1 ⟨rfl,rfl⟩))
     go_round
     case rel=>exact ⟨k+1,by omega,by go_num,ad⟩
     case measure=>simp [intOf];omega
  ·obtain rfl:k=P.length:=o_
   have HQ:Hid (r=true):=z_ (by rw [← HR.out];exact HX.out);exact c23_
def qbt (P:List (List UInt8)):Bool:=decide (1≤P.length∧P.length≤8)&&qb2 P P.length
theorem c13_ {p:Prop}(h:p:=by
 have HQ:Hid (r=false):=z_ (by rw [← hr];simp [qbt];omega);clear hr;go_enter Tryz.func147,Tryz.ntmps147
 exact i1_
):p:=h
theorem qkx (P:List (List UInt8))(hP:∀ k,k<P.length→(P.getD k []).length≤maxLen)(v:Value)(r:Bool)(hr:qbt P=r)(w:World)(h:Has w v (ssv P)):
  Calls Tryz.prog 147 #[v] w fun e w'=>e=.returned (.bool r)∧w=w':=by
 have HD:=z_ (fun r hr=>qqj P hP v r hr w h);obtain ⟨A,c,rfl,h⟩:=h.shape (qb9 P);have hl:=h.len.2;clear h hP;by_cases ab:P.length<1
 ·exact c13_
 ·by_cases ac:8<P.length
  ·exact c13_
  ·have aa:=z_ (HD.out r (by rw [← hr,qbt];simp;omega))
   have h1:decide ((1:Int)≤(P.length:Int))=true:=by simp;omega
   have h2:decide ((P.length:Int)≤8)=true:=by simp;omega
   clear hr;go_enter Tryz.func147,Tryz.ntmps147
   go_wp2_with (go_at_call 170;refine aa.out.mono ?_;rintro e w1 ⟨rfl,rfl⟩)
   go_ret;exact ⟨rfl,rfl⟩
end Go.Proofs.YtiilamngcoegiaaGreat.sortn
