
import Derived.Test.YtiilamngcoegiaaGreatZa
import Derived.Test.YtiilamngcoegiaaGreatRows
namespace Go.Proofs.YtiilamngcoegiaaGreat.dec
def dg (n:Nat):UInt8:=UInt8.ofNat (48+n % 10)
theorem qBt (n:Nat):((dg n).toNat:Int)=48+(n:Int) % 10:=by simp [dg];omega
def dig (n:Nat):List UInt8:=if _h:n<10 then [dg n] else dig (n / 10)++[dg n]
termination_by n
decreasing_by omega
theorem qq9 {n:Nat}(h:n<10):dig n=[dg n]:=by rw [dig,dif_pos h]
theorem qzw {n:Nat}(h:¬ n<10):dig n=dig (n / 10)++[dg n]:=by rw [dig,dif_neg h]
theorem qAa {n:Nat}(h:¬ n<10):(dig n).length=(dig (n / 10)).length+1:=by rw [qzw h];simp
theorem qBu (k:Nat):∀ n,n<10 ^ (k+1)→(dig n).length≤k+1:=by
 induction k with
 | zero=>intro n h;rw [qq9 (by simpa using h)];simp
 | succ k ih=>
  intro n h;by_cases aa:n<10
  ·rw [qq9 aa];simp
  ·rw [qAa aa]
   have:=ih (n / 10) (by rw [Nat.div_lt_iff_lt_mul o_];rw [Nat.pow_succ] at h;exact h);omega
theorem qqa {n:Nat}(h:n<18446744073709551616):(dig n).length≤20:=qBu 19 n o_
def Tail (N m:Nat)(o:List UInt8):Prop:=(m=0→o=dig N)∧(m≠0→dig N=dig m++o)
theorem qsa {N:Nat}(h:N≠0):Tail N N []:=⟨fun e=>absurd e h,fun _=>by simp⟩
theorem qty {N m:Nat}{o:List UInt8}(h:Tail N m o)(hm:m≠0):Tail N (m / 10) ([dg m]++o):=by
 have h:=h.2 hm;refine ⟨fun h0=>?_,fun h0=>?_⟩
 ·have hlt:m<10:=o_
  rw [h,qq9 hlt]
 ·have hlt:¬ m<10:=o_
  rw [h,qzw hlt,List.append_assoc]
theorem qxh {N m:Nat}{o:List UInt8}(h:Tail N m o):o.length≤(dig N).length:=by
 by_cases hm:m=0
 ·rw [h.1 hm];exact Nat.le_refl _
 ·rw [h.2 hm,List.length_append];omega
end Go.Proofs.YtiilamngcoegiaaGreat.dec
