
import Derived.Test.YtiilamngcoegiaaGreatQPk15
import Derived.Deep.RegionLaw
namespace Go.Proofs.YtiilamngcoegiaaGreat.termin
open Go.ChangeShapes Go.WideShapes Go.ChangeAt Go.RowKit
theorem Ah_{p:Prop}(h:p:=by rcases hg4 with h|h<;>(rw [h];first|(simp;done)|(simp;omega))):p:=h
theorem Al_{p:Prop}(h:p:=by have:=ai.2.size;first|(simp;done)|(simp;omega)):p:=h
variable {W w0 w w' w4:World}{x b n g cap k:Nat}{a s:Int}{l:List UInt8}{o:Obj}{c d:Value}
open mem dec rowl trm trmv terml termb termt termv termvo termx termz termvr termcf termvx
theorem qBj (l:List UInt8)(s:Int)(w:World):Calls Tryz.prog 165 #[.string (bstr l),.int .i64 s] w fun e w'=>e=.returned (.agg #[.int .i64 (-1),.string (bstr l),.int .i64 s,.slice none 0 0])∧Below w.heap.size w w':=by
 go_enter Tryz.func165,Tryz.ntmps165
 go_wp2;refine bodyPost_ret (v:=.agg #[.int .i64 (-1),.string (bstr l),.int .i64 s,.slice none 0 0]) (by simp [results,Tryz.results165,go_sem]) rfl ⟨rfl,?_⟩;repeat (first|(refine Below.setCell ?_ Ab_ _)|(refine Below.alloc ?_ Ab_ _))
 exact Below.refl _ _
def qde (b:Nat)(L:List TermM)(w:World)(e:Ending)(w':World):Prop:=∃ g cap m,m=L.length∧e=.returned (.slice (some ⟨g,0,none⟩) m cap)∧w'.ownsRow b 38 4 (.slice (some ⟨g,0,none⟩) m cap) m (flatV L)∧Below w.heap.size w w'
abbrev S4 (W:World)(x:Nat)(a:Int)(l:List UInt8)(s:Int)(w':World):Prop:=(w'.cell? ⟨x,0,none⟩=some (.int .i64 a)∧w'.cell? ⟨x,1,none⟩=some (.string (bstr l))∧w'.cell? ⟨x,2,none⟩=some (.int .i64 s)∧w'.cell? ⟨x,3,none⟩=some (.slice none 0 0))∧Below W.heap.size W w'
theorem S4.next{w1:World}(h:S4 W x a l s w0)(hx:x<W.heap.size)(hb:Below W.heap.size w0 w1):S4 W x a l s w1:=by
 have k:∀ y,w1.cell? ⟨x,y,none⟩=w0.cell? ⟨x,y,none⟩:=fun y=>hb.cell (p:=⟨x,y,none⟩) hx
 unfold S4;rw [k,k,k,k];exact ⟨h.1,h.2.trans hb⟩
theorem S4.al (h:S4 W x a l s w0)(hx:x<W.heap.size):S4 W x a l s (w0.alloc o):=h.next hx (b_.alloc h.2.size _)
theorem S4.ald (h:S4 W x a l s w0.drew)(hx:x<W.heap.size):S4 W x a l s (w0.alloc o).drew:=h.next hx ((Below.refl _ w0.drew).alloc h.2.size o)
theorem qjk (w:World):(w.alloc (.cells #[] 38)).drew.ownsRow w.heap.size 38 4 (.slice (some ⟨w.heap.size,0,none⟩) 0 0) 0 []:=World.ownsRow_lit (e:=38) (size:=4) w.drew #[] 0 n_ Aa_ rfl
theorem qpy (w:World)(o:Obj):((w.alloc (.cells #[] 38)).alloc o).drew.ownsRow w.heap.size 38 4 (.slice (some ⟨w.heap.size,0,none⟩) 0 0) 0 []:=own_below (qjk w) ((Below.refl _ (w.alloc (.cells #[] 38)).drew).alloc n_ o)
theorem qpz (w:World)(o:Obj):((w.alloc o).alloc (.cells #[] 38)).drew.ownsRow w.heap.size 38 4 (.slice (some ⟨w.heap.size+1,0,none⟩) 0 0) 0 []:=by
 have h:=qjk (w.alloc o);rw [show (w.alloc o).heap.size=w.heap.size+1 by simp] at h;exact qco h o_
theorem qcp{L:List TermM}(h:w.ownsRow b 38 4 (.slice (some ⟨g,0,none⟩) n cap) n (flatV L))(hk:k≤n)(hb:Below w.heap.size w w'):∀ (j:Nat) (x:Value),(flatV (L.take k))[j]? =some x→w'.cell? ((⟨g,0,none⟩:Addr).add j)=some x:=by
 intro j x hx;rw [← qkj] at hx;have aa:j<k*4:=by have:=(List.getElem?_eq_some_iff.1 hx).1;rw [List.length_take] at this;omega
 rw [List.getElem?_take_of_lt aa] at hx;have:=(own_below h hb).cellAt j o_;rw [hx] at this;rw [Addr.add_lit,Nat.zero_add];exact this
theorem qkx:∀ (L:List TermM) (k:Nat),flatV (L.drop k)=(flatV L).drop (k*4)
 | [],k=>by simp [flatV]
 | a::l,0=>by simp
 | a::l,k+1=>by rw [List.drop_succ_cons,qkx l k,flatV,show (k+1)*4=k*4+4 by omega];rfl
theorem qzh{L:List TermM}(h:w.ownsRow b 38 4 (.slice (some ⟨g,0,none⟩) n cap) n (flatV L))(hn:n=L.length)(hb:Below w.heap.size w w'):∀ (j:Nat) (x:Value),(flatV (L.drop k))[j]? =some x→w'.cell? ((⟨g,k*4,none⟩:Addr).add j)=some x:=by
 intro j x hx;rw [qkx,List.getElem?_drop] at hx;have aa:k*4+j<n*4:=by have:=(List.getElem?_eq_some_iff.1 hx).1;rw [qbn] at this;omega
 have:=(own_below h hb).cellAt (k*4+j) aa;rw [hx] at this;rw [Addr.add_lit];exact this
theorem qcd (l:List TermM):∀ x∈flatV l,x.oneCell'=true:=by
 induction l with
 | nil=>intro x hx;simp [flatV] at hx
 | cons a l ih=>
  intro x hx;simp only [flatV,List.mem_cons] at hx;rcases hx with rfl|rfl|rfl|rfl|hx
  ·rfl
  ·rfl
  ·rfl
  ·rfl
  ·exact ih x hx
theorem qBk{a b:Value}(h:((W.alloc (.cells #[] 38)).alloc (.cells #[a,b,c,d] 38)).drew.grownBy w4 (some W.heap.size)):∀ (j:Nat) (x:Value),[a,b,c,d][j]? =some x→w4.cell? ((⟨W.heap.size+1,0,none⟩:Addr).add j)=some x:=by
 intro j x hj;have h1:=at4 (W.alloc (.cells #[] 38)) a b c d 38 (W.heap.size+1) (by simp) j x hj;rw [Addr.add_lit,Nat.zero_add] at h1 ⊢;exact (h.cell_far ⟨W.heap.size+1,j,none⟩ (by simp) (by show some (W.heap.size+1)≠some W.heap.size;intro e;injection e;omega)).trans h1
theorem qBl{a b:Value}(h:((W.alloc (.cells #[a,b,c,d] 38)).alloc (.cells #[] 38)).drew.grownBy w4 (some (W.heap.size+1))):∀ (j:Nat) (x:Value),[a,b,c,d][j]? =some x→w4.cell? ((⟨W.heap.size,0,none⟩:Addr).add j)=some x:=by
 intro j x hj;have h1:=one4 W a b c d 38 j x hj;rw [Addr.add_lit,Nat.zero_add] at h1 ⊢;have h2:=((Below.refl (W.alloc (.cells #[a,b,c,d] 38)).heap.size (W.alloc (.cells #[a,b,c,d] 38))).alloc n_ (.cells #[] 38)).cell (p:=⟨W.heap.size,j,none⟩) (by simp);exact (h.cell_far ⟨W.heap.size,j,none⟩ (by simp;omega) (by show some W.heap.size≠some (W.heap.size+1);intro e;injection e;omega)).trans (h2.trans h1)
theorem S4.grown {W w0 w1:World}{x g:Nat}{a:Int}{l:List UInt8}{s:Int}(h:S4 W x a l s w0)(hx:x<W.heap.size)(hg:w0.grownBy w1 (some g))(aa:W.heap.size≤g):S4 W x a l s w1:=
 h.next hx (b_.grown hg h.2.size (by intro k hk;cases hk;exact aa))
set_option maxRecDepth 50000 in
set_option maxHeartbeats 8000000 in
theorem qtl (L:List TermM)(t:TermM)(n g cap b:Nat)(w:World)(hn:n=L.length)(bj:n≤1073741824)(hL:∀ x∈L,Flat x)(ht:Flat t)(hb:b≤w.heap.size)(ho:w.ownsRow b 38 4 (.slice (some ⟨g,0,none⟩) n cap) n (flatV L)):
  Calls Tryz.prog 164 #[.slice (some ⟨g,0,none⟩) n cap,.agg #[.int .i64 t.op,.string (bstr t.name),.int .i64 t.sort,.slice none 0 0]] w (qde b (insT L t) w):=by
 obtain ⟨bl,bm,hnc⟩:=qc8 ho;obtain ⟨j0,aj,ak,am,an⟩:=info_parts qb1;have aX:t.args=[]:=ht.1;have HC:=z_ (fun x (hx:x.args=[]) W=>qgc (n:=1) (m:=1) (lo:=0) (lo':=0) x t (.slice none 0 0) (.slice none 0 0) W (by rw [hx];exact HasR.nil _ _ _ Aa_ _) (by rw [aX];exact HasR.nil _ _ _ Aa_ _));have aY:=z_ (fun x (hx:x.args=[]) W r hr=>qew (n:=1) (m:=1) (lo:=0) (lo':=0) x t (.slice none 0 0) (.slice none 0 0) W (by rw [hx];exact HasR.nil _ _ _ Aa_ _) (by rw [aX];exact HasR.nil _ _ _ Aa_ _) r hr);have HA:Hid (∀ j,j<n→(L.getD j default).args=[]):=z_ (fun j hj=>by rw [qai o_];exact (hL _ (List.getElem_mem _)).1);have HN:=z_ hn;have HO:=z_ ho;have aU:Hid ([.int .i64 t.op,.string (bstr t.name),.int .i64 t.sort,.slice none 0 0]=flatV [t]):=z_ rfl;obtain ⟨to,aZ⟩:=e_ (t.op);obtain ⟨tn,a6⟩:=e_ (t.name);obtain ⟨ts,a7⟩:=e_ (t.sort);rw [← aZ,← a6,← a7] at HC aU ⊢;unfold aggT at aY;rw [← aZ,← a6,← a7] at aY;clear hn hL ho ht aX aZ a6 a7;go_enter Tryz.func164,Tryz.ntmps164
 go_wp2;go_loopw [5] (fun v5 wr=>∃ k:Nat,v5=.int .i64 k∧k≤n∧Hid (∀ j,j<k→cmp (L.getD j default) t<0)∧Below (w.heap.size+1) (w.alloc (.cells #[.int .i64 to,.string (bstr tn),.int .i64 ts,.slice none 0 0] 38)) wr) (fun i _=>n-(intOf i).toNat)
 case atStart=>exact ⟨0,rfl,y_,z_ (fun j h=>by omega),Below.refl _ _⟩
 case round=>
  obtain ⟨k,rfl,aJ,HJ,av⟩:=hrel;have hsz:w.heap.size+1≤wr.heap.size:=by have:=av.size;simp at this;omega
  have aN:Below w.heap.size w wr:=(b_.alloc n_ _).trans (av.mono o_);have aI:w.heap.size<wr.heap.size:=o_;have aV:g<wr.heap.size:=o_;have q0:wr.cell? ⟨w.heap.size,0,none⟩=some (.int .i64 to):=(av.cell (p:=⟨w.heap.size,0,none⟩) (Nat.lt_succ_self _)).trans (by simp);have q1:wr.cell? ⟨w.heap.size,1,none⟩=some (.string (bstr tn)):=(av.cell (p:=⟨w.heap.size,1,none⟩) (Nat.lt_succ_self _)).trans (by simp);have q2:wr.cell? ⟨w.heap.size,2,none⟩=some (.int .i64 ts):=(av.cell (p:=⟨w.heap.size,2,none⟩) (Nat.lt_succ_self _)).trans (by simp);have q3:wr.cell? ⟨w.heap.size,3,none⟩=some (.slice none 0 0):=(av.cell (p:=⟨w.heap.size,3,none⟩) (Nat.lt_succ_self _)).trans (by simp);have s0:∀ t:BoxC (Below wr.heap.size wr),t.W.cell? ⟨w.heap.size,0,none⟩=some (.int .i64 to):=fun t=>t.cell q0 aI
  have s1:∀ t:BoxC (Below wr.heap.size wr),t.W.cell? ⟨w.heap.size,1,none⟩=some (.string (bstr tn)):=fun t=>t.cell q1 aI
  have s2:∀ t:BoxC (Below wr.heap.size wr),t.W.cell? ⟨w.heap.size,2,none⟩=some (.int .i64 ts):=fun t=>t.cell q2 aI
  have s3:∀ t:BoxC (Below wr.heap.size wr),t.W.cell? ⟨w.heap.size,3,none⟩=some (.slice none 0 0):=fun t=>t.cell q3 aI
  have HQ:Hid (S4 wr w.heap.size to tn ts wr):=z_ ⟨⟨q0,q1,q2,q3⟩,Below.refl _ _⟩;have aM:=z_ (own_below HO.out aN);clear q0 q1 q2 q3;have nb:Nonempty (BoxC (Below wr.heap.size wr)):=⟨⟨_,Below.refl _ _⟩⟩;by_cases bf:k<n
  ·have bk:n=L.length:=HN.out
   obtain ⟨c0,c1,c2,c3⟩:=qgi aM.out bf (qd8 o_);obtain ⟨x,hx⟩:=e_ (L.getD k default);rw [← hx] at c0 c1 c2;have a8:x.args=[]:=by rw [hx];exact HA.out _ bf
   have HX:=z_ hx;have aW:=z_ (HC.out x a8);have ba:=z_ (aY.out x a8);obtain ⟨r,hr⟩:=e_ (cmp x t);rw [← hr] at aW ba;have HR:=z_ hr;have r0:∀ t:BoxC (Below wr.heap.size wr),t.W.cell? ⟨g,k*4,none⟩=some (.int .i64 x.op):=fun t=>t.cell c0 aV
   have r1:∀ t:BoxC (Below wr.heap.size wr),t.W.cell? ⟨g,k*4+1,none⟩=some (.string (bstr x.name)):=fun t=>t.cell c1 aV
   have r2:∀ t:BoxC (Below wr.heap.size wr),t.W.cell? ⟨g,k*4+2,none⟩=some (.int .i64 x.sort):=fun t=>t.cell c2 aV
   have r3:∀ t:BoxC (Below wr.heap.size wr),t.W.cell? ⟨g,k*4+3,none⟩=some (.slice none 0 0):=fun t=>t.cell c3 aV
   clear bk a8 hr hx c0 c1 c2 c3;have i1:(0:Int)≤(k:Int):=o_;have i2:(k:Int)<(n:Int):=o_;by_cases bb:r<0
   ·go_wp2_with fail
    refine qa1 (C:=Below wr.heap.size wr) k_ k_ b_.drew ?_;repeat (go_big_quiet_step ((go_at_call 82;exact (aW.out _).mono (fun _ _ h=>⟨h.1,BoxC.step _ h.2⟩))))
    refine wpQuiet_nil ?_;rintro w5 ⟨t5,rfl⟩;have hh:=t5.h;clear r0 r1 r2 r3 s0 s1 s2 s3;go_wp2;go_roundw
    case measure=>simp [intOf];omega
    case rel=>exact ⟨k+1,by go_num,by omega,z_ (fun j hj=>by
     by_cases e:j=k
     ·subst e;rw [← HX.out,← HR.out];exact bb
     ·exact HJ.out j o_),av.trans (hh.mono (by have:=av.size;simp at this;omega))⟩
   ·have bn:0≤r:=o_
    have bg:¬ r<0:=bb;clear bb;by_cases aO:r=0
    ·have bc:Hid (decide (r=0)=true):=z_ (decide_eq_true aO)
     have HI:Hid (insT L t=L):=z_ (by
      rw [ql0 k L t Ac_ HJ.out (fun _=>by rw [← HX.out,← HR.out];exact bg),if_pos ⟨by have:=HN.out;omega,by rw [← HX.out,← HR.out];exact aO⟩])
     clear aO;go_wp2_with fail
     refine qa1 (C:=Below wr.heap.size wr) k_ k_ b_.drew ?_;repeat (go_big_quiet_step ((go_at_call 82;exact (aW.out _).mono (fun _ _ h=>⟨h.1,BoxC.step _ h.2⟩))))
     refine wpQuiet_nil ?_;rintro w5 ⟨t5,rfl⟩;have hh:=t5.h;go_wp2_with fail
     refine qa1 (C:=Below wr.heap.size wr) k_ k_ hh.drew ?_;repeat (go_big_quiet_step ((go_at_call 58;exact (ba.out _ _ bc.out).mono (fun _ _ h=>⟨h.1,BoxC.step _ h.2⟩))))
     refine wpQuiet_nil ?_;rintro w6 ⟨t6,rfl⟩;have au:=t6.h;clear hh;clear s0 s1 s2 s3;clear r0 r1 r2 r3;go_wp2;go_ret;exact ⟨g,cap,n,by rw [HI.out];exact HN.out,rfl,by rw [HI.out];exact own_below HO.out (aN.trans (au.mono o_)),aN.trans (au.mono o_)⟩
    ·have bc:Hid (decide (r=0)=false):=z_ (decide_eq_false aO)
     have HI:Hid (insT L t=L.take k++t::L.drop k):=z_ (by
      rw [ql0 k L t Ac_ HJ.out (fun _=>by rw [← HX.out,← HR.out];exact bg),if_neg (fun h=>aO (by rw [HR.out,HX.out];exact h.2))])
     clear aO;go_wp2_with fail
     refine qa1 (C:=Below wr.heap.size wr) k_ k_ b_.drew ?_;repeat (go_big_quiet_step ((go_at_call 82;exact (aW.out _).mono (fun _ _ h=>⟨h.1,BoxC.step _ h.2⟩))))
     refine wpQuiet_nil ?_;rintro w5 ⟨t5,rfl⟩;have hh:=t5.h;go_wp2_with fail
     refine qa1 (C:=Below wr.heap.size wr) k_ k_ hh.drew ?_;repeat (go_big_quiet_step ((go_at_call 58;exact (ba.out _ _ bc.out).mono (fun _ _ h=>⟨h.1,BoxC.step _ h.2⟩))))
     refine wpQuiet_nil ?_;rintro w6 ⟨t6,rfl⟩;have au:=t6.h;clear hh;clear s0 s1 s2 s3;clear r0 r1 r2 r3;have bh:¬ k=cap:=o_;have aB:=z_ (own_below aM.out au);have aC:Hid (Below w.heap.size w t6.W):=z_ (aN.trans (au.mono o_))
     have aF:Hid (S4 t6.W w.heap.size to tn ts t6.W):=z_ (by
      have h:=HQ.out.next aI au
      exact ⟨h.1,Below.refl _ _⟩)
     have ag:w.heap.size<t6.W.heap.size:=by have:=au.size;omega
     clear au aI HQ aM nb;generalize t6.W=W6 at aB aC aF ag ⊢
     have aG:Hid ((flatV (L.take k)).length=k*4):=z_ (by rw [qbn,List.length_take];have:=HN.out;omega);have bd:Hid ((flatV (L.drop k)).length=(n-k)*4):=z_ (by rw [qbn,List.length_drop,← HN.out]);have bi:(0:Int)≤(k:Int):=o_;have aP:(k:Int)≤(n:Int):=o_;have aQ:(k:Int)≤(cap:Int):=o_;obtain ⟨⟨b0,b1,b2,b3⟩,_⟩:=aF.out;go_wp2_with fail
     go_region_held3 (fun w'=>(w'.cell? ⟨w.heap.size,0,none⟩=some (.int .i64 to)∧w'.cell? ⟨w.heap.size,1,none⟩=some (.string (bstr tn))∧w'.cell? ⟨w.heap.size,2,none⟩=some (.int .i64 ts)∧w'.cell? ⟨w.heap.size,3,none⟩=some (.slice none 0 0))∧Below W6.heap.size W6 w')
      (first|(with_reducible assumption)|((with_reducible refine S4.ald ?_ ag);with_reducible assumption)|((with_reducible refine S4.al ?_ ag);with_reducible assumption)|(exact aF.out.next ag b_.drew))
      (first|((refine step_append_d (by rfl) _ _ _ (by rfl) W6.heap.size 38 j0 _ 4 56 Tryz.underlying36 aj ak am an rfl o_ W6.heap.size 0 0 [] (by rfl) (qjk W6) ⟨g,0,none⟩ k cap (flatV (L.take k)) (by rfl) aG.out (qcp aB.out aJ (by with_reducible assumption:S4 W6 w.heap.size to tn ts _).2) (qcd _) Aa_ o_ Ab_ ?_);intro g4 ae w4 aa ab hg4 aw ap;have ai:=S4.grown Ad_ ag ab o_;rw [Nat.zero_add,List.nil_append] at aa;simp only [Nat.zero_add];have ax:W6.heap.size≤g4:=Ah_)|((refine step_append_d (by rfl) _ _ _ (by rfl) W6.heap.size 38 j0 _ 4 56 Tryz.underlying36 aj ak am an rfl o_ W6.heap.size 0 0 [] (by rfl) (qpy W6 _) ⟨g,0,none⟩ k cap (flatV (L.take k)) (by rfl) aG.out (qcp aB.out aJ (by with_reducible assumption:S4 W6 w.heap.size to tn ts _).2) (qcd _) Aa_ o_ Ab_ ?_);intro g4 ae w4 aa ab hg4 aw ap;have ai:=S4.grown Ad_ ag ab o_;rw [Nat.zero_add,List.nil_append] at aa;simp only [Nat.zero_add];have ax:W6.heap.size≤g4:=Ah_)|((refine step_append_d (by rfl) _ _ _ (by rfl) W6.heap.size 38 j0 _ 4 56 Tryz.underlying36 aj ak am an rfl o_ (W6.heap.size+1) 0 0 [] (by rfl) (qpz W6 _) ⟨g,0,none⟩ k cap (flatV (L.take k)) (by rfl) aG.out (qcp aB.out aJ (by with_reducible assumption:S4 W6 w.heap.size to tn ts _).2) (qcd _) Aa_ o_ Ab_ ?_);intro g4 ae w4 aa ab hg4 aw ap;have ai:=S4.grown Ad_ ag ab o_;rw [Nat.zero_add,List.nil_append] at aa;simp only [Nat.zero_add];have ax:W6.heap.size≤g4:=Ah_)|((refine step_append_d (by rfl) _ _ _ (by rfl) W6.heap.size 38 j0 _ 4 56 Tryz.underlying36 aj ak am an rfl o_ g4 k ae (flatV (L.take k)) (by rfl) (own_below aa (b_.alloc n_ _)) ⟨w4.heap.size,0,none⟩ 1 1 [.int .i64 to,.string (bstr tn),.int .i64 ts,.slice none 0 0] (by rfl) (by rfl) (fun q x hq=>one4 w4 _ _ _ _ _ q x hq) (qaw rfl rfl rfl rfl) Aa_ o_ Al_ ?_);intro g5 ah w7 ac ad aD ay aq;have aE:=S4.grown Ad_ ag ad ax)|((refine step_append_d (by rfl) _ _ _ (by rfl) W6.heap.size 38 j0 _ 4 56 Tryz.underlying36 aj ak am an rfl o_ g4 k ae (flatV (L.take k)) (by rfl) (aa) ⟨W6.heap.size+1,0,none⟩ 1 1 [.int .i64 to,.string (bstr tn),.int .i64 ts,.slice none 0 0] (by rfl) (by rfl) (qBk ab) (qaw rfl rfl rfl rfl) Aa_ o_ Al_ ?_);intro g5 ah w7 ac ad aD ay aq;have aE:=S4.grown Ad_ ag ad ax)|((refine step_append_d (by rfl) _ _ _ (by rfl) W6.heap.size 38 j0 _ 4 56 Tryz.underlying36 aj ak am an rfl o_ g4 k ae (flatV (L.take k)) (by rfl) (aa) ⟨W6.heap.size,0,none⟩ 1 1 [.int .i64 to,.string (bstr tn),.int .i64 ts,.slice none 0 0] (by rfl) (by rfl) (qBl ab) (qaw rfl rfl rfl rfl) Aa_ o_ Al_ ?_);intro g5 ah w7 ac ad aD ay aq;have aE:=S4.grown Ad_ ag ad ax))
     all_goals
      have aK:=z_ ac;have aL:=z_ aE.2;have ao:=aL.out.size
      have aR:W6.heap.size≤g5:=(by
       rcases aD with h|h
       ·omega
       ·rw [h];first|(have:=ai.2.size;simp;omega)|(have:=ai.2.size;simp;done))
      clear ac ad aD aq aE aa ab hg4 ap ai b0 b1 b2 b3;go_wp2_with (at_builtin;refine wpList_append_d rfl _ _ _ rfl W6.heap.size 38 j0 _ 4 56 Tryz.underlying36 aj ak am an rfl o_ g5 (k+1) ah _ rfl aK.out ⟨g,k*4,none⟩ (n-k) (cap-k) (flatV (L.drop k)) rfl bd.out (qzh aB.out HN.out aL.out) (qcd _) Aa_ o_ ao ?_;intro g8 az w8 af aA aS aT aH)
      have HR:Hid (qde b (insT L t) w (.returned (.slice (some ⟨g8,0,none⟩) (k+1+(n-k)) az)) w8):=z_ (by
       rw [HI.out];rw [aU.out,← qbo,← qbo] at af;refine ⟨g8,az,_,?_,rfl,?_,aC.out.trans ((aL.out.grown aA ao (by intro k hk;cases hk;exact aR)).mono aC.out.size)⟩
       ·have:=HN.out
        simp;omega
       ·have h:=qco af (show b≤W6.heap.size by have:=aC.out.size;omega)
        simpa using h)
      clear af aA aS aH;go_wp2;go_ret;exact HR.out
  ·have HI:Hid (insT L t=L.take k++t::L.drop k):=z_ (by
    rw [ql0 k L t Ac_ HJ.out (fun h=>absurd h Ac_),if_neg (fun h=>absurd h.1 Ac_)])
   obtain rfl:k=n:=o_;go_wp2_with fail
   refine qa1 (C:=Below wr.heap.size wr) k_ k_ b_.drew ?_;repeat (go_big_quiet_step (fail))
   refine wpQuiet_nil ?_;rintro w5 ⟨t5,rfl⟩;have hh:=t5.h;go_wp2_with fail
   refine qa1 (C:=Below wr.heap.size wr) k_ k_ hh.drew ?_;repeat (go_big_quiet_step (fail))
   refine wpQuiet_nil ?_;rintro w6 ⟨t6,rfl⟩;have au:=t6.h;clear hh;clear s0 s1 s2 s3;by_cases bh:k=cap
   ·subst bh
    have aB:=z_ (own_below aM.out au);have aC:Hid (Below w.heap.size w t6.W):=z_ (aN.trans (au.mono o_))
    have aF:Hid (S4 t6.W w.heap.size to tn ts t6.W):=z_ (by
     have h:=HQ.out.next aI au
     exact ⟨h.1,Below.refl _ _⟩)
    have ag:w.heap.size<t6.W.heap.size:=by have:=au.size;omega
    clear au aI HQ aM nb;generalize t6.W=W6 at aB aC aF ag ⊢
    have aG:Hid ((flatV (L.take k)).length=k*4):=z_ (by rw [qbn,List.length_take];have:=HN.out;omega);have bd:Hid ((flatV (L.drop k)).length=(k-k)*4):=z_ (by rw [qbn,List.length_drop,← HN.out]);have bi:(0:Int)≤(k:Int):=o_;have aP:(k:Int)≤(k:Int):=o_;have aQ:(k:Int)≤(k:Int):=o_;obtain ⟨⟨b0,b1,b2,b3⟩,_⟩:=aF.out;go_wp2_with fail
    go_region_held3 (fun w'=>(w'.cell? ⟨w.heap.size,0,none⟩=some (.int .i64 to)∧w'.cell? ⟨w.heap.size,1,none⟩=some (.string (bstr tn))∧w'.cell? ⟨w.heap.size,2,none⟩=some (.int .i64 ts)∧w'.cell? ⟨w.heap.size,3,none⟩=some (.slice none 0 0))∧Below W6.heap.size W6 w')
     (first|(with_reducible assumption)|((with_reducible refine S4.ald ?_ ag);with_reducible assumption)|((with_reducible refine S4.al ?_ ag);with_reducible assumption)|(exact aF.out.next ag b_.drew))
     (first|((refine step_append_d (by rfl) _ _ _ (by rfl) W6.heap.size 38 j0 _ 4 56 Tryz.underlying36 aj ak am an rfl o_ W6.heap.size 0 0 [] (by rfl) (qjk W6) ⟨g,0,none⟩ k k (flatV (L.take k)) (by rfl) aG.out (qcp aB.out aJ (by with_reducible assumption:S4 W6 w.heap.size to tn ts _).2) (qcd _) Aa_ o_ Ab_ ?_);intro g4 ae w4 aa ab hg4 aw ap;have ai:=S4.grown Ad_ ag ab o_;rw [Nat.zero_add,List.nil_append] at aa;simp only [Nat.zero_add];have ax:W6.heap.size≤g4:=Ah_)|((refine step_append_d (by rfl) _ _ _ (by rfl) W6.heap.size 38 j0 _ 4 56 Tryz.underlying36 aj ak am an rfl o_ W6.heap.size 0 0 [] (by rfl) (qpy W6 _) ⟨g,0,none⟩ k k (flatV (L.take k)) (by rfl) aG.out (qcp aB.out aJ (by with_reducible assumption:S4 W6 w.heap.size to tn ts _).2) (qcd _) Aa_ o_ Ab_ ?_);intro g4 ae w4 aa ab hg4 aw ap;have ai:=S4.grown Ad_ ag ab o_;rw [Nat.zero_add,List.nil_append] at aa;simp only [Nat.zero_add];have ax:W6.heap.size≤g4:=Ah_)|((refine step_append_d (by rfl) _ _ _ (by rfl) W6.heap.size 38 j0 _ 4 56 Tryz.underlying36 aj ak am an rfl o_ (W6.heap.size+1) 0 0 [] (by rfl) (qpz W6 _) ⟨g,0,none⟩ k k (flatV (L.take k)) (by rfl) aG.out (qcp aB.out aJ (by with_reducible assumption:S4 W6 w.heap.size to tn ts _).2) (qcd _) Aa_ o_ Ab_ ?_);intro g4 ae w4 aa ab hg4 aw ap;have ai:=S4.grown Ad_ ag ab o_;rw [Nat.zero_add,List.nil_append] at aa;simp only [Nat.zero_add];have ax:W6.heap.size≤g4:=Ah_)|((refine step_append_d (by rfl) _ _ _ (by rfl) W6.heap.size 38 j0 _ 4 56 Tryz.underlying36 aj ak am an rfl o_ g4 k ae (flatV (L.take k)) (by rfl) (own_below aa (b_.alloc n_ _)) ⟨w4.heap.size,0,none⟩ 1 1 [.int .i64 to,.string (bstr tn),.int .i64 ts,.slice none 0 0] (by rfl) (by rfl) (fun q x hq=>one4 w4 _ _ _ _ _ q x hq) (qaw rfl rfl rfl rfl) Aa_ o_ Al_ ?_);intro g5 ah w7 ac ad aD ay aq;have aE:=S4.grown Ad_ ag ad ax)|((refine step_append_d (by rfl) _ _ _ (by rfl) W6.heap.size 38 j0 _ 4 56 Tryz.underlying36 aj ak am an rfl o_ g4 k ae (flatV (L.take k)) (by rfl) (aa) ⟨W6.heap.size+1,0,none⟩ 1 1 [.int .i64 to,.string (bstr tn),.int .i64 ts,.slice none 0 0] (by rfl) (by rfl) (qBk ab) (qaw rfl rfl rfl rfl) Aa_ o_ Al_ ?_);intro g5 ah w7 ac ad aD ay aq;have aE:=S4.grown Ad_ ag ad ax)|((refine step_append_d (by rfl) _ _ _ (by rfl) W6.heap.size 38 j0 _ 4 56 Tryz.underlying36 aj ak am an rfl o_ g4 k ae (flatV (L.take k)) (by rfl) (aa) ⟨W6.heap.size,0,none⟩ 1 1 [.int .i64 to,.string (bstr tn),.int .i64 ts,.slice none 0 0] (by rfl) (by rfl) (qBl ab) (qaw rfl rfl rfl rfl) Aa_ o_ Al_ ?_);intro g5 ah w7 ac ad aD ay aq;have aE:=S4.grown Ad_ ag ad ax))
    all_goals
     have aK:=z_ ac;have aL:=z_ aE.2;have ao:=aL.out.size
     have aR:W6.heap.size≤g5:=(by
      rcases aD with h|h
      ·omega
      ·rw [h];first|(have:=ai.2.size;simp;omega)|(have:=ai.2.size;simp;done))
     clear ac ad aD aq aE aa ab hg4 ap ai b0 b1 b2 b3;go_wp2_with (at_builtin;(first|(refine wpList_append_d rfl _ _ _ rfl W6.heap.size 38 j0 _ 4 56 Tryz.underlying36 aj ak am an rfl o_ g5 (k+1) ah _ rfl aK.out ⟨g,k*4,none⟩ 0 (k-k) [] rfl (by simp) (fun q x hq=>by simp at hq) (fun x hx=>by simp at hx) Aa_ o_ ao ?_)|(refine wpList_append_d rfl _ _ _ rfl W6.heap.size 38 j0 _ 4 56 Tryz.underlying36 aj ak am an rfl o_ g5 (k+1) ah _ rfl aK.out ⟨g,0,none⟩ 0 0 [] rfl (by simp) (fun q x hq=>by simp at hq) (fun x hx=>by simp at hx) Aa_ o_ ao ?_)|(refine wpList_append_d rfl _ _ _ rfl W6.heap.size 38 j0 _ 4 56 Tryz.underlying36 aj ak am an rfl o_ g5 (k+1) ah _ rfl aK.out ⟨g,k*4,none⟩ 0 0 [] rfl (by simp) (fun q x hq=>by simp at hq) (fun x hx=>by simp at hx) Aa_ o_ ao ?_));intro g8 az w8 af aA aS aT aH)
     have HR:Hid (qde b (insT L t) w (.returned (.slice (some ⟨g8,0,none⟩) (k+1) az)) w8):=z_ (by
      rw [HI.out];have be:L.drop k=[]:=List.drop_of_length_le Ac_;rw [aU.out,← qbo,List.append_nil] at af;rw [be];refine ⟨g8,az,_,?_,rfl,?_,aC.out.trans ((aL.out.grown aA ao (by intro k hk;cases hk;exact aR)).mono aC.out.size)⟩
      ·have:=HN.out
       simp;omega
      ·have h:=qco af (show b≤W6.heap.size by have:=aC.out.size;omega)
       simpa using h)
     clear af aA aS aH;go_wp2;go_ret;exact HR.out
   ·skip
    have aB:=z_ (own_below aM.out au);have aC:Hid (Below w.heap.size w t6.W):=z_ (aN.trans (au.mono o_))
    have aF:Hid (S4 t6.W w.heap.size to tn ts t6.W):=z_ (by
     have h:=HQ.out.next aI au
     exact ⟨h.1,Below.refl _ _⟩)
    have ag:w.heap.size<t6.W.heap.size:=by have:=au.size;omega
    clear au aI HQ aM nb;generalize t6.W=W6 at aB aC aF ag ⊢
    have aG:Hid ((flatV (L.take k)).length=k*4):=z_ (by rw [qbn,List.length_take];have:=HN.out;omega);have bd:Hid ((flatV (L.drop k)).length=(k-k)*4):=z_ (by rw [qbn,List.length_drop,← HN.out]);have bi:(0:Int)≤(k:Int):=o_;have aP:(k:Int)≤(k:Int):=o_;have aQ:(k:Int)≤(cap:Int):=o_;obtain ⟨⟨b0,b1,b2,b3⟩,_⟩:=aF.out;go_wp2_with fail
    go_region_held3 (fun w'=>(w'.cell? ⟨w.heap.size,0,none⟩=some (.int .i64 to)∧w'.cell? ⟨w.heap.size,1,none⟩=some (.string (bstr tn))∧w'.cell? ⟨w.heap.size,2,none⟩=some (.int .i64 ts)∧w'.cell? ⟨w.heap.size,3,none⟩=some (.slice none 0 0))∧Below W6.heap.size W6 w')
     (first|(with_reducible assumption)|((with_reducible refine S4.ald ?_ ag);with_reducible assumption)|((with_reducible refine S4.al ?_ ag);with_reducible assumption)|(exact aF.out.next ag b_.drew))
     (first|((refine step_append_d (by rfl) _ _ _ (by rfl) W6.heap.size 38 j0 _ 4 56 Tryz.underlying36 aj ak am an rfl o_ W6.heap.size 0 0 [] (by rfl) (qjk W6) ⟨g,0,none⟩ k cap (flatV (L.take k)) (by rfl) aG.out (qcp aB.out aJ (by with_reducible assumption:S4 W6 w.heap.size to tn ts _).2) (qcd _) Aa_ o_ Ab_ ?_);intro g4 ae w4 aa ab hg4 aw ap;have ai:=S4.grown Ad_ ag ab o_;rw [Nat.zero_add,List.nil_append] at aa;simp only [Nat.zero_add];have ax:W6.heap.size≤g4:=Ah_)|((refine step_append_d (by rfl) _ _ _ (by rfl) W6.heap.size 38 j0 _ 4 56 Tryz.underlying36 aj ak am an rfl o_ W6.heap.size 0 0 [] (by rfl) (qpy W6 _) ⟨g,0,none⟩ k cap (flatV (L.take k)) (by rfl) aG.out (qcp aB.out aJ (by with_reducible assumption:S4 W6 w.heap.size to tn ts _).2) (qcd _) Aa_ o_ Ab_ ?_);intro g4 ae w4 aa ab hg4 aw ap;have ai:=S4.grown Ad_ ag ab o_;rw [Nat.zero_add,List.nil_append] at aa;simp only [Nat.zero_add];have ax:W6.heap.size≤g4:=Ah_)|((refine step_append_d (by rfl) _ _ _ (by rfl) W6.heap.size 38 j0 _ 4 56 Tryz.underlying36 aj ak am an rfl o_ (W6.heap.size+1) 0 0 [] (by rfl) (qpz W6 _) ⟨g,0,none⟩ k cap (flatV (L.take k)) (by rfl) aG.out (qcp aB.out aJ (by with_reducible assumption:S4 W6 w.heap.size to tn ts _).2) (qcd _) Aa_ o_ Ab_ ?_);intro g4 ae w4 aa ab hg4 aw ap;have ai:=S4.grown Ad_ ag ab o_;rw [Nat.zero_add,List.nil_append] at aa;simp only [Nat.zero_add];have ax:W6.heap.size≤g4:=Ah_)|((refine step_append_d (by rfl) _ _ _ (by rfl) W6.heap.size 38 j0 _ 4 56 Tryz.underlying36 aj ak am an rfl o_ g4 k ae (flatV (L.take k)) (by rfl) (own_below aa (b_.alloc n_ _)) ⟨w4.heap.size,0,none⟩ 1 1 [.int .i64 to,.string (bstr tn),.int .i64 ts,.slice none 0 0] (by rfl) (by rfl) (fun q x hq=>one4 w4 _ _ _ _ _ q x hq) (qaw rfl rfl rfl rfl) Aa_ o_ Al_ ?_);intro g5 ah w7 ac ad aD ay aq;have aE:=S4.grown Ad_ ag ad ax)|((refine step_append_d (by rfl) _ _ _ (by rfl) W6.heap.size 38 j0 _ 4 56 Tryz.underlying36 aj ak am an rfl o_ g4 k ae (flatV (L.take k)) (by rfl) (aa) ⟨W6.heap.size+1,0,none⟩ 1 1 [.int .i64 to,.string (bstr tn),.int .i64 ts,.slice none 0 0] (by rfl) (by rfl) (qBk ab) (qaw rfl rfl rfl rfl) Aa_ o_ Al_ ?_);intro g5 ah w7 ac ad aD ay aq;have aE:=S4.grown Ad_ ag ad ax)|((refine step_append_d (by rfl) _ _ _ (by rfl) W6.heap.size 38 j0 _ 4 56 Tryz.underlying36 aj ak am an rfl o_ g4 k ae (flatV (L.take k)) (by rfl) (aa) ⟨W6.heap.size,0,none⟩ 1 1 [.int .i64 to,.string (bstr tn),.int .i64 ts,.slice none 0 0] (by rfl) (by rfl) (qBl ab) (qaw rfl rfl rfl rfl) Aa_ o_ Al_ ?_);intro g5 ah w7 ac ad aD ay aq;have aE:=S4.grown Ad_ ag ad ax))
    all_goals
     have aK:=z_ ac;have aL:=z_ aE.2;have ao:=aL.out.size
     have aR:W6.heap.size≤g5:=(by
      rcases aD with h|h
      ·omega
      ·rw [h];first|(have:=ai.2.size;simp;omega)|(have:=ai.2.size;simp;done))
     clear ac ad aD aq aE aa ab hg4 ap ai b0 b1 b2 b3;go_wp2_with (at_builtin;(first|(refine wpList_append_d rfl _ _ _ rfl W6.heap.size 38 j0 _ 4 56 Tryz.underlying36 aj ak am an rfl o_ g5 (k+1) ah _ rfl aK.out ⟨g,k*4,none⟩ 0 (cap-k) [] rfl (by simp) (fun q x hq=>by simp at hq) (fun x hx=>by simp at hx) Aa_ o_ ao ?_)|(refine wpList_append_d rfl _ _ _ rfl W6.heap.size 38 j0 _ 4 56 Tryz.underlying36 aj ak am an rfl o_ g5 (k+1) ah _ rfl aK.out ⟨g,0,none⟩ 0 0 [] rfl (by simp) (fun q x hq=>by simp at hq) (fun x hx=>by simp at hx) Aa_ o_ ao ?_)|(refine wpList_append_d rfl _ _ _ rfl W6.heap.size 38 j0 _ 4 56 Tryz.underlying36 aj ak am an rfl o_ g5 (k+1) ah _ rfl aK.out ⟨g,k*4,none⟩ 0 0 [] rfl (by simp) (fun q x hq=>by simp at hq) (fun x hx=>by simp at hx) Aa_ o_ ao ?_));intro g8 az w8 af aA aS aT aH)
     have HR:Hid (qde b (insT L t) w (.returned (.slice (some ⟨g8,0,none⟩) (k+1) az)) w8):=z_ (by
      rw [HI.out];have be:L.drop k=[]:=List.drop_of_length_le Ac_;rw [aU.out,← qbo,List.append_nil] at af;rw [be];refine ⟨g8,az,_,?_,rfl,?_,aC.out.trans ((aL.out.grown aA ao (by intro k hk;cases hk;exact aR)).mono aC.out.size)⟩
      ·have:=HN.out
       simp;omega
      ·have h:=qco af (show b≤W6.heap.size by have:=aC.out.size;omega)
       simpa using h)
     clear af aA aS aH;go_wp2;go_ret;exact HR.out
end Go.Proofs.YtiilamngcoegiaaGreat.termin
