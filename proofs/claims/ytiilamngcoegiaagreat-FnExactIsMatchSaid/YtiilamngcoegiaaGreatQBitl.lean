
import Derived.Test.YtiilamngcoegiaaGreatQZa
import Derived.Test.YtiilamngcoegiaaGreatQZk
import Derived.Shelf.Small.Bits
import Derived.Test.YtiilamngcoegiaaGreatRows
namespace Go.Proofs.YtiilamngcoegiaaGreat.bitl
open Go.Shelf
def qBg:Go.Shelf.Ren:=⟨fun|125=>167|128=>212|129=>213|n=>n,fun|3=>3|4=>4|5=>5|9=>9|46=>193|51=>254|53=>256|n=>n,fun|n=>n⟩
theorem lenL:Lays.n125 Tryz.prog qBg:={
 mixed:=by kernel_rfl
 f125:=Tryz.func167.trans (congrArg some k_)
 f128:=Tryz.func212.trans (congrArg some k_)
 f129:=Tryz.func213.trans (congrArg some k_)
 t3:=Tryz.underlying3
 a3:=Tryz.isAgg3
 z3:=Tryz.sizeOf3
 v3:=Tryz.zeroValue3
 t4:=Tryz.underlying4
 a4:=Tryz.isAgg4
 z4:=Tryz.sizeOf4
 v4:=Tryz.zeroValue4
 t5:=Tryz.underlying5
 a5:=Tryz.isAgg5
 z5:=Tryz.sizeOf5
 v5:=Tryz.zeroValue5
 t9:=Tryz.underlying9
 a9:=Tryz.isAgg9
 z9:=Tryz.sizeOf9
 v9:=Tryz.zeroValue9
 t46:=Tryz.underlying193
 a46:=Tryz.isAgg193
 z46:=Tryz.sizeOf193
 v46:=Tryz.zeroValue193
 t51:=Tryz.underlying254
 a51:=Tryz.isAgg254
 z51:=Tryz.sizeOf254
 v51:=Tryz.zeroValue254
 t53:=Tryz.underlying256
 a53:=Tryz.isAgg256
 z53:=Tryz.sizeOf256
 v53:=Tryz.zeroValue256 }
theorem qBh (n:Nat)(h:n<18446744073709551616)(w:World):Calls Tryz.prog 167 #[.int .u64 (n:Int)] w fun e w'=>e=.returned (.int .i64 ((Lib.bitLen n:Nat):Int))∧w'=w:=by
 have:=Any.bits_Len lenL (n:Int) w o_ o_;rwa [Int.toNat_natCast] at this
end Go.Proofs.YtiilamngcoegiaaGreat.bitl
