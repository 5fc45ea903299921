/- . -/
import Derived.Shelf.SlSortCmp.NoneTotal
import Derived.Test.YtbenlgandjjopaaGreatDoorRows
namespace Go.Proofs.YtbenlgandjjopaaGreatDoor
open Go.Shelf
def sortP_ren : Ren := ⟨fun|6=>90|15=>133|14=>134|28=>169|29=>170|20=>171|21=>172|22=>173|23=>174|24=>175|25=>176|26=>177|27=>178|46=>197|47=>193|48=>194|49=>198|50=>199|57=>204|n=>n,fun|22=>101|24=>103|25=>145|3=>3|39=>164|0=>0|53=>209|55=>106|4=>4|46=>203|45=>202|50=>89|5=>5|9=>9|66=>235|70=>239|76=>244|77=>245|n=>n,fun n=>n⟩
theorem sortP : SlLaysF0.n6 Tryz.prog sortP_ren := {
 mixed:=by kernel_rfl
 f6:=⟨Tryz.f90.name,by decide,by kernel_rfl⟩
 f14:=⟨Tryz.f134.name,by decide,by kernel_rfl⟩
 f15:=by kernel_rfl
 f20:=⟨Tryz.f171.name,by decide,by kernel_rfl⟩
 f21:=⟨Tryz.f172.name,by decide,by kernel_rfl⟩
 f22:=⟨Tryz.f173.name,by decide,by kernel_rfl⟩
 f23:=⟨Tryz.f174.name,by decide,by kernel_rfl⟩
 f24:=⟨Tryz.f175.name,by decide,by kernel_rfl⟩
 f25:=⟨Tryz.f176.name,by decide,by kernel_rfl⟩
 f26:=⟨Tryz.f177.name,by decide,by kernel_rfl⟩
 f27:=⟨Tryz.f178.name,by decide,by kernel_rfl⟩
 f28:=by kernel_rfl
 f29:=by kernel_rfl
 f46:=⟨Tryz.f197.name,by decide,by kernel_rfl⟩
 f47:=by kernel_rfl
 f48:=by kernel_rfl
 f49:=⟨Tryz.f198.name,by decide,by kernel_rfl⟩
 f50:=⟨Tryz.f199.name,by decide,by kernel_rfl⟩
 f57:=⟨Tryz.f204.name,by decide,by kernel_rfl⟩
 t0:=by kernel_rfl
 a0:=fun _=>by kernel_rfl
 z0:=fun _=>by kernel_rfl
 v0:=fun _=>by kernel_rfl
 t3:=by kernel_rfl
 a3:=fun _=>by kernel_rfl
 z3:=fun _=>by kernel_rfl
 v3:=fun _=>by kernel_rfl
 t4:=by kernel_rfl
 a4:=fun _=>by kernel_rfl
 z4:=fun _=>by kernel_rfl
 v4:=fun _=>by kernel_rfl
 t5:=by kernel_rfl
 a5:=fun _=>by kernel_rfl
 z5:=fun _=>by kernel_rfl
 v5:=fun _=>by kernel_rfl
 t9:=by kernel_rfl
 a9:=fun _=>by kernel_rfl
 z9:=fun _=>by kernel_rfl
 v9:=fun _=>by kernel_rfl
 t22:=by kernel_rfl
 a22:=fun _=>by kernel_rfl
 z22:=fun _=>by kernel_rfl
 v22:=fun _=>by kernel_rfl
 t25:=by kernel_rfl
 a25:=fun _=>by kernel_rfl
 z25:=fun _=>by kernel_rfl
 v25:=fun _=>by kernel_rfl
 t39:=by kernel_rfl
 a39:=fun _=>by kernel_rfl
 z39:=fun _=>by kernel_rfl
 v39:=fun _=>by kernel_rfl
 t45:=by kernel_rfl
 a45:=fun _=>by kernel_rfl
 z45:=fun _=>by kernel_rfl
 v45:=fun _=>by kernel_rfl
 t46:=by kernel_rfl
 a46:=fun _=>by kernel_rfl
 z46:=fun _=>by kernel_rfl
 v46:=fun _=>by kernel_rfl
 t50:=by kernel_rfl
 a50:=fun _=>by kernel_rfl
 z50:=fun _=>by kernel_rfl
 v50:=fun _=>by kernel_rfl
 t53:=by kernel_rfl
 a53:=fun _=>by kernel_rfl
 z53:=fun _=>by kernel_rfl
 v53:=fun _=>by kernel_rfl
 t55:=by kernel_rfl
 a55:=fun _=>by kernel_rfl
 z55:=fun _=>by kernel_rfl
 v55:=fun _=>by kernel_rfl
 t66:=by kernel_rfl
 a66:=fun _=>by kernel_rfl
 z66:=fun _=>by kernel_rfl
 v66:=fun _=>by kernel_rfl
 t70:=by kernel_rfl
 a70:=fun _=>by kernel_rfl
 z70:=fun _=>by kernel_rfl
 v70:=fun _=>by kernel_rfl
 t76:=by kernel_rfl
 a76:=fun _=>by kernel_rfl
 z76:=fun _=>by kernel_rfl
 v76:=fun _=>by kernel_rfl
 t77:=by kernel_rfl
 a77:=fun _=>by kernel_rfl
 z77:=fun _=>by kernel_rfl
 v77:=fun _=>by kernel_rfl }
end Go.Proofs.YtbenlgandjjopaaGreatDoor
