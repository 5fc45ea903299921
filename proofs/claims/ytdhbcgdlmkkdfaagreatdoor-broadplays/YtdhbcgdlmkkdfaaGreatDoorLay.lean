/- A sort of the library, laid at this program: each field a closed fact. -/
import Derived.Shelf.SlSortCmp.NoneTotal
import Derived.Test.YtdhbcgdlmkkdfaaGreatDoorRows
namespace Go.Proofs.YtdhbcgdlmkkdfaaGreatDoor
open Go.Shelf

def sortP_ren : Ren := ⟨fun | 6 => 24 | 15 => 38 | 14 => 39 | 28 => 59 | 29 => 60 | 20 => 61 | 21 => 62 | 22 => 63 | 23 => 64 | 24 => 65 | 25 => 66 | 26 => 67 | 27 => 68 | 46 => 82 | 47 => 78 | 48 => 79 | 49 => 83 | 50 => 84 | 57 => 96 | n => n, fun | 22 => 48 | 24 => 50 | 25 => 71 | 3 => 3 | 39 => 84 | 0 => 0 | 53 => 103 | 55 => 105 | 4 => 4 | 46 => 96 | 45 => 95 | 50 => 100 | 5 => 5 | 9 => 9 | 66 => 129 | 70 => 133 | 76 => 152 | 77 => 153 | n => n, fun n => n⟩
theorem sortP : SlLaysF0.n6 Tryz.prog sortP_ren := {
  mixed := by kernel_rfl
  f6 := ⟨Tryz.f24.name, by decide, by kernel_rfl⟩
  f14 := ⟨Tryz.f39.name, by decide, by kernel_rfl⟩
  f15 := by kernel_rfl
  f20 := ⟨Tryz.f61.name, by decide, by kernel_rfl⟩
  f21 := ⟨Tryz.f62.name, by decide, by kernel_rfl⟩
  f22 := ⟨Tryz.f63.name, by decide, by kernel_rfl⟩
  f23 := ⟨Tryz.f64.name, by decide, by kernel_rfl⟩
  f24 := ⟨Tryz.f65.name, by decide, by kernel_rfl⟩
  f25 := ⟨Tryz.f66.name, by decide, by kernel_rfl⟩
  f26 := ⟨Tryz.f67.name, by decide, by kernel_rfl⟩
  f27 := ⟨Tryz.f68.name, by decide, by kernel_rfl⟩
  f28 := by kernel_rfl
  f29 := by kernel_rfl
  f46 := ⟨Tryz.f82.name, by decide, by kernel_rfl⟩
  f47 := by kernel_rfl
  f48 := by kernel_rfl
  f49 := ⟨Tryz.f83.name, by decide, by kernel_rfl⟩
  f50 := ⟨Tryz.f84.name, by decide, by kernel_rfl⟩
  f57 := ⟨Tryz.f96.name, by decide, by kernel_rfl⟩
  t0 := by kernel_rfl
  a0 := fun _ => by kernel_rfl
  z0 := fun _ => by kernel_rfl
  v0 := fun _ => by kernel_rfl
  t3 := by kernel_rfl
  a3 := fun _ => by kernel_rfl
  z3 := fun _ => by kernel_rfl
  v3 := fun _ => by kernel_rfl
  t4 := by kernel_rfl
  a4 := fun _ => by kernel_rfl
  z4 := fun _ => by kernel_rfl
  v4 := fun _ => by kernel_rfl
  t5 := by kernel_rfl
  a5 := fun _ => by kernel_rfl
  z5 := fun _ => by kernel_rfl
  v5 := fun _ => by kernel_rfl
  t9 := by kernel_rfl
  a9 := fun _ => by kernel_rfl
  z9 := fun _ => by kernel_rfl
  v9 := fun _ => by kernel_rfl
  t22 := by kernel_rfl
  a22 := fun _ => by kernel_rfl
  z22 := fun _ => by kernel_rfl
  v22 := fun _ => by kernel_rfl
  t25 := by kernel_rfl
  a25 := fun _ => by kernel_rfl
  z25 := fun _ => by kernel_rfl
  v25 := fun _ => by kernel_rfl
  t39 := by kernel_rfl
  a39 := fun _ => by kernel_rfl
  z39 := fun _ => by kernel_rfl
  v39 := fun _ => by kernel_rfl
  t45 := by kernel_rfl
  a45 := fun _ => by kernel_rfl
  z45 := fun _ => by kernel_rfl
  v45 := fun _ => by kernel_rfl
  t46 := by kernel_rfl
  a46 := fun _ => by kernel_rfl
  z46 := fun _ => by kernel_rfl
  v46 := fun _ => by kernel_rfl
  t50 := by kernel_rfl
  a50 := fun _ => by kernel_rfl
  z50 := fun _ => by kernel_rfl
  v50 := fun _ => by kernel_rfl
  t53 := by kernel_rfl
  a53 := fun _ => by kernel_rfl
  z53 := fun _ => by kernel_rfl
  v53 := fun _ => by kernel_rfl
  t55 := by kernel_rfl
  a55 := fun _ => by kernel_rfl
  z55 := fun _ => by kernel_rfl
  v55 := fun _ => by kernel_rfl
  t66 := by kernel_rfl
  a66 := fun _ => by kernel_rfl
  z66 := fun _ => by kernel_rfl
  v66 := fun _ => by kernel_rfl
  t70 := by kernel_rfl
  a70 := fun _ => by kernel_rfl
  z70 := fun _ => by kernel_rfl
  v70 := fun _ => by kernel_rfl
  t76 := by kernel_rfl
  a76 := fun _ => by kernel_rfl
  z76 := fun _ => by kernel_rfl
  v76 := fun _ => by kernel_rfl
  t77 := by kernel_rfl
  a77 := fun _ => by kernel_rfl
  z77 := fun _ => by kernel_rfl
  v77 := fun _ => by kernel_rfl }
end Go.Proofs.YtdhbcgdlmkkdfaaGreatDoor
