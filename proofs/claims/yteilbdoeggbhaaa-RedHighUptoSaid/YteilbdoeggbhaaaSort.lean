/- slices.Sort at []int: the kit's contract, laid on this program; and on a row of the call's own. -/
import Derived.Test.YteilbdoeggbhaaaChecked
import Derived.Test.YteilbdoeggbhaaaHeap
import Derived.Test.YteilbdoeggbhaaaBinMath
import Derived.Shelf.SortM.Plain
import Derived.Sort.OwnSortedInts
namespace Go.Proofs.Yteilbdoeggbhaaa.srt
open Go Go.RowKit

def lays_ren : Go.Shelf.Ren := ⟨fun | 5 => 46 | 8 => 35 | 7 => 52 | 19 => 48 | 20 => 49 | 10 => 53 | 11 => 54 | 12 => 55 | 13 => 56 | 14 => 57 | 15 => 58 | 16 => 59 | 17 => 60 | 18 => 61 | 30 => 62 | 31 => 63 | 32 => 64 | 33 => 65 | 34 => 66 | 35 => 67 | 40 => 68 | n => n, fun | 23 => 22 | 25 => 3 | 3 => 3 | 32 => 56 | 22 => 22 | 0 => 0 | 44 => 71 | 46 => 73 | 4 => 4 | 36 => 80 | 35 => 79 | 41 => 84 | 5 => 5 | 9 => 9 | 53 => 86 | 57 => 90 | 63 => 92 | 64 => 93 | n => n, fun | n => n⟩
theorem lays : Go.Proofs.SlLaysM.n5 Try.prog lays_ren := {
  mixed := by kernel_rfl,
  f5 := ⟨Try.f46.name, by decide, Try.func46.trans (congrArg some (by kernel_rfl))⟩,
  f7 := ⟨Try.f52.name, by decide, Try.func52.trans (congrArg some (by kernel_rfl))⟩,
  f8 := Try.func35.trans (congrArg some (by kernel_rfl)),
  f10 := ⟨Try.f53.name, by decide, Try.func53.trans (congrArg some (by kernel_rfl))⟩,
  f11 := ⟨Try.f54.name, by decide, Try.func54.trans (congrArg some (by kernel_rfl))⟩,
  f12 := ⟨Try.f55.name, by decide, Try.func55.trans (congrArg some (by kernel_rfl))⟩,
  f13 := ⟨Try.f56.name, by decide, Try.func56.trans (congrArg some (by kernel_rfl))⟩,
  f14 := ⟨Try.f57.name, by decide, Try.func57.trans (congrArg some (by kernel_rfl))⟩,
  f15 := ⟨Try.f58.name, by decide, Try.func58.trans (congrArg some (by kernel_rfl))⟩,
  f16 := ⟨Try.f59.name, by decide, Try.func59.trans (congrArg some (by kernel_rfl))⟩,
  f17 := ⟨Try.f60.name, by decide, Try.func60.trans (congrArg some (by kernel_rfl))⟩,
  f18 := ⟨Try.f61.name, by decide, Try.func61.trans (congrArg some (by kernel_rfl))⟩,
  f19 := Try.func48.trans (congrArg some (by kernel_rfl)),
  f20 := Try.func49.trans (congrArg some (by kernel_rfl)),
  f30 := ⟨Try.f62.name, by decide, Try.func62.trans (congrArg some (by kernel_rfl))⟩,
  f31 := Try.func63.trans (congrArg some (by kernel_rfl)),
  f32 := Try.func64.trans (congrArg some (by kernel_rfl)),
  f33 := ⟨Try.f65.name, by decide, Try.func65.trans (congrArg some (by kernel_rfl))⟩,
  f34 := ⟨Try.f66.name, by decide, Try.func66.trans (congrArg some (by kernel_rfl))⟩,
  f35 := ⟨Try.f67.name, by decide, Try.func67.trans (congrArg some (by kernel_rfl))⟩,
  f40 := ⟨Try.f68.name, by decide, Try.func68.trans (congrArg some (by kernel_rfl))⟩,
  t0 := Try.underlying0,
  a0 := Try.isAgg0,
  z0 := Try.sizeOf0,
  v0 := Try.zeroValue0,
  t3 := Try.underlying3,
  a3 := Try.isAgg3,
  z3 := Try.sizeOf3,
  v3 := Try.zeroValue3,
  t4 := Try.underlying4,
  a4 := Try.isAgg4,
  z4 := Try.sizeOf4,
  v4 := Try.zeroValue4,
  t5 := Try.underlying5,
  a5 := Try.isAgg5,
  z5 := Try.sizeOf5,
  v5 := Try.zeroValue5,
  t9 := Try.underlying9,
  a9 := Try.isAgg9,
  z9 := Try.sizeOf9,
  v9 := Try.zeroValue9,
  t22 := Try.underlying22,
  a22 := Try.isAgg22,
  z22 := Try.sizeOf22,
  v22 := Try.zeroValue22,
  t23 := Try.underlying22,
  a23 := Try.isAgg22,
  z23 := Try.sizeOf22,
  v23 := Try.zeroValue22,
  t25 := Try.underlying3,
  a25 := Try.isAgg3,
  z25 := Try.sizeOf3,
  v25 := Try.zeroValue3,
  t32 := Try.underlying56,
  a32 := Try.isAgg56,
  z32 := Try.sizeOf56,
  v32 := Try.zeroValue56,
  t35 := Try.underlying79,
  a35 := Try.isAgg79,
  z35 := Try.sizeOf79,
  v35 := Try.zeroValue79,
  t36 := Try.underlying80,
  a36 := Try.isAgg80,
  z36 := Try.sizeOf80,
  v36 := Try.zeroValue80,
  t41 := Try.underlying84,
  a41 := Try.isAgg84,
  z41 := Try.sizeOf84,
  v41 := Try.zeroValue84,
  t44 := Try.underlying71,
  a44 := Try.isAgg71,
  z44 := Try.sizeOf71,
  v44 := Try.zeroValue71,
  t46 := Try.underlying73,
  a46 := Try.isAgg73,
  z46 := Try.sizeOf73,
  v46 := Try.zeroValue73,
  t53 := Try.underlying86,
  a53 := Try.isAgg86,
  z53 := Try.sizeOf86,
  v53 := Try.zeroValue86,
  t57 := Try.underlying90,
  a57 := Try.isAgg90,
  z57 := Try.sizeOf90,
  v57 := Try.zeroValue90,
  t63 := Try.underlying92,
  a63 := Try.isAgg92,
  z63 := Try.sizeOf92,
  v63 := Try.zeroValue92,
  t64 := Try.underlying93,
  a64 := Try.isAgg93,
  z64 := Try.sizeOf93,
  v64 := Try.zeroValue93 }

/-- a row of the call's own, sorted in place -/
theorem sort_own {w : World} {base g cap n : Nat} {l : List Int} (hn : l.length = n) (h : w.ownsRow base 3 1 (.slice (some ⟨g, 0, none⟩) n cap) n (l.map (Value.int .i64))) (hl : n < 4611686018427387904) :
    Calls Try.prog 46 #[.slice (some ⟨g, 0, none⟩) n cap] w fun e w' => e = .returned (.tuple #[]) ∧ w'.ownsRow base 3 1 (.slice (some ⟨g, 0, none⟩) n cap) n ((bin.srt l).map (Value.int .i64)) ∧ w.grownBy w' (some g) := by
  subst hn
  obtain ⟨-, ⟨h, -⟩ | ⟨g', cap', cur, hv, hb, hg, hnc, hcm, hcs, htk⟩⟩ := h
  · cases h
  cases hv
  have hg' : w.heap[g]? = some (.cells cur 3 (0, 0)) := hg
  have hH := holds_of_blockI (ss := l) hg' (by simpa using htk)
  refine (AnyM.slices_Sort_int lays g 0 cap l w hH (lt_of_block hg) hl).mono ?_
  rintro e w' ⟨rfl, n, os, rfl⟩
  exact ⟨rfl, ownsRow_sortedI (bin.srt_len l) hb hg' hnc hcm hcs, grownBy_sortedI _⟩
end Go.Proofs.Yteilbdoeggbhaaa.srt
