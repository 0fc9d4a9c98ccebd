/- slices.Sort at []int: the kit's contract, laid on this program; and on a row of the call's own. -/
import Derived.Test.YtdlelifidlfalaaChecked
import Derived.Test.YtdlelifidlfalaaHeap
import Derived.Test.YtdlelifidlfalaaBinMath
import Derived.Shelf.SortM.Plain
import Derived.Sort.OwnSortedInts
namespace Go.Proofs.Ytdlelifidlfalaa.srt
open Go Go.RowKit

def lays_ren : Go.Shelf.Ren := ⟨fun | 5 => 44 | 8 => 49 | 7 => 48 | 19 => 59 | 20 => 60 | 10 => 50 | 11 => 51 | 12 => 52 | 13 => 53 | 14 => 54 | 15 => 55 | 16 => 56 | 17 => 57 | 18 => 58 | 30 => 61 | 31 => 62 | 32 => 63 | 33 => 64 | 34 => 65 | 35 => 66 | 40 => 67 | n => n, fun | 23 => 22 | 25 => 3 | 3 => 3 | 32 => 62 | 22 => 22 | 0 => 0 | 44 => 88 | 46 => 61 | 4 => 4 | 36 => 81 | 35 => 80 | 41 => 85 | 5 => 5 | 9 => 9 | 53 => 90 | 57 => 94 | 63 => 96 | 64 => 97 | n => n, fun | n => n⟩
theorem lays : Go.Proofs.SlLaysM.n5 Try.prog lays_ren := {
  mixed := by kernel_rfl,
  f5 := ⟨Try.f44.name, by decide, Try.func44.trans (congrArg some (by kernel_rfl))⟩,
  f7 := ⟨Try.f48.name, by decide, Try.func48.trans (congrArg some (by kernel_rfl))⟩,
  f8 := Try.func49.trans (congrArg some (by kernel_rfl)),
  f10 := ⟨Try.f50.name, by decide, Try.func50.trans (congrArg some (by kernel_rfl))⟩,
  f11 := ⟨Try.f51.name, by decide, Try.func51.trans (congrArg some (by kernel_rfl))⟩,
  f12 := ⟨Try.f52.name, by decide, Try.func52.trans (congrArg some (by kernel_rfl))⟩,
  f13 := ⟨Try.f53.name, by decide, Try.func53.trans (congrArg some (by kernel_rfl))⟩,
  f14 := ⟨Try.f54.name, by decide, Try.func54.trans (congrArg some (by kernel_rfl))⟩,
  f15 := ⟨Try.f55.name, by decide, Try.func55.trans (congrArg some (by kernel_rfl))⟩,
  f16 := ⟨Try.f56.name, by decide, Try.func56.trans (congrArg some (by kernel_rfl))⟩,
  f17 := ⟨Try.f57.name, by decide, Try.func57.trans (congrArg some (by kernel_rfl))⟩,
  f18 := ⟨Try.f58.name, by decide, Try.func58.trans (congrArg some (by kernel_rfl))⟩,
  f19 := Try.func59.trans (congrArg some (by kernel_rfl)),
  f20 := Try.func60.trans (congrArg some (by kernel_rfl)),
  f30 := ⟨Try.f61.name, by decide, Try.func61.trans (congrArg some (by kernel_rfl))⟩,
  f31 := Try.func62.trans (congrArg some (by kernel_rfl)),
  f32 := Try.func63.trans (congrArg some (by kernel_rfl)),
  f33 := ⟨Try.f64.name, by decide, Try.func64.trans (congrArg some (by kernel_rfl))⟩,
  f34 := ⟨Try.f65.name, by decide, Try.func65.trans (congrArg some (by kernel_rfl))⟩,
  f35 := ⟨Try.f66.name, by decide, Try.func66.trans (congrArg some (by kernel_rfl))⟩,
  f40 := ⟨Try.f67.name, by decide, Try.func67.trans (congrArg some (by kernel_rfl))⟩,
  t0 := Try.underlying0,
  a0 := Try.isAgg0,
  z0 := Try.sizeOf0,
  v0 := Try.zeroValue0,
  t3 := Try.underlying3,
  a3 := Try.isAgg3,
  z3 := Try.sizeOf3,
  v3 := Try.zeroValue3,
  t4 := Try.underlying4,
  a4 := Try.isAgg4,
  z4 := Try.sizeOf4,
  v4 := Try.zeroValue4,
  t5 := Try.underlying5,
  a5 := Try.isAgg5,
  z5 := Try.sizeOf5,
  v5 := Try.zeroValue5,
  t9 := Try.underlying9,
  a9 := Try.isAgg9,
  z9 := Try.sizeOf9,
  v9 := Try.zeroValue9,
  t22 := Try.underlying22,
  a22 := Try.isAgg22,
  z22 := Try.sizeOf22,
  v22 := Try.zeroValue22,
  t23 := Try.underlying22,
  a23 := Try.isAgg22,
  z23 := Try.sizeOf22,
  v23 := Try.zeroValue22,
  t25 := Try.underlying3,
  a25 := Try.isAgg3,
  z25 := Try.sizeOf3,
  v25 := Try.zeroValue3,
  t32 := Try.underlying62,
  a32 := Try.isAgg62,
  z32 := Try.sizeOf62,
  v32 := Try.zeroValue62,
  t35 := Try.underlying80,
  a35 := Try.isAgg80,
  z35 := Try.sizeOf80,
  v35 := Try.zeroValue80,
  t36 := Try.underlying81,
  a36 := Try.isAgg81,
  z36 := Try.sizeOf81,
  v36 := Try.zeroValue81,
  t41 := Try.underlying85,
  a41 := Try.isAgg85,
  z41 := Try.sizeOf85,
  v41 := Try.zeroValue85,
  t44 := Try.underlying88,
  a44 := Try.isAgg88,
  z44 := Try.sizeOf88,
  v44 := Try.zeroValue88,
  t46 := Try.underlying61,
  a46 := Try.isAgg61,
  z46 := Try.sizeOf61,
  v46 := Try.zeroValue61,
  t53 := Try.underlying90,
  a53 := Try.isAgg90,
  z53 := Try.sizeOf90,
  v53 := Try.zeroValue90,
  t57 := Try.underlying94,
  a57 := Try.isAgg94,
  z57 := Try.sizeOf94,
  v57 := Try.zeroValue94,
  t63 := Try.underlying96,
  a63 := Try.isAgg96,
  z63 := Try.sizeOf96,
  v63 := Try.zeroValue96,
  t64 := Try.underlying97,
  a64 := Try.isAgg97,
  z64 := Try.sizeOf97,
  v64 := Try.zeroValue97 }

/-- a row of the call's own, sorted in place -/
theorem sort_own {w : World} {base g cap n : Nat} {l : List Int} (hn : l.length = n) (h : w.ownsRow base 3 1 (.slice (some ⟨g, 0, none⟩) n cap) n (l.map (Value.int .i64))) (hl : n < 4611686018427387904) :
    Calls Try.prog 44 #[.slice (some ⟨g, 0, none⟩) n cap] w fun e w' => e = .returned (.tuple #[]) ∧ w'.ownsRow base 3 1 (.slice (some ⟨g, 0, none⟩) n cap) n ((bin.srt l).map (Value.int .i64)) ∧ w.grownBy w' (some g) := by
  subst hn
  obtain ⟨-, ⟨h, -⟩ | ⟨g', cap', cur, hv, hb, hg, hnc, hcm, hcs, htk⟩⟩ := h
  · cases h
  cases hv
  have hg' : w.heap[g]? = some (.cells cur 3 (0, 0)) := hg
  have hH := holds_of_blockI (ss := l) hg' (by simpa using htk)
  refine (AnyM.slices_Sort_int lays g 0 cap l w hH (lt_of_block hg) hl).mono ?_
  rintro e w' ⟨rfl, n, os, rfl⟩
  exact ⟨rfl, ownsRow_sortedI (bin.srt_len l) hb hg' hnc hcm hcs, grownBy_sortedI _⟩
end Go.Proofs.Ytdlelifidlfalaa.srt
