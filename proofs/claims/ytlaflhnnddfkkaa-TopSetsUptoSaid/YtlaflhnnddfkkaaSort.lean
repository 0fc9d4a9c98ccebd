/- slices.Sort at []int: the kit's contract, laid on this program; and on a row of the call's own. -/
import Derived.Test.YtlaflhnnddfkkaaChecked
import Derived.Test.YtlaflhnnddfkkaaHeap
import Derived.Test.YtlaflhnnddfkkaaBinMath
import Derived.Shelf.SortM.Plain
import Derived.Sort.OwnSortedInts
namespace Go.Proofs.Ytlaflhnnddfkkaa.srt
open Go Go.RowKit

def lays_ren : Go.Shelf.Ren := ⟨fun | 5 => 67 | 8 => 89 | 7 => 88 | 19 => 106 | 20 => 107 | 10 => 97 | 11 => 98 | 12 => 99 | 13 => 100 | 14 => 101 | 15 => 102 | 16 => 103 | 17 => 104 | 18 => 105 | 30 => 108 | 31 => 109 | 32 => 110 | 33 => 111 | 34 => 112 | 35 => 113 | 40 => 114 | n => n, fun | 23 => 22 | 25 => 3 | 3 => 3 | 32 => 103 | 22 => 22 | 0 => 0 | 44 => 117 | 46 => 119 | 4 => 4 | 36 => 110 | 35 => 109 | 41 => 114 | 5 => 5 | 9 => 9 | 53 => 120 | 57 => 124 | 63 => 126 | 64 => 127 | n => n, fun | n => n⟩
theorem lays : Go.Proofs.SlLaysM.n5 Try.prog lays_ren := {
  mixed := by kernel_rfl,
  f5 := ⟨Try.f67.name, by decide, Try.func67.trans (congrArg some (by kernel_rfl))⟩,
  f7 := ⟨Try.f88.name, by decide, Try.func88.trans (congrArg some (by kernel_rfl))⟩,
  f8 := Try.func89.trans (congrArg some (by kernel_rfl)),
  f10 := ⟨Try.f97.name, by decide, Try.func97.trans (congrArg some (by kernel_rfl))⟩,
  f11 := ⟨Try.f98.name, by decide, Try.func98.trans (congrArg some (by kernel_rfl))⟩,
  f12 := ⟨Try.f99.name, by decide, Try.func99.trans (congrArg some (by kernel_rfl))⟩,
  f13 := ⟨Try.f100.name, by decide, Try.func100.trans (congrArg some (by kernel_rfl))⟩,
  f14 := ⟨Try.f101.name, by decide, Try.func101.trans (congrArg some (by kernel_rfl))⟩,
  f15 := ⟨Try.f102.name, by decide, Try.func102.trans (congrArg some (by kernel_rfl))⟩,
  f16 := ⟨Try.f103.name, by decide, Try.func103.trans (congrArg some (by kernel_rfl))⟩,
  f17 := ⟨Try.f104.name, by decide, Try.func104.trans (congrArg some (by kernel_rfl))⟩,
  f18 := ⟨Try.f105.name, by decide, Try.func105.trans (congrArg some (by kernel_rfl))⟩,
  f19 := Try.func106.trans (congrArg some (by kernel_rfl)),
  f20 := Try.func107.trans (congrArg some (by kernel_rfl)),
  f30 := ⟨Try.f108.name, by decide, Try.func108.trans (congrArg some (by kernel_rfl))⟩,
  f31 := Try.func109.trans (congrArg some (by kernel_rfl)),
  f32 := Try.func110.trans (congrArg some (by kernel_rfl)),
  f33 := ⟨Try.f111.name, by decide, Try.func111.trans (congrArg some (by kernel_rfl))⟩,
  f34 := ⟨Try.f112.name, by decide, Try.func112.trans (congrArg some (by kernel_rfl))⟩,
  f35 := ⟨Try.f113.name, by decide, Try.func113.trans (congrArg some (by kernel_rfl))⟩,
  f40 := ⟨Try.f114.name, by decide, Try.func114.trans (congrArg some (by kernel_rfl))⟩,
  t0 := Try.underlying0,
  a0 := Try.isAgg0,
  z0 := Try.sizeOf0,
  v0 := Try.zeroValue0,
  t3 := Try.underlying3,
  a3 := Try.isAgg3,
  z3 := Try.sizeOf3,
  v3 := Try.zeroValue3,
  t4 := Try.underlying4,
  a4 := Try.isAgg4,
  z4 := Try.sizeOf4,
  v4 := Try.zeroValue4,
  t5 := Try.underlying5,
  a5 := Try.isAgg5,
  z5 := Try.sizeOf5,
  v5 := Try.zeroValue5,
  t9 := Try.underlying9,
  a9 := Try.isAgg9,
  z9 := Try.sizeOf9,
  v9 := Try.zeroValue9,
  t22 := Try.underlying22,
  a22 := Try.isAgg22,
  z22 := Try.sizeOf22,
  v22 := Try.zeroValue22,
  t23 := Try.underlying22,
  a23 := Try.isAgg22,
  z23 := Try.sizeOf22,
  v23 := Try.zeroValue22,
  t25 := Try.underlying3,
  a25 := Try.isAgg3,
  z25 := Try.sizeOf3,
  v25 := Try.zeroValue3,
  t32 := Try.underlying103,
  a32 := Try.isAgg103,
  z32 := Try.sizeOf103,
  v32 := Try.zeroValue103,
  t35 := Try.underlying109,
  a35 := Try.isAgg109,
  z35 := Try.sizeOf109,
  v35 := Try.zeroValue109,
  t36 := Try.underlying110,
  a36 := Try.isAgg110,
  z36 := Try.sizeOf110,
  v36 := Try.zeroValue110,
  t41 := Try.underlying114,
  a41 := Try.isAgg114,
  z41 := Try.sizeOf114,
  v41 := Try.zeroValue114,
  t44 := Try.underlying117,
  a44 := Try.isAgg117,
  z44 := Try.sizeOf117,
  v44 := Try.zeroValue117,
  t46 := Try.underlying119,
  a46 := Try.isAgg119,
  z46 := Try.sizeOf119,
  v46 := Try.zeroValue119,
  t53 := Try.underlying120,
  a53 := Try.isAgg120,
  z53 := Try.sizeOf120,
  v53 := Try.zeroValue120,
  t57 := Try.underlying124,
  a57 := Try.isAgg124,
  z57 := Try.sizeOf124,
  v57 := Try.zeroValue124,
  t63 := Try.underlying126,
  a63 := Try.isAgg126,
  z63 := Try.sizeOf126,
  v63 := Try.zeroValue126,
  t64 := Try.underlying127,
  a64 := Try.isAgg127,
  z64 := Try.sizeOf127,
  v64 := Try.zeroValue127 }

/-- a row of the call's own, sorted in place -/
theorem sort_own {w : World} {base g cap n : Nat} {l : List Int} (hn : l.length = n) (h : w.ownsRow base 3 1 (.slice (some ⟨g, 0, none⟩) n cap) n (l.map (Value.int .i64))) (hl : n < 4611686018427387904) :
    Calls Try.prog 67 #[.slice (some ⟨g, 0, none⟩) n cap] w fun e w' => e = .returned (.tuple #[]) ∧ w'.ownsRow base 3 1 (.slice (some ⟨g, 0, none⟩) n cap) n ((bin.srt l).map (Value.int .i64)) ∧ w.grownBy w' (some g) := by
  subst hn
  obtain ⟨-, ⟨h, -⟩ | ⟨g', cap', cur, hv, hb, hg, hnc, hcm, hcs, htk⟩⟩ := h
  · cases h
  cases hv
  have hg' : w.heap[g]? = some (.cells cur 3 (0, 0)) := hg
  have hH := holds_of_blockI (ss := l) hg' (by simpa using htk)
  refine (AnyM.slices_Sort_int lays g 0 cap l w hH (lt_of_block hg) hl).mono ?_
  rintro e w' ⟨rfl, n, os, rfl⟩
  exact ⟨rfl, ownsRow_sortedI (bin.srt_len l) hb hg' hnc hcm hcs, grownBy_sortedI _⟩
end Go.Proofs.Ytlaflhnnddfkkaa.srt
