/- slices.Sort at []int: the kit's contract, laid on this program; and on a row of the call's own. -/
import Derived.Test.YtgikpppclgacoaaChecked
import Derived.Test.YtgikpppclgacoaaHeap
import Derived.Test.YtgikpppclgacoaaBinMath
import Derived.Shelf.SortM.Plain
import Derived.Sort.OwnSortedInts
namespace Go.Proofs.Ytgikpppclgacoaa.srt
open Go Go.RowKit

def lays_ren : Go.Shelf.Ren := ⟨fun | 5 => 40 | 8 => 44 | 7 => 43 | 19 => 54 | 20 => 55 | 10 => 45 | 11 => 46 | 12 => 47 | 13 => 48 | 14 => 49 | 15 => 50 | 16 => 51 | 17 => 52 | 18 => 53 | 30 => 56 | 31 => 57 | 32 => 58 | 33 => 59 | 34 => 60 | 35 => 61 | 40 => 62 | n => n, fun | 23 => 22 | 25 => 3 | 3 => 3 | 32 => 66 | 22 => 22 | 0 => 0 | 44 => 76 | 46 => 78 | 4 => 4 | 36 => 69 | 35 => 68 | 41 => 73 | 5 => 5 | 9 => 9 | 53 => 79 | 57 => 83 | 63 => 85 | 64 => 86 | n => n, fun | n => n⟩
theorem lays : Go.Proofs.SlLaysM.n5 Try.prog lays_ren := {
  mixed := by kernel_rfl,
  f5 := ⟨Try.f40.name, by decide, Try.func40.trans (congrArg some (by kernel_rfl))⟩,
  f7 := ⟨Try.f43.name, by decide, Try.func43.trans (congrArg some (by kernel_rfl))⟩,
  f8 := Try.func44.trans (congrArg some (by kernel_rfl)),
  f10 := ⟨Try.f45.name, by decide, Try.func45.trans (congrArg some (by kernel_rfl))⟩,
  f11 := ⟨Try.f46.name, by decide, Try.func46.trans (congrArg some (by kernel_rfl))⟩,
  f12 := ⟨Try.f47.name, by decide, Try.func47.trans (congrArg some (by kernel_rfl))⟩,
  f13 := ⟨Try.f48.name, by decide, Try.func48.trans (congrArg some (by kernel_rfl))⟩,
  f14 := ⟨Try.f49.name, by decide, Try.func49.trans (congrArg some (by kernel_rfl))⟩,
  f15 := ⟨Try.f50.name, by decide, Try.func50.trans (congrArg some (by kernel_rfl))⟩,
  f16 := ⟨Try.f51.name, by decide, Try.func51.trans (congrArg some (by kernel_rfl))⟩,
  f17 := ⟨Try.f52.name, by decide, Try.func52.trans (congrArg some (by kernel_rfl))⟩,
  f18 := ⟨Try.f53.name, by decide, Try.func53.trans (congrArg some (by kernel_rfl))⟩,
  f19 := Try.func54.trans (congrArg some (by kernel_rfl)),
  f20 := Try.func55.trans (congrArg some (by kernel_rfl)),
  f30 := ⟨Try.f56.name, by decide, Try.func56.trans (congrArg some (by kernel_rfl))⟩,
  f31 := Try.func57.trans (congrArg some (by kernel_rfl)),
  f32 := Try.func58.trans (congrArg some (by kernel_rfl)),
  f33 := ⟨Try.f59.name, by decide, Try.func59.trans (congrArg some (by kernel_rfl))⟩,
  f34 := ⟨Try.f60.name, by decide, Try.func60.trans (congrArg some (by kernel_rfl))⟩,
  f35 := ⟨Try.f61.name, by decide, Try.func61.trans (congrArg some (by kernel_rfl))⟩,
  f40 := ⟨Try.f62.name, by decide, Try.func62.trans (congrArg some (by kernel_rfl))⟩,
  t0 := Try.underlying0,
  a0 := Try.isAgg0,
  z0 := Try.sizeOf0,
  v0 := Try.zeroValue0,
  t3 := Try.underlying3,
  a3 := Try.isAgg3,
  z3 := Try.sizeOf3,
  v3 := Try.zeroValue3,
  t4 := Try.underlying4,
  a4 := Try.isAgg4,
  z4 := Try.sizeOf4,
  v4 := Try.zeroValue4,
  t5 := Try.underlying5,
  a5 := Try.isAgg5,
  z5 := Try.sizeOf5,
  v5 := Try.zeroValue5,
  t9 := Try.underlying9,
  a9 := Try.isAgg9,
  z9 := Try.sizeOf9,
  v9 := Try.zeroValue9,
  t22 := Try.underlying22,
  a22 := Try.isAgg22,
  z22 := Try.sizeOf22,
  v22 := Try.zeroValue22,
  t23 := Try.underlying22,
  a23 := Try.isAgg22,
  z23 := Try.sizeOf22,
  v23 := Try.zeroValue22,
  t25 := Try.underlying3,
  a25 := Try.isAgg3,
  z25 := Try.sizeOf3,
  v25 := Try.zeroValue3,
  t32 := Try.underlying66,
  a32 := Try.isAgg66,
  z32 := Try.sizeOf66,
  v32 := Try.zeroValue66,
  t35 := Try.underlying68,
  a35 := Try.isAgg68,
  z35 := Try.sizeOf68,
  v35 := Try.zeroValue68,
  t36 := Try.underlying69,
  a36 := Try.isAgg69,
  z36 := Try.sizeOf69,
  v36 := Try.zeroValue69,
  t41 := Try.underlying73,
  a41 := Try.isAgg73,
  z41 := Try.sizeOf73,
  v41 := Try.zeroValue73,
  t44 := Try.underlying76,
  a44 := Try.isAgg76,
  z44 := Try.sizeOf76,
  v44 := Try.zeroValue76,
  t46 := Try.underlying78,
  a46 := Try.isAgg78,
  z46 := Try.sizeOf78,
  v46 := Try.zeroValue78,
  t53 := Try.underlying79,
  a53 := Try.isAgg79,
  z53 := Try.sizeOf79,
  v53 := Try.zeroValue79,
  t57 := Try.underlying83,
  a57 := Try.isAgg83,
  z57 := Try.sizeOf83,
  v57 := Try.zeroValue83,
  t63 := Try.underlying85,
  a63 := Try.isAgg85,
  z63 := Try.sizeOf85,
  v63 := Try.zeroValue85,
  t64 := Try.underlying86,
  a64 := Try.isAgg86,
  z64 := Try.sizeOf86,
  v64 := Try.zeroValue86 }

/-- a row of the call's own, sorted in place -/
theorem sort_own {w : World} {base g cap n : Nat} {l : List Int} (hn : l.length = n) (h : w.ownsRow base 3 1 (.slice (some ⟨g, 0, none⟩) n cap) n (l.map (Value.int .i64))) (hl : n < 4611686018427387904) :
    Calls Try.prog 40 #[.slice (some ⟨g, 0, none⟩) n cap] w fun e w' => e = .returned (.tuple #[]) ∧ w'.ownsRow base 3 1 (.slice (some ⟨g, 0, none⟩) n cap) n ((bin.srt l).map (Value.int .i64)) ∧ w.grownBy w' (some g) := by
  subst hn
  obtain ⟨-, ⟨h, -⟩ | ⟨g', cap', cur, hv, hb, hg, hnc, hcm, hcs, htk⟩⟩ := h
  · cases h
  cases hv
  have hg' : w.heap[g]? = some (.cells cur 3 (0, 0)) := hg
  have hH := holds_of_blockI (ss := l) hg' (by simpa using htk)
  refine (AnyM.slices_Sort_int lays g 0 cap l w hH (lt_of_block hg) hl).mono ?_
  rintro e w' ⟨rfl, n, os, rfl⟩
  exact ⟨rfl, ownsRow_sortedI (bin.srt_len l) hb hg' hnc hcm hcs, grownBy_sortedI _⟩
end Go.Proofs.Ytgikpppclgacoaa.srt
