/- slices.Sort at []int: the kit's contract, laid on this program; and on a row of the call's own. -/
import Derived.Test.YtfaahopabcconaaChecked
import Derived.Test.YtfaahopabcconaaHeap
import Derived.Test.YtfaahopabcconaaBinMath
import Derived.Shelf.SortM.Plain
import Derived.Sort.OwnSortedInts
namespace Go.Proofs.Ytfaahopabcconaa.srt
open Go Go.RowKit

def lays_ren : Go.Shelf.Ren := ⟨fun | 5 => 24 | 8 => 29 | 7 => 28 | 19 => 39 | 20 => 40 | 10 => 30 | 11 => 31 | 12 => 32 | 13 => 33 | 14 => 34 | 15 => 35 | 16 => 36 | 17 => 37 | 18 => 38 | 30 => 41 | 31 => 42 | 32 => 43 | 33 => 44 | 34 => 45 | 35 => 46 | 40 => 47 | n => n, fun | 23 => 22 | 25 => 3 | 3 => 3 | 32 => 55 | 22 => 22 | 0 => 0 | 44 => 65 | 46 => 67 | 4 => 4 | 36 => 58 | 35 => 57 | 41 => 35 | 5 => 5 | 9 => 9 | 53 => 68 | 57 => 72 | 63 => 75 | 64 => 76 | n => n, fun | n => n⟩
theorem lays : Go.Proofs.SlLaysM.n5 Try.prog lays_ren := {
  mixed := by kernel_rfl,
  f5 := ⟨Try.f24.name, by decide, Try.func24.trans (congrArg some (by kernel_rfl))⟩,
  f7 := ⟨Try.f28.name, by decide, Try.func28.trans (congrArg some (by kernel_rfl))⟩,
  f8 := Try.func29.trans (congrArg some (by kernel_rfl)),
  f10 := ⟨Try.f30.name, by decide, Try.func30.trans (congrArg some (by kernel_rfl))⟩,
  f11 := ⟨Try.f31.name, by decide, Try.func31.trans (congrArg some (by kernel_rfl))⟩,
  f12 := ⟨Try.f32.name, by decide, Try.func32.trans (congrArg some (by kernel_rfl))⟩,
  f13 := ⟨Try.f33.name, by decide, Try.func33.trans (congrArg some (by kernel_rfl))⟩,
  f14 := ⟨Try.f34.name, by decide, Try.func34.trans (congrArg some (by kernel_rfl))⟩,
  f15 := ⟨Try.f35.name, by decide, Try.func35.trans (congrArg some (by kernel_rfl))⟩,
  f16 := ⟨Try.f36.name, by decide, Try.func36.trans (congrArg some (by kernel_rfl))⟩,
  f17 := ⟨Try.f37.name, by decide, Try.func37.trans (congrArg some (by kernel_rfl))⟩,
  f18 := ⟨Try.f38.name, by decide, Try.func38.trans (congrArg some (by kernel_rfl))⟩,
  f19 := Try.func39.trans (congrArg some (by kernel_rfl)),
  f20 := Try.func40.trans (congrArg some (by kernel_rfl)),
  f30 := ⟨Try.f41.name, by decide, Try.func41.trans (congrArg some (by kernel_rfl))⟩,
  f31 := Try.func42.trans (congrArg some (by kernel_rfl)),
  f32 := Try.func43.trans (congrArg some (by kernel_rfl)),
  f33 := ⟨Try.f44.name, by decide, Try.func44.trans (congrArg some (by kernel_rfl))⟩,
  f34 := ⟨Try.f45.name, by decide, Try.func45.trans (congrArg some (by kernel_rfl))⟩,
  f35 := ⟨Try.f46.name, by decide, Try.func46.trans (congrArg some (by kernel_rfl))⟩,
  f40 := ⟨Try.f47.name, by decide, Try.func47.trans (congrArg some (by kernel_rfl))⟩,
  t0 := Try.underlying0,
  a0 := Try.isAgg0,
  z0 := Try.sizeOf0,
  v0 := Try.zeroValue0,
  t3 := Try.underlying3,
  a3 := Try.isAgg3,
  z3 := Try.sizeOf3,
  v3 := Try.zeroValue3,
  t4 := Try.underlying4,
  a4 := Try.isAgg4,
  z4 := Try.sizeOf4,
  v4 := Try.zeroValue4,
  t5 := Try.underlying5,
  a5 := Try.isAgg5,
  z5 := Try.sizeOf5,
  v5 := Try.zeroValue5,
  t9 := Try.underlying9,
  a9 := Try.isAgg9,
  z9 := Try.sizeOf9,
  v9 := Try.zeroValue9,
  t22 := Try.underlying22,
  a22 := Try.isAgg22,
  z22 := Try.sizeOf22,
  v22 := Try.zeroValue22,
  t23 := Try.underlying22,
  a23 := Try.isAgg22,
  z23 := Try.sizeOf22,
  v23 := Try.zeroValue22,
  t25 := Try.underlying3,
  a25 := Try.isAgg3,
  z25 := Try.sizeOf3,
  v25 := Try.zeroValue3,
  t32 := Try.underlying55,
  a32 := Try.isAgg55,
  z32 := Try.sizeOf55,
  v32 := Try.zeroValue55,
  t35 := Try.underlying57,
  a35 := Try.isAgg57,
  z35 := Try.sizeOf57,
  v35 := Try.zeroValue57,
  t36 := Try.underlying58,
  a36 := Try.isAgg58,
  z36 := Try.sizeOf58,
  v36 := Try.zeroValue58,
  t41 := Try.underlying35,
  a41 := Try.isAgg35,
  z41 := Try.sizeOf35,
  v41 := Try.zeroValue35,
  t44 := Try.underlying65,
  a44 := Try.isAgg65,
  z44 := Try.sizeOf65,
  v44 := Try.zeroValue65,
  t46 := Try.underlying67,
  a46 := Try.isAgg67,
  z46 := Try.sizeOf67,
  v46 := Try.zeroValue67,
  t53 := Try.underlying68,
  a53 := Try.isAgg68,
  z53 := Try.sizeOf68,
  v53 := Try.zeroValue68,
  t57 := Try.underlying72,
  a57 := Try.isAgg72,
  z57 := Try.sizeOf72,
  v57 := Try.zeroValue72,
  t63 := Try.underlying75,
  a63 := Try.isAgg75,
  z63 := Try.sizeOf75,
  v63 := Try.zeroValue75,
  t64 := Try.underlying76,
  a64 := Try.isAgg76,
  z64 := Try.sizeOf76,
  v64 := Try.zeroValue76 }

/-- a row of the call's own, sorted in place -/
theorem sort_own {w : World} {base g cap n : Nat} {l : List Int} (hn : l.length = n) (h : w.ownsRow base 3 1 (.slice (some ⟨g, 0, none⟩) n cap) n (l.map (Value.int .i64))) (hl : n < 4611686018427387904) :
    Calls Try.prog 24 #[.slice (some ⟨g, 0, none⟩) n cap] w fun e w' => e = .returned (.tuple #[]) ∧ w'.ownsRow base 3 1 (.slice (some ⟨g, 0, none⟩) n cap) n ((bin.srt l).map (Value.int .i64)) ∧ w.grownBy w' (some g) := by
  subst hn
  obtain ⟨-, ⟨h, -⟩ | ⟨g', cap', cur, hv, hb, hg, hnc, hcm, hcs, htk⟩⟩ := h
  · cases h
  cases hv
  have hg' : w.heap[g]? = some (.cells cur 3 (0, 0)) := hg
  have hH := holds_of_blockI (ss := l) hg' (by simpa using htk)
  refine (AnyM.slices_Sort_int lays g 0 cap l w hH (lt_of_block hg) hl).mono ?_
  rintro e w' ⟨rfl, n, os, rfl⟩
  exact ⟨rfl, ownsRow_sortedI (bin.srt_len l) hb hg' hnc hcm hcs, grownBy_sortedI _⟩
end Go.Proofs.Ytfaahopabcconaa.srt
