/- Random-access lists in memory: complete trees, and their sequence. -/
import Derived.Test.YtkenocamlaaajaaChecked
import Derived.Test.YtkenocamlaaajaaHeap
import Derived.Test.YtkenocamlaaajaaReg
import Derived.Test.YtkenocamlaaajaaRel
import Derived.Test.YtkenocamlaaajaaSkMath
import Derived.WalkKit
import Derived.BigQuiet
import Derived.Deep.QuietTactic
import Derived.StillTailTactics
import Derived.WalkSmall
import Derived.RegionTactic
import Derived.BigRegion
import Derived.Lib.Hide
namespace Go.Proofs.Ytkenocamlaaajaa.ral
open Go Go.RowKit Go.Proofs.Ytkenocamlaaajaa.sk

/-- a complete tree of height k, in blocks below B, with these numbers in its order -/
def Nod (B : Nat) (W : World) : Nat → Option Addr → List Int → Prop
  | 0, p, xs => p = none ∧ xs = []
  | k + 1, p, xs => ∃ (b : Nat) (l r : Option Addr) (x : Int) (ys zs : List Int), p = some ⟨b, 0, none⟩ ∧ b < B ∧ hp.Blk W b 87 [.int .i64 x, .pointer l, .pointer r] ∧ xs = x :: (ys ++ zs) ∧ Nod B W k l ys ∧ Nod B W k r zs

/-- from p on: trees, each of a height more than its number here -/
def Trs (B : Nat) (W : World) : Option Addr → List (Nat × List Int) → Prop
  | p, [] => p = none
  | p, (k, xs) :: ts => ∃ (b : Nat) (r q : Option Addr), p = some ⟨b, 0, none⟩ ∧ b < B ∧ hp.Blk W b 85 [.int .i64 (dg (k + 1)), .pointer r, .pointer q] ∧ Nod B W (k + 1) r xs ∧ Trs B W q ts

/-- what stays: the blocks of trees -/
def Keep (W W' : World) : Prop := ∀ b t cs, (t = 87 ∨ t = 85) → hp.Blk W b t cs → hp.Blk W' b t cs
theorem Keep.of_below {W W' : World} (h : Below W.heap.size W W') : Keep W W' := fun _ _ _ _ hk => hk.on h
theorem Keep.of_set {W : World} {g o : Nat} {t : TypeId} {cs : List Value} (hg : hp.Blk W g t cs) (h1 : t ≠ 87) (h2 : t ≠ 85) (v : Value) : Keep W (W.setCell ⟨g, o, none⟩ v) := by
  intro b t' cs' ht hk
  refine hk.other (fun e => ?_) v
  subst e
  unfold hp.Blk at hk hg
  rw [hk] at hg
  simp at hg
  rcases ht with rfl | rfl
  · exact h1 hg.2.symm
  · exact h2 hg.2.symm

theorem Nod.below {B : Nat} {A W : World} (h : Below B A W) : ∀ {k : Nat} {p : Option Addr} {xs : List Int}, Nod B A k p xs → Nod B W k p xs
  | 0, _, _, hl => hl
  | _ + 1, _, _, ⟨b, l, r, x, ys, zs, he, hb, hv, hx, hl, hr⟩ => ⟨b, l, r, x, ys, zs, he, hb, hv.below h hb, hx, Nod.below h hl, Nod.below h hr⟩
theorem Nod.keep {B : Nat} {A W : World} (h : Keep A W) : ∀ {k : Nat} {p : Option Addr} {xs : List Int}, Nod B A k p xs → Nod B W k p xs
  | 0, _, _, hl => hl
  | _ + 1, _, _, ⟨b, l, r, x, ys, zs, he, hb, hv, hx, hl, hr⟩ => ⟨b, l, r, x, ys, zs, he, hb, h _ _ _ (.inl rfl) hv, hx, Nod.keep h hl, Nod.keep h hr⟩
theorem Nod.mono {B B' : Nat} {W : World} (h : B ≤ B') : ∀ {k : Nat} {p : Option Addr} {xs : List Int}, Nod B W k p xs → Nod B' W k p xs
  | 0, _, _, hl => hl
  | _ + 1, _, _, ⟨b, l, r, x, ys, zs, he, hb, hv, hx, hl, hr⟩ => ⟨b, l, r, x, ys, zs, he, by omega, hv, hx, Nod.mono h hl, Nod.mono h hr⟩
theorem Nod.len {B : Nat} {W : World} : ∀ {k : Nat} {p : Option Addr} {xs : List Int}, Nod B W k p xs → (xs.length : Int) = dg k
  | 0, _, _, ⟨_, hl⟩ => by rw [hl]; rfl
  | k + 1, _, _, ⟨b, l, r, x, ys, zs, he, hb, hv, hx, hl, hr⟩ => by
    have h1 := Nod.len hl
    have h2 := Nod.len hr
    rw [hx, dg_succ]
    simp
    omega
theorem Trs.below {B : Nat} {A W : World} (h : Below B A W) : ∀ {p : Option Addr} {ts : List (Nat × List Int)}, Trs B A p ts → Trs B W p ts
  | _, [], hl => hl
  | _, _ :: _, ⟨b, r, q, he, hb, hv, hr, hq⟩ => ⟨b, r, q, he, hb, hv.below h hb, hr.below h, Trs.below h hq⟩
theorem Trs.keep {B : Nat} {A W : World} (h : Keep A W) : ∀ {p : Option Addr} {ts : List (Nat × List Int)}, Trs B A p ts → Trs B W p ts
  | _, [], hl => hl
  | _, _ :: _, ⟨b, r, q, he, hb, hv, hr, hq⟩ => ⟨b, r, q, he, hb, h _ _ _ (.inr rfl) hv, hr.keep h, Trs.keep h hq⟩
theorem Trs.mono {B B' : Nat} {W : World} (h : B ≤ B') : ∀ {p : Option Addr} {ts : List (Nat × List Int)}, Trs B W p ts → Trs B' W p ts
  | _, [], hl => hl
  | _, _ :: _, ⟨b, r, q, he, hb, hv, hr, hq⟩ => ⟨b, r, q, he, by omega, hv, hr.mono h, Trs.mono h hq⟩
theorem Nod.grow {B B' : Nat} {A W : World} {k : Nat} {p : Option Addr} {xs : List Int} (h : Nod B A k p xs) (hb : Below B A W) (hB : B ≤ B') : Nod B' W k p xs := (h.below hb).mono hB
theorem Trs.grow {B B' : Nat} {A W : World} {p : Option Addr} {ts : List (Nat × List Int)} (h : Trs B A p ts) (hb : Below B A W) (hB : B ≤ B') : Trs B' W p ts := (h.below hb).mono hB

/-- all numbers of the trees -/
def flat (ts : List (Nat × List Int)) : List Int := (ts.map Prod.snd).flatten
theorem flat_nil : flat [] = [] := rfl
theorem flat_cons (k : Nat) (xs : List Int) (ts : List (Nat × List Int)) : flat ((k, xs) :: ts) = xs ++ flat ts := by simp [flat]

/-- they grow, but for the first two -/
def Ord : List Nat → Prop
  | [] => True
  | k :: ks => (∀ j ∈ ks, k ≤ j) ∧ ks.Pairwise (· < ·)
theorem Ord.push {ks : List Nat} (h : Ord ks) (hn : ∀ k r, ks = k :: r → ∀ j s, r = j :: s → k ≠ j) : Ord (0 :: ks) := by
  refine ⟨fun _ _ => Nat.zero_le _, ?_⟩
  rcases ks with _ | ⟨k, _ | ⟨j, s⟩⟩
  · exact List.Pairwise.nil
  · simp
  · obtain ⟨h1, h2⟩ := h
    have hkj := hn k _ rfl j s rfl
    have h3 := h1 j (by simp)
    refine List.pairwise_cons.2 ⟨fun i hi => ?_, h2⟩
    rcases List.mem_cons.1 hi with rfl | hi
    · omega
    · have := (List.pairwise_cons.1 h2).1 i hi
      omega
theorem Ord.join {k : Nat} {ks : List Nat} (h : Ord (k :: k :: ks)) : Ord ((k + 1) :: ks) := by
  obtain ⟨_, h2⟩ := h
  obtain ⟨h3, h4⟩ := List.pairwise_cons.1 h2
  exact ⟨fun j hj => h3 j hj, h4⟩
theorem Ord.tail {k : Nat} {ks : List Nat} (h : Ord (k :: ks)) : Ord ks := by
  obtain ⟨_, h2⟩ := h
  cases ks with
  | nil => trivial
  | cons j s =>
    obtain ⟨h3, h4⟩ := List.pairwise_cons.1 h2
    exact ⟨fun i hi => Nat.le_of_lt (h3 i hi), h4⟩
theorem Ord.part {k : Nat} {ks : List Nat} (h : Ord ((k + 1) :: ks)) : Ord (k :: k :: ks) := by
  obtain ⟨h1, h2⟩ := h
  refine ⟨fun j hj => ?_, List.pairwise_cons.2 ⟨fun j hj => h1 j hj, h2⟩⟩
  rcases List.mem_cons.1 hj with rfl | hj
  · exact Nat.le_refl _
  · have := h1 j hj; omega

abbrev rv (p : Option Addr) : Value := .agg #[.pointer p]

/-- a random-access list that reads as these numbers, its trees below block B -/
def IsRal (w : World) (B : Nat) (v : Value) (l : List Int) : Prop := ∃ p ts, v = rv p ∧ Trs B w p ts ∧ flat ts = l ∧ Ord (ts.map Prod.fst) ∧ ∀ x ∈ l, (Lit.int .i64 x).wf = true

section
variable {w w' : World} {B B' : Nat} {v : Value} {l : List Int}
theorem IsRal.below (h : IsRal w B v l) (hb : Below B w w') : IsRal w' B v l := by
  obtain ⟨p, ts, hv, hc, hw⟩ := h
  exact ⟨p, ts, hv, hc.below hb, hw⟩
theorem IsRal.keep (h : IsRal w B v l) (hb : Keep w w') : IsRal w' B v l := by
  obtain ⟨p, ts, hv, hc, hw⟩ := h
  exact ⟨p, ts, hv, hc.keep hb, hw⟩
theorem IsRal.mono (h : IsRal w B v l) (hB : B ≤ B') : IsRal w B' v l := by
  obtain ⟨p, ts, hv, hc, hw⟩ := h
  exact ⟨p, ts, hv, hc.mono hB, hw⟩
theorem IsRal.on (h : IsRal w w.heap.size v l) (hb : Below w.heap.size w w') : IsRal w' w'.heap.size v l := (h.below hb).mono hb.size
theorem IsRal.wf (h : IsRal w B v l) : ∀ x ∈ l, (Lit.int .i64 x).wf = true := by obtain ⟨_, _, _, _, _, _, hw⟩ := h; exact hw
theorem IsRal.nil (w : World) (B : Nat) : IsRal w B (rv none) [] := ⟨none, [], rfl, rfl, rfl, trivial, by simp⟩
theorem IsRal.val (h : IsRal w B v l) : ∃ p, v = rv p := by obtain ⟨p, _, hv, _⟩ := h; exact ⟨p, hv⟩
end

theorem Trs.len {B : Nat} {W : World} {p : Option Addr} {k : Nat} {xs : List Int} {ts : List (Nat × List Int)} (h : Trs B W p ((k, xs) :: ts)) : ((flat ((k, xs) :: ts)).length : Int) = dg (k + 1) + (flat ts).length := by
  obtain ⟨b, r, q, he, hb, hv, hr, hq⟩ := h
  have := hr.len
  rw [flat_cons, List.length_append]
  omega
theorem wrap_small {n : Int} (h : 0 ≤ n) (h' : n ≤ 9223372036854775807) : wrap64 n = n := IntWalk.wrap64_in _ ⟨by omega, by omega⟩
theorem dg_pos (k : Nat) : 1 ≤ dg (k + 1) := by have := dg_succ k; have := dg_nonneg k; omega

open Classical in
/-- how many trees are still to come -/
noncomputable def left (B : Nat) (W : World) (v : Value) : Nat :=
  if h : ∃ r : Option Addr × List (Nat × List Int), v = .pointer r.1 ∧ Trs B W r.1 r.2 then (Classical.choose h).2.length else 0
theorem Trs.one {B : Nat} {W : World} : ∀ {p : Option Addr} {ts us : List (Nat × List Int)}, Trs B W p ts → Trs B W p us → ts.length = us.length
  | _, [], [], _, _ => rfl
  | _, [], _ :: _, h, ⟨_, _, _, he, _⟩ => by rw [h] at he; cases he
  | _, _ :: _, [], ⟨_, _, _, he, _⟩, h => by rw [h] at he; cases he
  | _, (_, _) :: _, (_, _) :: _, ⟨b, r, q, he, _, hv, _, hq⟩, ⟨b', r', q', he', _, hv', _, hq'⟩ => by
    rw [he] at he'; cases he'
    unfold hp.Blk at hv hv'
    rw [hv] at hv'; simp at hv'
    obtain ⟨-, rfl, rfl⟩ := hv'
    simp [Trs.one hq hq']
theorem left_eq {B : Nat} {W : World} {q : Option Addr} {ts : List (Nat × List Int)} (h : Trs B W q ts) : left B W (.pointer q) = ts.length := by
  have hex : ∃ r : Option Addr × List (Nat × List Int), Value.pointer q = .pointer r.1 ∧ Trs B W r.1 r.2 := ⟨(q, ts), rfl, h⟩
  unfold left
  rw [dif_pos hex]
  obtain ⟨e, hl⟩ := Classical.choose_spec hex
  have e' : q = (Classical.choose hex).1 := by simpa using e
  rw [← e'] at hl
  exact Trs.one hl h

set_option maxHeartbeats 4000000 in
theorem len_any (v : Value) (l : List Int) (w : World) (hv : IsRal w w.heap.size v l) (hbd : l.length < 4611686018427387904) :
    Calls Try.prog 50 #[v] w fun e w' => e = .returned (.int .i64 l.length) ∧ Below w.heap.size w w' := by
  obtain ⟨p, ts, rfl, hc, hf, -, -⟩ := hv
  go_enter Try.func50, Try.ntmps50
  go_wp2_with fail
  go_loopw [3, 4] (fun n c wr => ∃ m : Nat, ∃ q us, n = .int .i64 m ∧ c = .pointer q ∧ m + (flat us).length = l.length ∧ Below w.heap.size w wr ∧ Trs w.heap.size w q us) (fun _ c _ => left w.heap.size w c)
  case atStart => exact ⟨0, p, ts, rfl, rfl, by rw [hf]; omega, by ((repeat' (first | with_reducible exact Below.refl _ _ | with_reducible apply Below.setCell | with_reducible apply below_drewN | with_reducible apply Below.drew | with_reducible apply Below.alloc | with_reducible refine Below.trans ?_ (Below.mono (by assumption) ?_))) <;> (first | (simp; done) | (simp; omega) | omega)), hc⟩
  case round =>
    obtain ⟨m, q, us, rfl, rfl, hm, hb, hq⟩ := hrel
    have hle := left_eq hq
    rcases us with _ | ⟨⟨k, xs⟩, us⟩
    · obtain rfl : q = none := hq
      rw [flat_nil] at hm
      obtain rfl : m = l.length := by simpa using hm
      go_wp2_with fail
      go_ret
      exact ⟨rfl, hb⟩
    · have hln := hq.len
      obtain ⟨b, r, q', rfl, hbb, hk, hr, hq'⟩ := hq
      have hr' := left_eq hq'
      obtain ⟨c0, c1, c2⟩ : wr.cell? ⟨b, 0, none⟩ = _ ∧ wr.cell? ⟨b, 1, none⟩ = _ ∧ wr.cell? ⟨b, 2, none⟩ = _ := ⟨(hk.below hb hbb).cell 0, (hk.below hb hbb).cell 1, (hk.below hb hbb).cell 2⟩
      simp only [List.getElem?_cons_zero, List.getElem?_cons_succ] at c0 c1 c2
      have hd := dg_pos k
      obtain ⟨d, hd0⟩ : ∃ d : Nat, dg (k + 1) = d := ⟨(dg (k + 1)).toNat, by omega⟩
      rw [hd0] at hln c0 hd
      clear hk hr hf hd0
      have hmd : m + d + (flat us).length = l.length := by omega
      go_wp2_with fail
      go_roundw
      case rel => exact ⟨m + d, q', us, by go_num, rfl, hmd, hb, hq'⟩
      case measure => rw [hr']; simp at hle; omega
end Go.Proofs.Ytkenocamlaaajaa.ral
