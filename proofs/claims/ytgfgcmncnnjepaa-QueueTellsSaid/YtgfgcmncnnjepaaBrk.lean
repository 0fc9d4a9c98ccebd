/- A range over a list's iterator whose round may break off, and may write below the list's cells. -/
import Derived.Test.YtgfgcmncnnjepaaLstWalks
namespace Go.Proofs.Ytgfgcmncnnjepaa.rng
open Go Go.RowKit
variable {P : Program}

/-- 'for .. := range g', with a break -/
theorem wp_range_brk {α : Type} {g : Operand} {ps : Array Tmp} {assign body : Code} {Q : Exit → Act → World → Prop} {a : Act} {w : World}
    {gf : Nat} {lb : Array Value} (hg : a.eval g = .func (.func gf) #[] lb) (eg : ∀ args w, (callFunc gf args).run P w = .ok (.enter gf args) w)
    {encs : α → Array Value} {Kp : World → World → Prop} {S Sp : List α → Prop} {N : Nat} (hseq : SeqStopsK Fence.wide 8 P gf lb encs Kp S Sp N w)
    (hKt : ∀ {A B C : World}, Kp A B → Kp B C → Kp A C) (hKb : ∀ (W : World) (l : Nat) (o o' : Obj), w.heap.size ≤ l → W.heap[l]? = some o → o.isCells = false → o.isWalk = false → Kp W (W.putObj l o'))
    (hps : ∀ x, (encs x).size = ps.size) (id : Nat) (hQ : ∀ a W, Q .normal a W → Q (.exit id) a W)
    (I Ix : List α → World → Prop) (hI : ∀ s W W', I s W → Turn w.heap.size W W' → I s W') (hIx : ∀ s W W', Ix s W → Turn w.heap.size W W' → Ix s W') (h0 : I [] w) {a₁ : α → Act}
    (hassign : ∀ (l : Nat) (x : α) (W : World) (K : Act → World → Prop), K (a₁ x) W →
      assign.wpIn (Fence.wide.inRound l) 7 P (Exit.then K (fun _ _ _ => False)) { tmps := (ps.zip (encs x)).foldl (fun t (p, v) => t.setIfInBounds p v) a.tmps, defers := [] } W)
    (hbody : ∀ (l : Nat) (pre : List α) (x : α) (W : World), I pre W → pre.length < N → body.wpIn (Fence.wide.inRound l) 7 P (fun e _ W' => match e with
      | .normal => KeepsFrom w.heap.size W W' ∧ Kp W W' ∧ I (pre ++ [x]) W'
      | .exit i => i = id ∧ KeepsFrom w.heap.size W W' ∧ Ix (pre ++ [x]) W'
      | _ => False) (a₁ x) W)
    (F : World → Prop) (hF : ∀ xs W, S xs → I xs W → F W) (hFx : ∀ pre W, Sp pre → Ix pre W → F W)
    (hrest : ∀ (D : Nat) (W : World), w.heap.size ≤ D → F W → W.heap[D]? = some (.deferred (some [])) → Q .normal { a with defers := { target := .collected D, args := #[] } :: a.defers } W) :
    (Code.rangeFunc g ps assign body).wp P Q a w := by
  refine (wpIn_wide (n := 9)).1 ?_
  refine wpIn_rangeFunc_ownG (F := Fence.wide) (n := 9) rfl (by decide) hg trivial eg hseq (fun h k => hKt h k) hKb (Below.refl _ _) hps I (fun c s W => c = .exit id ∧ Ix s W)
    (fun s W W' row hs hg hr => hI s W W' hs ⟨row, hg, hr⟩) (fun c s W W' row hs hg hr => ⟨hs.1, hIx s W W' hs.2 ⟨row, hg, hr⟩⟩) h0 a₁ hassign ?_ (fun D xs W h1 h2 h3 h4 => hrest D W h1 (hF xs W h2 h3) h4)
    (fun D c pre W h1 h2 h3 h4 => (wpIn_wide (n := 9)).2 (by
      obtain ⟨rfl, h5⟩ := h3
      exact wp_exit (hQ _ _ (hrest D W h1 (hFx pre W h2 h5) h4))))
  intro l pre x W hi hlen
  refine wpIn_mono (hbody l pre x W hi hlen) ?_
  intro e a' W' h
  cases e with
  | normal => exact h
  | exit i => obtain ⟨rfl, h1, h2⟩ := h; exact ⟨h1, rfl, h2⟩
  | _ => exact h.elim

/-- a store of cells, an append to a row: what is no cells stays -/
theorem keeps_appended {W w1 : World} {C n₀ : Nat} {e : TypeId} {size : Nat} {v : Value} {k : Nat} {xs : List Value} (hrow : W.ownsRow n₀ e size v k xs) (hgrow : W.grownBy w1 v.ownBlock) : KeepsFrom C W w1 := by
  refine KeepsOthers.from (KeepsOthers.of_grownBy hgrow fun j o ej hj => ?_) _
  rcases hrow.2 with ⟨rfl, _⟩ | ⟨g, cap, cur, rfl, _, hgb, _⟩
  · simp [Value.ownBlock] at ej
  · obtain rfl : g = j := by simpa [Value.ownBlock] using ej
    rw [hgb] at hj; cases hj; rfl
end Go.Proofs.Ytgfgcmncnnjepaa.rng

namespace Go.Proofs.Ytgfgcmncnnjepaa.hp
open Go Go.RowKit
theorem Blk.ne {w : World} {g g' : Nat} {t t' : TypeId} {cs cs' : List Value} (h : Blk w g t cs) (h' : Blk w g' t' cs') (ht : t ≠ t') : g ≠ g' := by
  rintro rfl
  unfold Blk at h h'
  rw [h] at h'
  simp at h'
  exact ht h'.2
theorem row_slice {w : World} {base k size : Nat} {e : TypeId} {v : Value} {xs : List Value} (h : w.ownsRow base e size v k xs) : ∃ a cap, v = .slice a k cap := by
  rcases h.2 with ⟨rfl, h0⟩ | ⟨g, cap, cur, rfl, _⟩
  · subst h0; exact ⟨_, _, rfl⟩
  · exact ⟨_, _, rfl⟩
theorem IsInts.take {w : World} {B : Nat} {a : Option Addr} {n c : Nat} {l : List Int} (h : IsInts w B (.slice a n c) l) {k : Nat} (hk : k ≤ l.length) {c' : Nat} (hc' : k ≤ c') (ha : a = none → c' = 0) : IsInts w B (.slice a k c') (l.take k) := by
  obtain ⟨a', cap, hv, hn, hm, hw, hc⟩ := h
  cases hv
  have hl : (l.take k).length = k := by simp; omega
  refine ⟨a, c', by rw [hl], ⟨ha, by rw [hl]; exact hc'⟩, by rw [hl]; omega, fun x hx => hw x (List.mem_of_mem_take hx), fun hp => ?_⟩
  rw [hl] at hp
  obtain ⟨b, off, he, hb, hd⟩ := hc (by omega)
  refine ⟨b, off, he, hb, fun j hj => ?_⟩
  rw [hl] at hj
  rw [hd j (by omega)]
  have : j < l.length := by omega
  simp [hj]
end Go.Proofs.Ytgfgcmncnnjepaa.hp

namespace Go.Proofs.Ytgfgcmncnnjepaa.lst
open Go Go.RowKit Go.Shelf
attribute [local go_sem] Oper.semAt_some

/-- lists stay -/
def KeepC (W W' : World) : Prop := ∀ g cs, hp.Blk W g 50 cs → hp.Blk W' g 50 cs
theorem KeepC.chain {n : Nat} {W W' : World} (h : KeepC W W') : ∀ {p : Option Addr} {xs : List Int}, Chain n W p xs → Chain n W' p xs
  | _, [], hl => hl
  | _, _ :: _, ⟨b, q, he, hb, hv, hr⟩ => ⟨b, q, he, hb, h _ _ hv, h.chain hr⟩
theorem KeepC.set {W : World} {g o : Nat} {t : TypeId} {cs : List Value} (hg : hp.Blk W g t cs) (ht : t ≠ 50) (u : Value) : KeepC W (W.setCell ⟨g, o, none⟩ u) :=
  fun _ _ h => h.other (h.ne hg (fun e => ht e.symm)) u

set_option maxRecDepth 100000 in
set_option maxHeartbeats 1000000 in
theorem all1_keep (k : Nat) (l Bn n₀ : Nat) (p0 : Option Addr) (n0 : Int) (xs : List Int) (J Jx : List Int → World → Prop)
    (hY : ∀ pre x W, J pre W → pre.length < xs.length → YieldAt Fence.wide (k - 1) Try.prog l #[.int .i64 x] W fun e W' =>
      (e = .returned (.bool true) ∧ J (pre ++ [x]) W' ∧ KeepC W W') ∨ (e = .returned (.bool false) ∧ Jx (pre ++ [x]) W'))
    (W : World) (hBn : hp.Blk W Bn 27 [.pointer p0, .int .i64 n0]) (hL : Chain n₀ W p0 xs) (h0 : J [] W) :
    CallsIn Fence.wide k Try.prog 25 #[.func (.yield l) #[] #[], .pointer (some ⟨Bn, 0, none⟩)] W fun e W' => (∃ v, e = .returned v) ∧
      ((∃ ys, ys = xs ∧ J ys W') ∨ (∃ pre, pre <+: xs ∧ Jx pre W')) := by
  refine callsIn_of_wp Try.func25 rfl trivial ?_ rfl
  simp only [Try.ntmps25, List.size_toArray, List.length_cons, List.length_nil, Nat.reduceAdd, Nat.reduceSub, Array.replicate_succ, Array.replicate_zero, List.push_toArray, List.append_toArray, List.nil_append, List.cons_append]
  obtain ⟨c0, c1⟩ := hBn.cells2
  gi_wp2
  gi_loopw [3] (fun p wr => ∃ (pre rest : List Int) (q : Option Addr), p = .pointer q ∧ xs = pre ++ rest ∧ Chain n₀ wr q rest ∧ J pre wr)
    (fun p wr => left n₀ wr p)
  case atStart =>
    exact ⟨[], xs, p0, rfl, rfl, hL, h0⟩
  case round =>
    obtain ⟨pre, rest, q, rfl, hx, hl, hJs⟩ := hrel
    cases rest with
    | nil =>
      obtain rfl : q = none := hl
      gi_wp2
      go_end0
      exact ⟨⟨_, rfl⟩, .inl ⟨pre, by simp [hx], hJs⟩⟩
    | cons x rest =>
      have hl' := hl
      obtain ⟨b, q', rfl, hb, hk, hr⟩ := hl
      obtain ⟨d0, d1⟩ := hk.cells2
      obtain ⟨fn, tmps, assign, body, hy, hR⟩ := hY pre x wr hJs (by rw [hx]; simp)
      gi_wp2
      refine ⟨fun h => (by cases h), ?_⟩
      refine hR.mono ?_
      rintro e W3 (⟨rfl, hJ3, hk3⟩ | ⟨rfl, hJx3⟩)
      · obtain ⟨e0, e1⟩ := (hk3 _ _ hk).cells2
        gi_wp2
        go_roundw
        case rel => exact ⟨pre ++ [x], rest, q', rfl, by simp [hx], hk3.chain hr, hJ3⟩
        case measure => rw [left_eq (hk3.chain hr), left_eq hl']; simp
      · gi_wp2
        refine bodyPost_ret (results_none rfl _ _ _) rfl ?_
        exact ⟨⟨_, rfl⟩, .inr ⟨pre ++ [x], ⟨rest, by simp [hx]⟩, hJx3⟩⟩

theorem all_keep (k : Nat) (Bn n₀ : Nat) (p0 : Option Addr) (n0 : Int) (xs : List Int) (w : World) (hn₀ : n₀ ≤ w.heap.size)
    (hc : hp.Blk w Bn 27 [.pointer p0, .int .i64 n0]) (hL : Chain n₀ w p0 xs) :
    SeqStopsK Fence.wide k Try.prog 25 #[.pointer (some ⟨Bn, 0, none⟩)] (fun x : Int => #[Value.int .i64 x]) KeepC (fun ys => ys = xs) (fun pre => pre <+: xs) xs.length w := fun l J Jx W hW _ _ hY h0 =>
  all1_keep k l Bn n₀ p0 n0 xs J Jx hY W (hc.on hW) (hL.below (hW.mono hn₀)) h0
end Go.Proofs.Ytgfgcmncnnjepaa.lst
