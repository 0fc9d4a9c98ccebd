/- Package measured: each; the iterator; package finger: All, Ints. -/
import Derived.RangeFuncNested
import Derived.RangeFuncBound
import Derived.RangeFuncCalls
import Derived.RangeFuncLeaves
import Derived.Shelf.Abstract
import Derived.OwnWalkIn
import Derived.TacticsInMore
import Derived.LoopNIn
import Derived.LoopIn
import Derived.Test.YtfbeiimmcemniaaPriTr
import Derived.Test.YtfbeiimmcemniaaRng
namespace Go.Proofs.Ytfbeiimmcemniaa.pri
open Go Go.RowKit Go.Shelf
attribute [local go_sem] Oper.semAt_some

section
variable {B : Nat} {w w' : World}
theorem IsPs.under {v : Value} {ps : List (Option Addr)} (h : IsPs (· < B) w v ps) (hb : Below B w w') (_hB : B ≤ w.heap.size) : IsPs (· < B) w' v ps := by
  obtain ⟨a, cap, hv, hn, hc⟩ := h
  refine ⟨a, cap, hv, hn, fun hl => ?_⟩
  obtain ⟨b, off, ha, hq, hbB, hcell⟩ := hc hl
  exact ⟨b, off, ha, ⟨hq.1, let ⟨cs, h⟩ := hq.2; ⟨cs, h.below hb hq.1⟩⟩, by have := hb.size; omega, fun k hk => (hb.cell (p := ⟨b, off + k, none⟩) hq.1).trans (hcell k hk)⟩
theorem Nod.under (hb : Below B w w') (hB : B ≤ w.heap.size) : ∀ {n : Nd} {p : Option Addr}, Nod (· < B) w n p → Nod (· < B) w' n p
  | .leaf _, _, ⟨g, e, hq, hk⟩ => ⟨g, e, hq, hk.below hb hq⟩
  | .two _ _, _, ⟨g, v, pa, pb, e, hq, hk, hv, ha, hc⟩ => ⟨g, v, pa, pb, e, hq, hk.below hb hq, hv.under hb hB, Nod.under hb hB ha, Nod.under hb hB hc⟩
  | .tri _ _ _, _, ⟨g, v, pa, pb, pc, e, hq, hk, hv, ha, hc, hd⟩ => ⟨g, v, pa, pb, pc, e, hq, hk.below hb hq, hv.under hb hB, Nod.under hb hB ha, Nod.under hb hB hc, Nod.under hb hB hd⟩
theorem Row.under {v : Value} {l : List Nd} (h : Row (· < B) w v l) (hb : Below B w w') (hB : B ≤ w.heap.size) : Row (· < B) w' v l := let ⟨ps, h1, h2⟩ := h; ⟨ps, h1.under hb hB, h2.map (Nod.under hb hB)⟩
theorem Lev.under (hb : Below B w w') (hB : B ≤ w.heap.size) : ∀ {t : Lv} {p : Option Addr}, Lev (· < B) w t p → Lev (· < B) w' t p
  | .nil, _, h => h
  | .one _, _, ⟨g, v, e, hq, hk, hr⟩ => ⟨g, v, e, hq, hk.below hb hq, hr.under hb hB⟩
  | .deep _ _ _, _, ⟨g, u, v, q, e, hq, hk, hl, hr, hi⟩ => ⟨g, u, v, q, e, hq, hk.below hb hq, hl.under hb hB, hr.under hb hB, Lev.under hb hB hi⟩
end

theorem round_wide {m n : Nat} {P : Program} {l : Nat} {f : FuncId} {tmps : Array Value} {assign body : Code} {w : World} {R : Ending → World → Prop} (h : RoundIn Fence.wide m P l f tmps assign body w R) : RoundIn Fence.wide n P l f tmps assign body w R :=
  ⟨h.1, fun c cs _ => h.2 c cs (room_wide _)⟩
theorem yield_wide {m n : Nat} {P : Program} {l : Nat} {args : Array Value} {W : World} {R : Ending → World → Prop} (h : YieldAt Fence.wide m P l args W R) : YieldAt Fence.wide n P l args W R :=
  let ⟨fn, tmps, assign, body, hy, hR⟩ := h; ⟨fn, tmps, assign, body, hy, round_wide hR⟩
theorem callsIn_any {m n : Nat} {P : Program} {f : FuncId} {args : Array Value} {w : World} {R : Ending → World → Prop} (h : CallsIn Fence.wide m P f args w R) : CallsIn Fence.wide n P f args w R := callsIn_wide.2 (callsIn_wide.1 h)

/-- what a call of each leaves -/
def Out (B : Nat) (J Jx : List (Int × Int) → World → Prop) (pre xs : List (Int × Int)) (W : World) (e : Ending) (W' : World) : Prop :=
  (e = .returned (.bool true) ∧ J (pre ++ xs) W' ∧ Below B W W') ∨ (e = .returned (.bool false) ∧ ∃ ys, ys <+: xs ∧ Jx (pre ++ ys) W')
/-- each number is handed to the loop's body -/
def Yld (l N B : Nat) (J Jx : List (Int × Int) → World → Prop) : Prop := ∀ pre x W, J pre W → pre.length < N → YieldAt Fence.wide 0 Try.prog l #[.agg #[.int .i64 x.1, .int .i64 x.2]] W fun e W' =>
  (e = .returned (.bool true) ∧ J (pre ++ [x]) W' ∧ Below B W W') ∨ (e = .returned (.bool false) ∧ Jx (pre ++ [x]) W')
def EachN (l N B : Nat) (J Jx : List (Int × Int) → World → Prop) (n : Nd) : Prop := ∀ (p : Option Addr) (pre : List (Int × Int)) (W : World), B ≤ W.heap.size → Nod (· < B) W n p → J pre W → pre.length + n.nums.length ≤ N →
  CallsIn Fence.wide 0 Try.prog 50 #[.pointer p, .func (.yield l) #[] #[]] W (Out B J Jx pre n.nums W)

set_option maxRecDepth 100000 in
set_option maxHeartbeats 4000000 in
theorem each_row {l N B : Nat} {J Jx : List (Int × Int) → World → Prop} (v : Value) (ns : List Nd) (pre : List (Int × Int)) (W : World) (hall : ∀ n ∈ ns, EachN l N B J Jx n) (hB : B ≤ W.heap.size) (h : Row (· < B) W v ns) (h8 : ns.length ≤ 16) (hJ : J pre W) (hN : pre.length + (flat ns).length ≤ N) :
    CallsIn Fence.wide 0 Try.prog 44 #[v, .func (.yield l) #[] #[]] W (Out B J Jx pre (flat ns) W) := by
  obtain ⟨a, cap, rfl, -, hcap, hc⟩ := h.cells
  obtain ⟨m, hm⟩ : ∃ m, ns.length = m := ⟨_, rfl⟩
  rw [hm] at hcap h8 hc ⊢
  (refine callsIn_of_wp Try.func44 rfl trivial ?_ rfl; simp only [Try.ntmps44, List.size_toArray, List.length_cons, List.length_nil, Nat.reduceAdd, Nat.reduceSub, Array.replicate_succ, Array.replicate_zero, List.push_toArray, List.append_toArray, List.nil_append, List.cons_append])
  gi_wp2
  gi_loopw [6, 9] (fun _ i wr => ∃ j : Nat, i = .int .i64 j ∧ j ≤ m ∧ J (pre ++ flat (ns.take j)) wr ∧ Below B W wr) (fun _ i _ => m - (intOf i).toNat)
  case atStart => exact ⟨0, rfl, by omega, by simpa [flat] using hJ, Below.refl _ _⟩
  case round =>
    obtain ⟨j, rfl, hj, hJj, hb⟩ := hrel
    by_cases hlt : j < m
    · obtain ⟨b, off, rfl, hbB, hb0, hcell⟩ := hc (by omega)
      obtain ⟨n, hn⟩ : ∃ n, ns[j]? = some n := ⟨_, List.getElem?_eq_some_iff.2 ⟨by omega, rfl⟩⟩
      obtain ⟨p, kp, hnod⟩ := hcell j n hn
      have kp2 := (hb.cell (p := ⟨b, off + j, none⟩) hbB).trans kp
      have hbw : b < wr.heap.size := by have := hb.size; omega
      have e1 : flat (ns.take (j + 1)) = flat (ns.take j) ++ n.nums := by rw [List.take_add_one, hn]; simp [flat]
      have e2 : flat ns = flat (ns.take (j + 1)) ++ flat (ns.drop (j + 1)) := by rw [← flat_append, List.take_append_drop]
      have hlen : (pre ++ flat (ns.take j)).length + n.nums.length ≤ N := by rw [e2, e1] at hN; simp at hN ⊢; omega
      have H := hall n (List.mem_of_getElem? hn) p (pre ++ flat (ns.take j)) wr (by have := hb.size; omega) (Nod.under hb hB hnod) hJj hlen
      gi_wp2_with (refine ⟨trivial, rfl, ?_⟩; gi_at_call 50; refine (callsIn_any H).mono ?_; rintro e W3 (⟨rfl, hJ3, hb3⟩ | ⟨rfl, ys, hys, hJx⟩))

      · go_roundw
        case rel => exact ⟨j + 1, by go_num, by omega, by rw [e1, ← List.append_assoc]; exact hJ3, hb.trans hb3⟩
        case measure => simp [intOf]; omega
      · go_ret
        refine .inr ⟨rfl, flat (ns.take j) ++ ys, ?_, by rw [← List.append_assoc]; exact hJx⟩
        rw [e2, e1]
        obtain ⟨t, ht⟩ := hys
        rw [← ht]
        exact ⟨t ++ flat (ns.drop (j + 1)), by simp⟩
    · obtain rfl : j = m := by omega
      gi_wp2
      go_ret
      rw [← hm, List.take_length] at hJj
      exact .inl ⟨rfl, hJj, hb⟩

set_option maxRecDepth 100000 in
theorem each_over {l N B : Nat} {J Jx : List (Int × Int) → World → Prop} (n : Nd) (g : Nat) (v : Value) (pre : List (Int × Int)) (W : World) (hall : ∀ x ∈ n.parts, EachN l N B J Jx x) (hB : B ≤ W.heap.size) (hk : hp.Blk W g 69 (ncs n.nums (0, 0) v)) (h : Row (· < B) W v n.parts) (h1 : 2 ≤ n.parts.length ∧ n.parts.length ≤ 3) (hf : flat n.parts = n.nums) (hJ : J pre W) (hN : pre.length + n.nums.length ≤ N) :
    CallsIn Fence.wide 0 Try.prog 50 #[.pointer (some ⟨g, 0, none⟩), .func (.yield l) #[] #[]] W (Out B J Jx pre n.nums W) := by
  have H := each_row v n.parts pre W hall hB h (by omega) hJ (by rw [hf]; exact hN)
  rw [hf] at H
  obtain ⟨a, c, rfl, -⟩ := h.cells
  have hg := hk.lt
  have c6 := hk.cell 4
  simp only [List.getElem?_cons_zero, List.getElem?_cons_succ] at c6
  have h1' : 0 < n.parts.length := by omega
  generalize n.parts.length = m at *
  clear h hk h1 hf hJ hN hall
  (refine callsIn_of_wp Try.func50 rfl trivial ?_ rfl; simp only [Try.ntmps50, List.size_toArray, List.length_cons, List.length_nil, Nat.reduceAdd, Nat.reduceSub, Array.replicate_succ, Array.replicate_zero, List.push_toArray, List.append_toArray, List.nil_append, List.cons_append])
  gi_wp2_with (refine ⟨trivial, rfl, ?_⟩; gi_at_call 44; refine (callsIn_any H).mono ?_; rintro e W3 (⟨rfl, hJ3, hb3⟩ | ⟨rfl, ys, hys, hJx⟩))
  · go_ret
    exact .inl ⟨rfl, hJ3, hb3⟩
  · go_ret
    exact .inr ⟨rfl, ys, hys, hJx⟩
set_option maxRecDepth 100000 in
theorem each_leaf {l N B : Nat} {J Jx : List (Int × Int) → World → Prop} (hY : Yld l N B J Jx) (x : (Int × Int)) : EachN l N B J Jx (.leaf x) := by
  intro p pre W hB h hJ hN
  obtain ⟨g, rfl, hgB, hk⟩ := h
  have hg := hk.lt
  have c5 := hk.cell 2
  have c6 := hk.cell 4
  have c5a := hk.cell 3
  simp only [List.getElem?_cons_zero, List.getElem?_cons_succ] at c5 c6 c5a
  obtain ⟨fn, tmps, assign, body, hy, hR⟩ := hY pre x W hJ (by simp [Nd.nums] at hN; omega)
  clear hk
  (refine callsIn_of_wp Try.func50 rfl trivial ?_ rfl; simp only [Try.ntmps50, List.size_toArray, List.length_cons, List.length_nil, Nat.reduceAdd, Nat.reduceSub, Array.replicate_succ, Array.replicate_zero, List.push_toArray, List.append_toArray, List.nil_append, List.cons_append])
  gi_wp2
  refine ⟨rfl, ?_⟩
  refine (round_wide hR).mono ?_
  rintro e W3 (⟨rfl, hJ3, hk3⟩ | ⟨rfl, hJx3⟩)
  · gi_wp2
    go_ret
    exact .inl ⟨rfl, hJ3, hk3⟩
  · gi_wp2
    go_ret
    exact .inr ⟨rfl, [x], List.prefix_refl _, hJx3⟩
theorem each_node {l N B : Nat} {J Jx : List (Int × Int) → World → Prop} (hY : Yld l N B J Jx) : ∀ n : Nd, EachN l N B J Jx n
  | .leaf x => each_leaf hY x
  | .two a b => by
    intro p pre W hB h hJ hN
    obtain ⟨g, v, pa, pb, rfl, hq, hk, hv, ha, hb⟩ := h
    exact each_over (.two a b) g v pre W (fun x hx => by
      rcases List.mem_cons.1 hx with e | hx
      · rw [e]; exact each_node hY a
      · rw [List.mem_singleton.1 hx]; exact each_node hY b) hB hk ⟨_, hv, ha, hb, trivial⟩ ⟨by simp [Nd.parts], by simp [Nd.parts]⟩ (by simp [Nd.parts, Nd.nums, flat]) hJ hN
  | .tri a b c => by
    intro p pre W hB h hJ hN
    obtain ⟨g, v, pa, pb, pc, rfl, hq, hk, hv, ha, hb, hc⟩ := h
    exact each_over (.tri a b c) g v pre W (fun x hx => by
      rcases List.mem_cons.1 hx with e | hx
      · rw [e]; exact each_node hY a
      rcases List.mem_cons.1 hx with e | hx
      · rw [e]; exact each_node hY b
      · rw [List.mem_singleton.1 hx]; exact each_node hY c) hB hk ⟨_, hv, ha, hb, hc, trivial⟩ ⟨by simp [Nd.parts], by simp [Nd.parts]⟩ (by simp [Nd.parts, Nd.nums, flat]) hJ hN

def EachL (l N B : Nat) (J Jx : List (Int × Int) → World → Prop) (t : Lv) : Prop := ∀ (k : Nat) (p : Option Addr) (pre : List (Int × Int)) (W : World), B ≤ W.heap.size → Lev (· < B) W t p → Lv.Ok k t → J pre W → pre.length + t.nums.length ≤ N →
  CallsIn Fence.wide 0 Try.prog 30 #[.pointer p, .func (.yield l) #[] #[]] W (Out B J Jx pre t.nums W)
set_option maxRecDepth 100000 in
theorem each_nil {l N B : Nat} {J Jx : List (Int × Int) → World → Prop} : EachL l N B J Jx .nil := by
  intro k p pre W hB h ho hJ hN
  obtain rfl : p = none := h
  (refine callsIn_of_wp Try.func30 rfl trivial ?_ rfl; simp only [Try.ntmps30, List.size_toArray, List.length_cons, List.length_nil, Nat.reduceAdd, Nat.reduceSub, Array.replicate_succ, Array.replicate_zero, List.push_toArray, List.append_toArray, List.nil_append, List.cons_append])
  gi_wp2_with (refine (⟨trivial, ?_⟩ : Fence.wide.fn _ ∧ _))
  go_ret
  exact .inl ⟨rfl, by simpa [Lv.nums] using hJ, Below.refl _ _⟩
set_option maxRecDepth 100000 in
set_option maxHeartbeats 8000000 in
theorem each_raw {l N B : Nat} {J Jx : List (Int × Int) → World → Prop} (hY : Yld l N B J Jx) (i : Lv) (ih : EachL l N B J Jx i) (ls rs : List Nd) (g : Nat) (u v : Value) (q : Option Addr) (L : List (Int × Int)) (k : Nat) (pre : List (Int × Int)) (W : World) (hB : B ≤ W.heap.size) (hg : g < B) (hk : hp.Blk W g 74 (lcs L u v q)) (hu : Row (· < B) W u ls) (hv : Row (· < B) W v rs) (hi : Lev (· < B) W i q) (ho : Lv.Ok k i) (h1 : ls.length ≤ 16) (h2 : rs.length ≤ 16) (hL : flat ls ++ i.nums ++ flat rs = L) (hJ : J pre W) (hN : pre.length + L.length ≤ N) :
    CallsIn Fence.wide 0 Try.prog 30 #[.pointer (some ⟨g, 0, none⟩), .func (.yield l) #[] #[]] W (Out B J Jx pre L W) := by
  have hlen := congrArg List.length hL
  rw [List.length_append, List.length_append] at hlen
  have H1 := each_row u ls pre W (fun n _ => each_node hY n) hB hu h1 hJ (by omega)
  have H2 : ∀ W2, Below B W W2 → J (pre ++ flat ls) W2 → CallsIn Fence.wide 0 Try.prog 30 #[.pointer q, .func (.yield l) #[] #[]] W2 (Out B J Jx (pre ++ flat ls) i.nums W2) :=
    fun W2 h hJ2 => ih k q (pre ++ flat ls) W2 (Nat.le_trans hB h.size) (Lev.under h hB hi) ho hJ2 (by rw [List.length_append]; omega)
  have H3 : ∀ W2, Below B W W2 → J (pre ++ flat ls ++ i.nums) W2 → CallsIn Fence.wide 0 Try.prog 44 #[v, .func (.yield l) #[] #[]] W2 (Out B J Jx (pre ++ flat ls ++ i.nums) (flat rs) W2) :=
    fun W2 h hJ2 => each_row v rs _ W2 (fun n _ => each_node hY n) (Nat.le_trans hB h.size) (hv.under h hB) h2 hJ2 (by rw [List.length_append, List.length_append]; omega)
  obtain ⟨_, _, rfl, -⟩ := hu.cells
  obtain ⟨_, _, rfl, -⟩ := hv.cells
  have hgW := hk.lt
  have c5 : ∀ W2, Below B W W2 → W2.cell? ⟨g, 2, none⟩ = _ := fun W2 h => (hk.below h hg).cell 2
  have c6 : ∀ W2, Below B W W2 → W2.cell? ⟨g, 3, none⟩ = _ := fun W2 h => (hk.below h hg).cell 3
  have c7 : ∀ W2, Below B W W2 → W2.cell? ⟨g, 4, none⟩ = _ := fun W2 h => (hk.below h hg).cell 4
  simp only [List.getElem?_cons_zero, List.getElem?_cons_succ] at c5 c6 c7
  have d5 := c5 W (Below.refl _ _)
  have hdone : ∀ ys e1 W2, Jx (pre ++ ys) W2 → ys <+: L → e1 = Ending.returned (.bool false) → Out B J Jx pre L W e1 W2 := fun ys e1 W2 h h1 e => .inr ⟨e, ys, h1, h⟩
  have hp1 : ∀ ys, ys <+: flat ls → ys <+: L := fun ys ⟨t, e⟩ => ⟨t ++ (i.nums ++ flat rs), by rw [← hL, ← e]; simp⟩
  have hp2 : ∀ ys, ys <+: i.nums → flat ls ++ ys <+: L := fun ys ⟨t, e⟩ => ⟨t ++ flat rs, by rw [← hL, ← e]; simp⟩
  have hp3 : ∀ ys, ys <+: flat rs → flat ls ++ i.nums ++ ys <+: L := fun ys ⟨t, e⟩ => ⟨t, by rw [← hL, ← e]; simp⟩
  have hfull : ∀ W2, J (pre ++ flat ls ++ i.nums ++ flat rs) W2 → J (pre ++ L) W2 := fun W2 h => by rw [← hL]; simpa using h
  replace hfull := Lib.hid hfull
  replace hp1 := Lib.hid hp1
  replace hp2 := Lib.hid hp2
  replace hp3 := Lib.hid hp3
  clear hu hv hk hi hL hlen hJ hN ho h1 h2 ih
  generalize flat ls = A at *
  generalize i.nums = I at *
  generalize flat rs = R at *
  (refine callsIn_of_wp Try.func30 rfl trivial ?_ rfl; simp only [Try.ntmps30, List.size_toArray, List.length_cons, List.length_nil, Nat.reduceAdd, Nat.reduceSub, Array.replicate_succ, Array.replicate_zero, List.push_toArray, List.append_toArray, List.nil_append, List.cons_append])
  gi_wp2_with (first
    | (refine ⟨trivial, rfl, ?_⟩; gi_at_call 44; (with_reducible refine (callsIn_any H1).mono ?_); clear H1; rintro e W3 (⟨rfl, hJ3, hb3⟩ | ⟨rfl, ys, hys, hJx⟩); have d7 := c7 _ hb3)
    | (refine ⟨trivial, rfl, ?_⟩; gi_at_call 30; (with_reducible refine (callsIn_any (H2 _ hb3 hJ3)).mono ?_); clear H2; rintro e W4 (⟨rfl, hJ4, hb4⟩ | ⟨rfl, ys, hys, hJx⟩); have d6 := c6 _ (hb3.trans hb4))
    | (refine ⟨trivial, rfl, ?_⟩; gi_at_call 44; (with_reducible refine (callsIn_any (H3 _ (hb3.trans hb4) hJ4)).mono ?_); clear H3; rintro e W5 (⟨rfl, hJ5, hb5⟩ | ⟨rfl, ys, hys, hJx⟩))
    | (refine (⟨trivial, ?_⟩ : Fence.wide.fn _ ∧ _)))
  · go_ret
    exact .inl ⟨rfl, hfull.out _ hJ5, (hb3.trans hb4).trans hb5⟩
  · go_ret
    exact hdone (A ++ I ++ ys) _ _ (by simpa [List.append_assoc] using hJx) (hp3.out _ hys) rfl
  · go_ret
    exact hdone (A ++ ys) _ _ (by simpa [List.append_assoc] using hJx) (hp2.out _ hys) rfl
  · go_ret
    exact hdone ys _ _ hJx (hp1.out _ hys) rfl

theorem each_level {l N B : Nat} {J Jx : List (Int × Int) → World → Prop} (hY : Yld l N B J Jx) : ∀ t : Lv, EachL l N B J Jx t
  | .nil => each_nil
  | .one y => by
    intro k p pre W hB h ho hJ hN
    obtain ⟨g, v, rfl, hg, hk, hr⟩ := h
    have := each_raw hY .nil each_nil [y] [] g v (.slice none 0 0) none y.nums (k + 1) pre W hB hg hk hr (Row.nil _ _) rfl trivial (by simp) (by simp) (by simp [flat, Lv.nums]) hJ hN
    exact this
  | .deep ls i rs => by
    intro k p pre W hB h ho hJ hN
    obtain ⟨g, u, v, q, rfl, hg, hk, hl, hr, hi⟩ := h
    obtain ⟨⟨_, l4, _⟩, ⟨_, r4, _⟩, oi⟩ := ho
    exact each_raw hY i (each_level hY i) ls rs g u v q _ (k + 1) pre W hB hg hk hl hr hi oi (by omega) (by omega) rfl hJ hN
end Go.Proofs.Ytfbeiimmcemniaa.pri
