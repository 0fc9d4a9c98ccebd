/- The rows that tell a tree: plain mathematics, and such rows in memory. -/
import Derived.Test.YtlaflhnnddfkkaaSchEach
namespace Go.Proofs.Ytlaflhnnddfkkaa.sch
open Go Go.RowKit

/-- a node as it is told: its key, the places of what is left and right, its mark -/
structure Nd where
  k : Int
  l : Int
  r : Int
  m : Int
def cells (n : Nd) : List Value := [.int .i64 n.k, .int .i64 n.l, .int .i64 n.r, .int .i64 n.m]
def flat (ns : List Nd) : List Value := ns.flatMap cells
theorem flat_len (ns : List Nd) : (flat ns).length = ns.length * 4 := by
  induction ns with
  | nil => rfl
  | cons n ns ih =>
    show (cells n ++ flat ns).length = _
    rw [List.length_append, ih, List.length_cons]
    simp [cells]
    omega
theorem flat_app (a b : List Nd) : flat (a ++ b) = flat a ++ flat b := by simp [flat]
theorem flat_get : ∀ (ns : List Nd) (i j : Nat) (n : Nd), ns[i]? = some n → j < 4 → (flat ns)[i * 4 + j]? = (cells n)[j]?
  | [], i, j, n, h, _ => by simp at h
  | a :: ns, 0, j, n, h, hj => by
    obtain rfl : a = n := by simpa using h
    show (cells a ++ flat ns)[0 * 4 + j]? = _
    rw [Nat.zero_mul, Nat.zero_add, List.getElem?_append_left (by simp [cells]; omega)]
  | a :: ns, i + 1, j, n, h, hj => by
    show (cells a ++ flat ns)[(i + 1) * 4 + j]? = _
    rw [List.getElem?_append_right (by simp [cells]; omega), show (i + 1) * 4 + j - (cells a).length = i * 4 + j by simp [cells]; omega]
    exact flat_get ns i j n (by simpa using h) hj
/-- the place on the right is told later -/
def setR : List Nd → Nat → Int → List Nd
  | [], _, _ => []
  | n :: ns, 0, v => ⟨n.k, n.l, v, n.m⟩ :: ns
  | n :: ns, i + 1, v => n :: setR ns i v
theorem setR_len : ∀ (ns : List Nd) (i : Nat) (v : Int), (setR ns i v).length = ns.length
  | [], _, _ => rfl
  | n :: ns, 0, v => rfl
  | n :: ns, i + 1, v => by simp [setR, setR_len ns i v]
theorem setR_app (n : Nd) (v : Int) (b : List Nd) : ∀ (a : List Nd), setR (a ++ n :: b) a.length v = a ++ ⟨n.k, n.l, v, n.m⟩ :: b
  | [] => rfl
  | x :: a => by
    show x :: setR (a ++ n :: b) a.length v = _
    rw [setR_app n v b a]
    rfl
theorem flat_setR : ∀ (ns : List Nd) (i : Nat) (v : Int), i < ns.length → flat (setR ns i v) = (flat ns).set (i * 4 + 2) (.int .i64 v)
  | [], i, v, h => by simp at h
  | n :: ns, 0, v, _ => by simp [setR, flat, cells]
  | n :: ns, i + 1, v, h => by
    show cells n ++ flat (setR ns i v) = (cells n ++ flat ns).set ((i + 1) * 4 + 2) _
    rw [flat_setR ns i v (by simpa using h), List.set_append_right _ _ (by simp [cells]; omega), show (i + 1) * 4 + 2 - (cells n).length = i * 4 + 2 by simp [cells]; omega]

/-- where a tree begins, if there is any -/
def idx : Tr → Nat → Int
  | .nil, _ => -1
  | .node _ _ _ _, o => (o : Int)
/-- the row of a tree from a place on -/
def shp : Tr → Nat → List Nd
  | .nil, _ => []
  | .node x m l r, o => ⟨x, idx l (o + 1), idx r (o + 1 + (keys l).length), m⟩ :: (shp l (o + 1) ++ shp r (o + 1 + (keys l).length))
theorem shp_len : ∀ (t : Tr) (o : Nat), (shp t o).length = (keys t).length
  | .nil, _ => rfl
  | .node x m l r, o => by
    simp only [shp, keys, List.length_cons, List.length_append, shp_len l, shp_len r]
    omega

/-- what waits: a tree on the right, its pointer, and the place of the one above it; the last one first -/
abbrev Wait := List (Option Addr × Tr × Nat)
/-- what becomes of a row, all that waits done -/
def fin : List Nd → Wait → List Nd
  | M, [] => M
  | M, q :: st => fin (setR M q.2.2 (M.length : Int) ++ shp q.2.1 M.length) st
def waits : Wait → Nat
  | [] => 0
  | q :: st => (keys q.2.1).length + waits st
theorem fin_one (ns : List Nd) (x m : Int) (l : Tr) : ns ++ shp (.node x m l .nil) ns.length = (ns ++ [⟨x, idx l (ns.length + 1), -1, m⟩]) ++ shp l (ns ++ [(⟨x, idx l (ns.length + 1), -1, m⟩ : Nd)]).length := by
  simp [shp, idx]
theorem fin_two (ns : List Nd) (x m : Int) (l r : Tr) (p : Option Addr) (st : Wait) : fin (ns ++ shp (.node x m l r) ns.length) st = fin ((ns ++ [⟨x, idx l (ns.length + 1), -1, m⟩]) ++ shp l (ns ++ [(⟨x, idx l (ns.length + 1), -1, m⟩ : Nd)]).length) ((p, r, ns.length) :: st) ∨ r = .nil := by
  cases r with
  | nil => exact .inr rfl
  | node y k a b =>
    left
    show _ = fin (setR _ _ _ ++ shp _ _) st
    refine congrArg (fun M => fin M st) ?_
    have e : ((ns ++ [(⟨x, idx l (ns.length + 1), -1, m⟩ : Nd)]) ++ shp l (ns ++ [(⟨x, idx l (ns.length + 1), -1, m⟩ : Nd)]).length) = ns ++ (⟨x, idx l (ns.length + 1), -1, m⟩ : Nd) :: shp l (ns.length + 1) := by simp
    have hl : (ns ++ (⟨x, idx l (ns.length + 1), -1, m⟩ : Nd) :: shp l (ns.length + 1)).length = ns.length + 1 + (keys l).length := by
      rw [List.length_append, List.length_cons, shp_len]; omega
    rw [e, hl, setR_app]
    simp [shp, idx]
theorem fin_nil (ns : List Nd) (q : Option Addr × Tr × Nat) (st : Wait) : fin (ns ++ shp .nil ns.length) (q :: st) = fin (setR ns q.2.2 (ns.length : Int) ++ shp q.2.1 (setR ns q.2.2 (ns.length : Int)).length) st := by
  rw [setR_len]
  simp [shp, fin]

/-! ### rows of several cells -/
theorem rowN_set {W : World} {base : Nat} {e : TypeId} {g n cap size j : Nat} {xs : List Value} {u : Value} (h : W.ownsRow base e size (.slice (some ⟨g, 0, none⟩) n cap) n xs) :
    (W.setCell ⟨g, j, none⟩ u).ownsRow base e size (.slice (some ⟨g, 0, none⟩) n cap) n (xs.set j u) := by
  obtain ⟨h1, h2⟩ := h
  refine ⟨by simpa using h1, ?_⟩
  rcases h2 with ⟨h2, _⟩ | ⟨g', cap', cur, hv, hb, hg, hnc, hcm, hcs, htk⟩
  · cases h2
  · cases hv
    have hgb : hp.Blk W g e cur.toList := by unfold hp.Blk; rw [hg]
    have hset := hgb.set j u
    refine .inr ⟨g, cap, (cur.toList.set j u).toArray, rfl, hb, hset, hnc, hcm, by simpa using hcs, ?_⟩
    rw [← htk]
    simp only [List.toList_toArray] at *
    rw [List.take_set]
theorem rowN_cell {W : World} {base : Nat} {e : TypeId} {v : Value} {n size : Nat} {xs : List Value} (h : W.ownsRow base e size v n xs) (hn : 0 < n) : ∃ g cap, v = .slice (some ⟨g, 0, none⟩) n cap ∧ base ≤ g ∧ g < W.heap.size ∧ n ≤ cap ∧ (∀ j u, xs[j]? = some u → W.cell? ⟨g, j, none⟩ = some u) ∧ (∀ j, W.frozen? ⟨g, j, none⟩ = false) := by
  obtain ⟨h1, h2⟩ := h
  rcases h2 with ⟨_, h0⟩ | ⟨g, cap, cur, rfl, hb, hg, hnc, hcm, hcs, htk⟩
  · omega
  · have hgb : hp.Blk W g e cur.toList := by unfold hp.Blk; rw [hg]
    refine ⟨g, cap, rfl, hb, lt_of_block hg, hnc, fun j u hj => ?_, hgb.free⟩
    rw [hgb.cell, ← hj, ← htk, List.getElem?_take_of_lt]
    rw [← htk] at hj
    have := (List.getElem?_eq_some_iff.1 hj).1
    simp at this
    omega
theorem rowN_val {W : World} {base : Nat} {e : TypeId} {v : Value} {n size : Nat} {xs : List Value} (h : W.ownsRow base e size v n xs) : ∃ a cap, v = .slice a n cap := by
  rcases h.2 with ⟨h, h0⟩ | ⟨g, cap, cur, h, _⟩
  · exact ⟨none, 0, by rw [h, h0]⟩
  · exact ⟨_, _, h⟩
/-- a row of two cells each, without its last two -/
theorem rowN_cut {W : World} {base : Nat} {e : TypeId} {g n cap size : Nat} {xs ys : List Value} (h : W.ownsRow base e size (.slice (some ⟨g, 0, none⟩) (n + 1) cap) (n + 1) (xs ++ ys)) (hx : xs.length = n * size) : W.ownsRow base e size (.slice (some ⟨g, 0, none⟩) n cap) n xs := by
  obtain ⟨h1, h2⟩ := h
  rcases h2 with ⟨h2, _⟩ | ⟨g', cap', cur, hv, hb, hg, hnc, hcm, hcs, htk⟩
  · cases h2
  · cases hv
    refine ⟨hx, .inr ⟨g, cap, cur, rfl, hb, hg, by omega, hcm, hcs, ?_⟩⟩
    have h4 : (cur.toList.take ((n + 1) * size)).take (n * size) = (xs ++ ys).take (n * size) := by rw [htk]
    rw [List.take_take, Nat.min_eq_left (Nat.mul_le_mul_right _ (by omega)), ← hx, List.take_left] at h4
    rw [← hx]
    exact h4
theorem cell_blk {w : World} {g : Nat} {cs : List Value} {t : TypeId} (hk : hp.Blk w g t cs) : ∀ j u, cs[j]? = some u → w.cell? ((⟨g, 0, none⟩ : Addr).add j) = some u := by
  intro j u hj
  rw [Addr.add_lit, Nat.zero_add, hk.cell j, hj]
end Go.Proofs.Ytlaflhnnddfkkaa.sch
