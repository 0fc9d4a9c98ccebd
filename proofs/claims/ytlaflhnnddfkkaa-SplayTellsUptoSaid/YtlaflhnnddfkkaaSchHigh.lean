/- Rows of nodes in memory; wattleworkref1: High. -/
import Derived.Test.YtlaflhnnddfkkaaSchNds
import Derived.Lib.MinMax
namespace Go.Proofs.Ytlaflhnnddfkkaa.sch
open Go Go.RowKit

/-- a slice value that reads as these nodes, its cells below block B -/
def IsNds (w : World) (B : Nat) (v : Value) (ns : List Nd) : Prop :=
  ∃ a cap, v = .slice a ns.length cap ∧ ns.length ≤ cap ∧ (0 < ns.length → ∃ g, a = some ⟨g, 0, none⟩ ∧ g < B ∧ ∀ (i j : Nat) (n : Nd) (u : Value), ns[i]? = some n → (cells n)[j]? = some u → w.cell? ⟨g, i * 4 + j, none⟩ = some u)
theorem IsNds.below {w w' : World} {B : Nat} {v : Value} {ns : List Nd} (h : IsNds w B v ns) (hb : Below B w w') : IsNds w' B v ns := by
  obtain ⟨a, cap, hv, hc, hd⟩ := h
  refine ⟨a, cap, hv, hc, fun hp => ?_⟩
  obtain ⟨g, ha, hg, he⟩ := hd hp
  exact ⟨g, ha, hg, fun i j n u h1 h2 => (hb.cell (p := ⟨g, i * 4 + j, none⟩) hg).trans (he i j n u h1 h2)⟩
theorem IsNds.mono {w : World} {B B' : Nat} {v : Value} {ns : List Nd} (h : IsNds w B v ns) (hB : B ≤ B') : IsNds w B' v ns := by
  obtain ⟨a, cap, hv, hc, hd⟩ := h
  refine ⟨a, cap, hv, hc, fun hp => ?_⟩
  obtain ⟨g, ha, hg, he⟩ := hd hp
  exact ⟨g, ha, by omega, he⟩
theorem IsNds.on {w w' : World} {v : Value} {ns : List Nd} (h : IsNds w w.heap.size v ns) (hb : Below w.heap.size w w') : IsNds w' w'.heap.size v ns := (h.below hb).mono hb.size
theorem IsNds.of_row {w : World} {base n : Nat} {e : TypeId} {v : Value} {ns : List Nd} (h : w.ownsRow base e 4 v n (flat ns)) (hn : ns.length = n) : IsNds w w.heap.size v ns := by
  subst hn
  rcases Nat.eq_zero_or_pos ns.length with h0 | h0
  · rcases h.2 with ⟨h1, _⟩ | ⟨g, cap, cur, rfl, _⟩
    · exact ⟨none, 0, by rw [h1, h0], by omega, fun h => by omega⟩
    · exact ⟨_, cap, rfl, by omega, fun h => by omega⟩
  · obtain ⟨g, cap, rfl, _, hg, hc, hce, _⟩ := rowN_cell h h0
    refine ⟨_, cap, rfl, hc, fun _ => ⟨g, rfl, hg, fun i j n u h1 h2 => hce _ _ ?_⟩⟩
    have hj : j < 4 := by have := (List.getElem?_eq_some_iff.1 h2).1; simpa [cells] using this
    rw [flat_get ns i j n h1 hj]
    exact h2

/-- a tree is told from a place on -/
def At (ns : List Nd) (t : Tr) (o : Nat) : Prop := ∃ pre suf, ns = pre ++ (shp t o ++ suf) ∧ pre.length = o
theorem At.top (t : Tr) : At (shp t 0) t 0 := ⟨[], [], by simp, rfl⟩
theorem At.node {ns : List Nd} {x m : Int} {l r : Tr} {o : Nat} (h : At ns (.node x m l r) o) :
    o < ns.length ∧ ns[o]? = some ⟨x, idx l (o + 1), idx r (o + 1 + (keys l).length), m⟩ ∧ At ns l (o + 1) ∧ At ns r (o + 1 + (keys l).length) := by
  obtain ⟨pre, suf, rfl, hp⟩ := h
  subst hp
  have e : pre ++ (shp (.node x m l r) pre.length ++ suf) = pre ++ ((⟨x, idx l (pre.length + 1), idx r (pre.length + 1 + (keys l).length), m⟩ : Nd) :: (shp l (pre.length + 1) ++ (shp r (pre.length + 1 + (keys l).length) ++ suf))) := by simp [shp]
  refine ⟨by rw [e]; simp, by rw [e]; simp, ⟨pre ++ [⟨x, idx l (pre.length + 1), idx r (pre.length + 1 + (keys l).length), m⟩], shp r (pre.length + 1 + (keys l).length) ++ suf, by rw [e]; simp, by simp⟩, ⟨pre ++ ((⟨x, idx l (pre.length + 1), idx r (pre.length + 1 + (keys l).length), m⟩ : Nd) :: shp l (pre.length + 1)), suf, by rw [e]; simp, by simp [shp_len]; omega⟩⟩
theorem At.len {ns : List Nd} {t : Tr} {o : Nat} (h : At ns t o) : o + (keys t).length ≤ ns.length := by
  obtain ⟨pre, suf, rfl, hp⟩ := h
  simp [shp_len]
  omega
/-- the cells of a node that is told -/
theorem IsNds.at {w : World} {B : Nat} {v : Value} {ns : List Nd} {n : Nd} {o : Nat} (h : IsNds w B v ns) (ho : ns[o]? = some n) : ∃ g cap, v = .slice (some ⟨g, 0, none⟩) ns.length cap ∧ g < B ∧ w.cell? ⟨g, o * 4, none⟩ = some (.int .i64 n.k) ∧ w.cell? ⟨g, o * 4 + 1, none⟩ = some (.int .i64 n.l) ∧ w.cell? ⟨g, o * 4 + 2, none⟩ = some (.int .i64 n.r) ∧ w.cell? ⟨g, o * 4 + 3, none⟩ = some (.int .i64 n.m) := by
  obtain ⟨a, cap, hv, hc, hd⟩ := h
  have hlt := (List.getElem?_eq_some_iff.1 ho).1
  obtain ⟨g, rfl, hg, he⟩ := hd (by omega)
  exact ⟨g, cap, hv, hg, he o 0 n _ ho rfl, he o 1 n _ ho rfl, he o 2 n _ ho rfl, he o 3 n _ ho rfl⟩
theorem idx_or (t : Tr) (o : Nat) : idx t o = -1 ∨ idx t o = (o : Int) := by cases t <;> simp [idx]

end Go.Proofs.Ytlaflhnnddfkkaa.sch
