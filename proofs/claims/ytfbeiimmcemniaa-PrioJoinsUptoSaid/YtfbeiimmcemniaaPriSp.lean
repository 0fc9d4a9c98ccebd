/- Where a tree is split, as a function of its levels. -/
import Derived.Test.YtfbeiimmcemniaaPriSplit
namespace Go.Proofs.Ytfbeiimmcemniaa.pri
open Go Go.RowKit

/-- the first place where it is so, or the last one -/
def plc (f : List (Int × Int) → Bool) : List (Int × Int) → List Nd → Nat
  | _, [] => 0
  | _, [_] => 0
  | pre, n :: m :: r => if f (pre ++ n.nums) = true then 0 else plc f (pre ++ n.nums) (m :: r) + 1
theorem plc_placed (f : List (Int × Int) → Bool) : ∀ (ns : List Nd) (pre : List (Int × Int)), ns ≠ [] → Placed f pre ns (plc f pre ns)
  | [], _, h => (h rfl).elim
  | [n], _, _ => ⟨by simp [plc], fun j hj => by simp [plc] at hj, fun h => by simp [plc] at h⟩
  | n :: m :: r, pre, _ => by
    by_cases c : f (pre ++ n.nums) = true
    · have e : plc f pre (n :: m :: r) = 0 := by simp [plc, c]
      rw [e]
      exact ⟨by simp, fun j hj => by omega, fun _ => by simpa [flat] using c⟩
    · have e : plc f pre (n :: m :: r) = plc f (pre ++ n.nums) (m :: r) + 1 := by simp [plc, c]
      obtain ⟨h1, h2, h3⟩ := plc_placed f (m :: r) (pre ++ n.nums) (by simp)
      rw [e]
      generalize plc f (pre ++ n.nums) (m :: r) = i at *
      have hs : ∀ j, f (pre ++ flat ((n :: m :: r).take (j + 1 + 1))) = f (pre ++ n.nums ++ flat ((m :: r).take (j + 1))) := fun j => by
        rw [List.take_succ_cons, flat_cons, List.append_assoc]
      refine ⟨by simpa using h1, fun j hj => ?_, fun h => ?_⟩
      · cases j with
        | zero => rw [List.take_succ_cons, List.take_zero, flat_one]; simpa using c
        | succ j => rw [hs]; exact h2 j (by omega)
      · rw [hs]; exact h3 (by simpa using h)
theorem Placed.one {f : List (Int × Int) → Bool} {pre : List (Int × Int)} {ns : List Nd} {i j : Nat} (h : Placed f pre ns i) (k : Placed f pre ns j) : i = j := by
  obtain ⟨h1, h2, h3⟩ := h
  obtain ⟨k1, k2, k3⟩ := k
  rcases Nat.lt_trichotomy i j with c | c | c
  · have a := h3 (by omega)
    rw [k2 i c] at a
    cases a
  · exact c
  · have a := k3 (by omega)
    rw [h2 j c] at a
    cases a
theorem split_flat {ns : List Nd} {i : Nat} (h : i < ns.length) : flat (ns.take i) ++ (ns.getD i (.leaf (0, 0))).nums ++ flat (ns.drop (i + 1)) = flat ns := by
  have e : ns = ns.take i ++ (ns.getD i (.leaf (0, 0))) :: ns.drop (i + 1) := by
    rw [List.getD_eq_getElem?_getD, List.getElem?_eq_getElem h, Option.getD_some, ← List.drop_eq_getElem_cons h, List.take_append_drop]
  rw [List.append_assoc, ← flat_cons, ← flat_append, ← e]
theorem take_flat {ns : List Nd} {i : Nat} (h : i < ns.length) : flat (ns.take (i + 1)) = flat (ns.take i) ++ (ns.getD i (.leaf (0, 0))).nums := by
  rw [List.take_add_one, List.getElem?_eq_getElem h, flat_append, List.getD_eq_getElem?_getD, List.getElem?_eq_getElem h]
  simp [flat]
theorem Placed.at {f : List (Int × Int) → Bool} {pre : List (Int × Int)} {ns : List Nd} {i : Nat} (h : Placed f pre ns i) (h0 : f pre = false) (h1 : f (pre ++ flat ns) = true) :
    f (pre ++ flat (ns.take i)) = false ∧ f (pre ++ flat (ns.take i) ++ (ns.getD i (.leaf (0, 0))).nums) = true := by
  obtain ⟨a, b, c⟩ := h
  constructor
  · cases i with
    | zero => simpa [flat] using h0
    | succ i => exact b i (by omega)
  · rw [List.append_assoc, ← take_flat a]
    by_cases hl : i + 1 < ns.length
    · exact c hl
    · rw [show ns.take (i + 1) = ns from List.take_of_length_le (by omega)]
      exact h1

/-- what is before it, the node, what is behind it -/
def sp (f : List (Int × Int) → Bool) : Lv → List (Int × Int) → List (Int × Int) × Nd × List (Int × Int)
  | .nil, _ => ([], .leaf (0, 0), [])
  | .one x, _ => ([], x, [])
  | .deep l i r, pre =>
    if f (pre ++ flat l) = true then (flat (l.take (plc f pre l)), l.getD (plc f pre l) (.leaf (0, 0)), flat (l.drop (plc f pre l + 1)) ++ i.nums ++ flat r)
    else if f (pre ++ flat l ++ i.nums) = true then
      (flat l ++ (sp f i (pre ++ flat l)).1 ++ flat ((sp f i (pre ++ flat l)).2.1.parts.take (plc f (pre ++ flat l ++ (sp f i (pre ++ flat l)).1) (sp f i (pre ++ flat l)).2.1.parts)),
        (sp f i (pre ++ flat l)).2.1.parts.getD (plc f (pre ++ flat l ++ (sp f i (pre ++ flat l)).1) (sp f i (pre ++ flat l)).2.1.parts) (.leaf (0, 0)),
        flat ((sp f i (pre ++ flat l)).2.1.parts.drop (plc f (pre ++ flat l ++ (sp f i (pre ++ flat l)).1) (sp f i (pre ++ flat l)).2.1.parts + 1)) ++ (sp f i (pre ++ flat l)).2.2 ++ flat r)
    else (flat l ++ i.nums ++ flat (r.take (plc f (pre ++ flat l ++ i.nums) r)), r.getD (plc f (pre ++ flat l ++ i.nums) r) (.leaf (0, 0)), flat (r.drop (plc f (pre ++ flat l ++ i.nums) r + 1)))
theorem getD_ht {k i : Nat} {ns : List Nd} (h : Hts k ns) (hi : i < ns.length) : Nd.Ht k (ns.getD i (.leaf (0, 0))) := by
  rw [List.getD_eq_getElem?_getD, List.getElem?_eq_getElem hi]
  exact h _ (List.getElem_mem hi)
theorem sp_ok (f : List (Int × Int) → Bool) : ∀ (t : Lv) (k : Nat) (pre : List (Int × Int)), t ≠ .nil → Lv.Ok k t → (sp f t pre).1 ++ (sp f t pre).2.1.nums ++ (sp f t pre).2.2 = t.nums ∧ Nd.Ht k (sp f t pre).2.1
  | .nil, _, _, h, _ => (h rfl).elim
  | .one x, k, _, _, h => ⟨by simp [sp, Lv.nums], h⟩
  | .deep l i r, k, pre, _, h => by
    obtain ⟨⟨l1, l4, lh⟩, ⟨r1, r4, rh⟩, oi⟩ := h
    by_cases c1 : f (pre ++ flat l) = true
    · have P := plc_placed f l pre (by intro e; subst e; simp at l1)
      rw [sp, if_pos c1]
      refine ⟨?_, getD_ht lh P.1⟩
      have := split_flat P.1
      show flat _ ++ _ ++ (flat _ ++ i.nums ++ flat r) = flat l ++ i.nums ++ flat r
      rw [← this]
      simp
    · by_cases c2 : f (pre ++ flat l ++ i.nums) = true
      · have hi : i ≠ .nil := by
          rintro rfl
          rw [show Lv.nil.nums = [] from rfl, List.append_nil] at c2
          exact c1 c2
        obtain ⟨h1, h2⟩ := sp_ok f i (k + 1) (pre ++ flat l) hi oi
        obtain ⟨p1, p2, p3, p4⟩ := h2.parts
        have P := plc_placed f (sp f i (pre ++ flat l)).2.1.parts (pre ++ flat l ++ (sp f i (pre ++ flat l)).1) (by intro e; rw [e] at p3; simp at p3)
        rw [sp, if_neg c1, if_pos c2]
        refine ⟨?_, getD_ht p1 P.1⟩
        have e := split_flat P.1
        show flat l ++ _ ++ flat _ ++ _ ++ (flat _ ++ _ ++ flat r) = flat l ++ i.nums ++ flat r
        rw [← h1, ← p2, ← e]
        simp
      · have P := plc_placed f r (pre ++ flat l ++ i.nums) (by intro e; subst e; simp at r1)
        rw [sp, if_neg c1, if_neg c2]
        refine ⟨?_, getD_ht rh P.1⟩
        have := split_flat P.1
        show flat l ++ i.nums ++ flat _ ++ _ ++ flat _ = flat l ++ i.nums ++ flat r
        rw [← this]
        simp
theorem sp_at (f : List (Int × Int) → Bool) : ∀ (t : Lv) (k : Nat) (pre : List (Int × Int)), t ≠ .nil → Lv.Ok k t → f pre = false → f (pre ++ t.nums) = true → f (pre ++ (sp f t pre).1) = false ∧ f (pre ++ (sp f t pre).1 ++ (sp f t pre).2.1.nums) = true
  | .nil, _, _, h, _, _, _ => (h rfl).elim
  | .one x, k, pre, _, _, h0, h1 => ⟨by simpa [sp] using h0, by simpa [sp, Lv.nums] using h1⟩
  | .deep l i r, k, pre, _, h, h0, h1 => by
    obtain ⟨⟨l1, l4, lh⟩, ⟨r1, r4, rh⟩, oi⟩ := h
    have h1' : f (pre ++ flat l ++ i.nums ++ flat r) = true := by
      have e : (Lv.deep l i r).nums = flat l ++ i.nums ++ flat r := rfl
      rw [e] at h1
      simpa using h1
    by_cases c1 : f (pre ++ flat l) = true
    · have P := (plc_placed f l pre (by intro e; subst e; simp at l1)).at h0 c1
      rw [sp, if_pos c1]
      exact P
    · have c1' : f (pre ++ flat l) = false := by simpa using c1
      by_cases c2 : f (pre ++ flat l ++ i.nums) = true
      · have hi : i ≠ .nil := by
          rintro rfl
          rw [show Lv.nil.nums = [] from rfl, List.append_nil] at c2
          exact c1 c2
        obtain ⟨_, g2⟩ := sp_ok f i (k + 1) (pre ++ flat l) hi oi
        obtain ⟨a1, a2⟩ := sp_at f i (k + 1) (pre ++ flat l) hi oi c1' c2
        obtain ⟨p1, p2, p3, p4⟩ := g2.parts
        rw [← p2] at a2
        have P := (plc_placed f (sp f i (pre ++ flat l)).2.1.parts (pre ++ flat l ++ (sp f i (pre ++ flat l)).1) (by intro e; rw [e] at p3; simp at p3)).at a1 a2
        rw [sp, if_neg c1, if_pos c2]
        simpa using P
      · have c2' : f (pre ++ flat l ++ i.nums) = false := by simpa using c2
        have P := (plc_placed f r (pre ++ flat l ++ i.nums) (by intro e; subst e; simp at r1)).at c2' h1'
        rw [sp, if_neg c1, if_neg c2]
        simpa using P
theorem place_to {Q : Nat → Prop} (bq N : Nat) (f : List (Int × Int) → Bool) (v : Value) (ns : List Nd) (pre : List (Int × Int)) (w : World) (i : Nat) (hi : plc f pre ns = i) (hf : Asks w bq N f) (h : Row Q w v ns) (h1 : 1 ≤ ns.length) (h8 : ns.length ≤ 8) (hN : pre.length + (flat ns).length ≤ N) (hN2 : N ≤ 4611686018427387904) :
    Calls Try.prog 47 #[qv bq, v, mvOf pre.length pre] w fun e w' => e = .returned (.int .i64 i) ∧ Below w.heap.size w w' :=
  (place_any bq N f v ns pre w hf h h1 h8 hN hN2).mono fun e w' ⟨⟨j, he, hj⟩, hb⟩ => ⟨by rw [he, hj.one (plc_placed f ns pre (by intro e; subst e; simp at h1)), hi], hb⟩
end Go.Proofs.Ytfbeiimmcemniaa.pri
