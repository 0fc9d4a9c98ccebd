/- Skew digits: the digits of a number are one list, and there is one of each number. -/
import Derived.Test.YtkenocamlaaajaaHeap
namespace Go.Proofs.Ytkenocamlaaajaa.sk
open Go

/-- a digit with k ones -/
def dg (k : Nat) : Int := 2 ^ k - 1
theorem dg_zero : dg 0 = 0 := rfl
theorem dg_succ (k : Nat) : dg (k + 1) = 2 * dg k + 1 := by unfold dg; rw [Int.pow_succ]; omega
theorem dg_nonneg (k : Nat) : 0 ≤ dg k := by
  induction k with
  | zero => simp [dg]
  | succ k ih => rw [dg_succ]; omega
theorem dg_lt {i j : Nat} (h : i < j) : 2 * dg i + 1 ≤ dg j := by
  obtain ⟨d, rfl⟩ : ∃ d, j = i + 1 + d := ⟨j - (i + 1), by omega⟩
  clear h
  induction d with
  | zero => rw [Nat.add_zero, dg_succ]; omega
  | succ d ih =>
    have := dg_nonneg (i + 1 + d)
    rw [← Nat.add_assoc, dg_succ]
    omega
theorem dg_le {i j : Nat} (h : i ≤ j) : dg i ≤ dg j := by
  rcases Nat.eq_or_lt_of_le h with rfl | h
  · omega
  · have := dg_lt h
    have := dg_nonneg i
    omega
theorem dg_ge (k : Nat) : (k : Int) ≤ dg k := by
  induction k with
  | zero => simp [dg]
  | succ k ih => rw [dg_succ]; omega
theorem dg_40 : dg 40 = 1099511627775 := by decide
theorem lt_of_dg {i j : Nat} (h : dg i < dg j) : i < j := by
  rcases Nat.lt_or_ge i j with h' | h'
  · exact h'
  · have := dg_le h'; omega
theorem dg_inj {i j : Nat} (h : dg i = dg j) : i = j := by
  rcases Nat.lt_trichotomy i j with h' | h' | h'
  · have := dg_lt h'; have := dg_nonneg i; omega
  · exact h'
  · have := dg_lt h'; have := dg_nonneg j; omega

/-- it is a digit -/
def IsD (d : Int) : Prop := ∃ k, 1 ≤ k ∧ k ≤ 40 ∧ d = dg k
theorem IsD.bd {d : Int} (h : IsD d) : 1 ≤ d ∧ d ≤ 1099511627775 := by
  obtain ⟨k, h1, h2, rfl⟩ := h
  have a := dg_le h1
  have b := dg_le h2
  rw [dg_40] at b
  have : dg 1 = 1 := rfl
  omega
theorem IsD.next {c d : Int} (hc : IsD c) (hd : IsD d) (h : c < d) : 2 * c + 1 ≤ d := by
  obtain ⟨i, _, _, rfl⟩ := hc
  obtain ⟨j, _, _, rfl⟩ := hd
  exact dg_lt (lt_of_dg h)
theorem IsD.up {d : Int} (h : IsD d) (hd : d ≠ 1099511627775) : IsD (2 * d + 1) := by
  obtain ⟨k, h1, h2, rfl⟩ := h
  refine ⟨k + 1, by omega, ?_, (dg_succ k).symm⟩
  rcases Nat.eq_or_lt_of_le h2 with rfl | h
  · exact absurd dg_40 hd
  · omega
theorem IsD.down {d : Int} (h : IsD d) (hd : d ≠ 1) : IsD (d / 2) ∧ d = 2 * (d / 2) + 1 := by
  obtain ⟨k, h1, h2, rfl⟩ := h
  obtain ⟨j, rfl⟩ : ∃ j, k = j + 1 := ⟨k - 1, by omega⟩
  have hj : j ≠ 0 := by rintro rfl; exact hd rfl
  have : dg (j + 1) / 2 = dg j := by rw [dg_succ]; omega
  rw [this]
  exact ⟨⟨j, by omega, by omega, rfl⟩, dg_succ j⟩
theorem IsD.one : IsD 1 := ⟨1, by omega, by omega, rfl⟩
theorem IsD.top : IsD 1099511627775 := ⟨40, by omega, by omega, dg_40.symm⟩
theorem IsD.at {k : Nat} (h1 : 1 ≤ k) (h2 : k ≤ 40) : IsD (dg k) := ⟨k, h1, h2, rfl⟩

def sum (l : List Int) : Int := l.foldl (· + ·) 0
theorem sum_snoc (l : List Int) (x : Int) : sum (l ++ [x]) = sum l + x := by simp [sum]
theorem sum_nil : sum [] = 0 := rfl
theorem sum_cons (x : Int) (l : List Int) : sum (x :: l) = x + sum l := by
  have H : ∀ (l : List Int) (a : Int), l.foldl (· + ·) a = a + l.foldl (· + ·) 0 := by
    intro l
    induction l with
    | nil => intro a; simp
    | cons y l ih => intro a; simp only [List.foldl_cons]; rw [ih, ih (0 + y)]; omega
  simp only [sum, List.foldl_cons]
  rw [H]; omega

/-- the place i is as it should be -/
def OkAt (l : List Int) (i : Nat) : Prop := IsD (l.getD i 0) ∧ (i = 0 ∨ l.getD (i - 1) 0 < l.getD i 0 ∨ (l.getD (i - 1) 0 = l.getD i 0 ∧ i = 1))
/-- skew digits, in their order -/
def Ok (l : List Int) : Prop := ∀ i, i < l.length → OkAt l i

theorem snoc_cases (l : List Int) : l = [] ∨ ∃ t x, l = t ++ [x] := by
  rcases List.eq_nil_or_concat l with h | ⟨t, x, h⟩
  · exact .inl h
  · exact .inr ⟨t, x, by simpa using h⟩

theorem okAt_left {l m : List Int} {i : Nat} (h : i < l.length) : OkAt (l ++ m) i ↔ OkAt l i := by
  unfold OkAt
  have a : (l ++ m).getD i 0 = l.getD i 0 := by simp [List.getD, List.getElem?_append_left h]
  have b : (l ++ m).getD (i - 1) 0 = l.getD (i - 1) 0 := by simp [List.getD, List.getElem?_append_left (show i - 1 < l.length by omega)]
  rw [a, b]
theorem Ok.left {l m : List Int} (h : Ok (l ++ m)) : Ok l := fun i hi => (okAt_left hi).1 (h i (by simp; omega))
theorem Ok.nil : Ok [] := fun i hi => absurd hi (by simp)
theorem ok_snoc {t : List Int} {d : Int} : Ok (t ++ [d]) ↔ Ok t ∧ IsD d ∧ (t = [] ∨ t = [d] ∨ ∃ u c, t = u ++ [c] ∧ c < d) := by
  constructor
  · intro h
    refine ⟨h.left, ?_, ?_⟩
    · have := (h t.length (by simp)).1
      simpa [List.getD] using this
    · rcases snoc_cases t with rfl | ⟨u, c, rfl⟩
      · exact .inl rfl
      · have := (h (u ++ [c]).length (by simp)).2
        simp only [List.length_append, List.length_singleton, Nat.add_sub_cancel] at this
        have e1 : ((u ++ [c] ++ [d]) : List Int).getD u.length 0 = c := by simp [List.getD]
        have e2 : ((u ++ [c] ++ [d]) : List Int).getD (u.length + 1) 0 = d := by simp [List.getD]
        rw [e1, e2] at this
        rcases this with h | h | ⟨rfl, h⟩
        · omega
        · exact .inr (.inr ⟨u, c, rfl, h⟩)
        · have : u = [] := List.eq_nil_of_length_eq_zero (by omega)
          subst this
          exact .inr (.inl rfl)
  · rintro ⟨h1, h2, h3⟩ i hi
    by_cases hl : i < t.length
    · exact (okAt_left hl).2 (h1 i hl)
    · have hi' : i = t.length := by simp at hi; omega
      subst hi'
      refine ⟨by simpa [List.getD] using h2, ?_⟩
      rcases h3 with rfl | rfl | ⟨u, c, rfl, h⟩
      · exact .inl rfl
      · exact .inr (.inr ⟨rfl, rfl⟩)
      · refine .inr (.inl ?_)
        have e1 : ((u ++ [c] ++ [d]) : List Int).getD ((u ++ [c]).length - 1) 0 = c := by simp [List.getD]
        have e2 : ((u ++ [c] ++ [d]) : List Int).getD (u ++ [c]).length 0 = d := by simp [List.getD]
        rw [e1, e2]
        exact h

theorem ind {p : List Int → Prop} (h0 : p []) (h1 : ∀ t x, p t → p (t ++ [x])) (l : List Int) : p l := by
  have H : ∀ n (l : List Int), l.length = n → p l := by
    intro n
    induction n with
    | zero => intro l hl; rw [List.eq_nil_of_length_eq_zero hl]; exact h0
    | succ n ih =>
      intro l hl
      rcases snoc_cases l with rfl | ⟨t, x, rfl⟩
      · simp at hl
      · exact h1 t x (ih t (by simp at hl; omega))
  exact H _ l rfl

theorem Ok.nonneg {l : List Int} : Ok l → 0 ≤ sum l := by
  refine ind (p := fun l => Ok l → 0 ≤ sum l) ?_ ?_ l
  · intro _; simp [sum]
  · intro t x ih h
    rw [ok_snoc] at h
    have := ih h.1
    have := h.2.1.bd
    rw [sum_snoc]; omega

/-- what is ahead of a digit is not more than it -/
theorem Ok.ahead {l : List Int} : ∀ d, Ok (l ++ [d]) → sum l ≤ d := by
  refine ind (p := fun l => ∀ d, Ok (l ++ [d]) → sum l ≤ d) ?_ ?_ l
  · intro d h
    have := (ok_snoc.1 h).2.1.bd
    rw [sum_nil]; omega
  · intro t x ih d h
    obtain ⟨h1, h2, h3⟩ := ok_snoc.1 h
    have hx := ih x h1
    rw [sum_snoc]
    rcases h3 with h | h | ⟨u, c, h, hc⟩
    · simp at h
    · obtain ⟨rfl, rfl⟩ : t = [] ∧ x = d := by
        cases t with
        | nil => simpa using h
        | cons y t => simp at h
      rw [sum_nil]; omega
    · obtain ⟨rfl, e⟩ := List.append_inj' h rfl
      have : x = c := by simpa using e
      subst this
      have := (ok_snoc.1 h1).2.1.next h2 hc
      omega

theorem Ok.le {l : List Int} (h : Ok l) : sum l ≤ 2199023255550 := by
  rcases snoc_cases l with rfl | ⟨t, d, rfl⟩
  · simp [sum]
  · have := h.ahead
    have := (ok_snoc.1 h).2.1.bd
    rw [sum_snoc]; omega

/-- the last one of a list is the greatest digit that goes into its sum -/
theorem Ok.last {t : List Int} (h : Ok t) {d : Int} (hd : IsD d) (h1 : d ≤ sum t) (h2 : sum t ≤ 2 * d) : ∃ u, t = u ++ [d] := by
  rcases snoc_cases t with rfl | ⟨u, e, rfl⟩
  · rw [sum_nil] at h1
    have := hd.bd
    omega
  · have ha := h.ahead
    obtain ⟨hu, he, _⟩ := ok_snoc.1 h
    have hn := hu.nonneg
    rw [sum_snoc] at h1 h2
    rcases Int.lt_trichotomy d e with hlt | rfl | hlt
    · have := hd.next he hlt; omega
    · exact ⟨u, rfl⟩
    · have := he.next hd hlt; omega

theorem Ok.zero {t : List Int} (h : Ok t) (h0 : sum t ≤ 0) : t = [] := by
  rcases snoc_cases t with rfl | ⟨u, e, rfl⟩
  · rfl
  · obtain ⟨hu, he, _⟩ := ok_snoc.1 h
    have := hu.nonneg
    have := he.bd
    rw [sum_snoc] at h0
    omega

/-- MYERS -/
theorem Ok.one {l : List Int} : ∀ m, Ok l → Ok m → sum l = sum m → l = m := by
  refine ind (p := fun l => ∀ m, Ok l → Ok m → sum l = sum m → l = m) ?_ ?_ l
  · intro m _ hm h
    exact (hm.zero (by rw [← h, sum_nil]; omega)).symm
  · intro t d ih m hl hm h
    have ha := hl.ahead
    obtain ⟨ht, hd, _⟩ := ok_snoc.1 hl
    have hn := ht.nonneg
    rw [sum_snoc] at h
    obtain ⟨u, rfl⟩ := hm.last hd (by omega) (by omega)
    rw [sum_snoc] at h
    rw [ih u ht hm.left (by omega)]

theorem Ok.len {l : List Int} : ∀ k, Ok (l ++ [dg k]) → l.length ≤ k := by
  refine ind (p := fun l => ∀ k, Ok (l ++ [dg k]) → l.length ≤ k) ?_ ?_ l
  · intro k _; simp
  · intro t x ih k h
    obtain ⟨h1, h2, h3⟩ := ok_snoc.1 h
    obtain ⟨j, hj1, hj2, rfl⟩ := (ok_snoc.1 h1).2.1
    have hx := ih j h1
    have hk0 : k ≠ 0 := by rintro rfl; have := h2.bd; simp [dg] at this
    simp only [List.length_append, List.length_singleton]
    rcases h3 with h | h | ⟨u, c, h, hc⟩
    · simp at h
    · have : t.length + 1 = 1 := by simpa using congrArg List.length h
      omega
    · have : dg j = c := by have := List.append_inj' h rfl; simpa using this.2
      subst this
      have := lt_of_dg hc
      omega
theorem Ok.length {l : List Int} (h : Ok l) : l.length ≤ 41 := by
  rcases snoc_cases l with rfl | ⟨t, d, rfl⟩
  · simp
  · obtain ⟨k, h1, h2, rfl⟩ := (ok_snoc.1 h).2.1
    have := h.len
    simp; omega

/-- there is a list of each number -/
theorem exists_upto (k : Nat) (hk : k ≤ 40) : ∀ n : Int, 0 ≤ n → n ≤ 2 * dg k → ∃ t, Ok t ∧ sum t = n ∧ ∀ x ∈ t, x ≤ dg k := by
  induction k with
  | zero =>
    intro n h1 h2
    have : n = 0 := by rw [dg_zero] at h2; omega
    subst this
    exact ⟨[], Ok.nil, rfl, by simp⟩
  | succ k ih =>
    intro n h1 h2
    have hs := dg_succ k
    have h0 := dg_nonneg k
    have hD : IsD (dg (k + 1)) := ⟨k + 1, by omega, hk, rfl⟩
    rcases (by omega : n < dg (k + 1) ∨ dg (k + 1) ≤ n) with h3 | h3
    · obtain ⟨t, a, b, c⟩ := ih (by omega) n h1 (by omega)
      exact ⟨t, a, b, fun x hx => by have := c x hx; omega⟩
    · rcases (by omega : n < 2 * dg (k + 1) ∨ 2 * dg (k + 1) ≤ n) with h4 | h4
      · obtain ⟨t, a, b, c⟩ := ih (by omega) (n - dg (k + 1)) (by omega) (by omega)
        refine ⟨t ++ [dg (k + 1)], ok_snoc.2 ⟨a, hD, ?_⟩, by rw [sum_snoc]; omega, ?_⟩
        · rcases snoc_cases t with rfl | ⟨u, e, rfl⟩
          · exact .inl rfl
          · refine .inr (.inr ⟨u, e, rfl, ?_⟩)
            have := c e (by simp)
            omega
        · intro x hx
          rcases List.mem_append.1 hx with hx | hx
          · have := c x hx; omega
          · simp at hx; omega
      · refine ⟨[dg (k + 1)] ++ [dg (k + 1)], ok_snoc.2 ⟨(ok_snoc (t := [])).2 ⟨Ok.nil, hD, .inl rfl⟩, hD, .inr (.inl rfl)⟩, ?_, ?_⟩
        · rw [sum_snoc, sum_cons, sum_nil]; omega
        · intro x hx
          have : x = dg (k + 1) := by simpa using hx
          omega
theorem exists_any {n : Int} (h1 : 0 ≤ n) (h2 : n ≤ 1099511627776) : ∃ t, Ok t ∧ sum t = n := by
  obtain ⟨t, a, b, _⟩ := exists_upto 40 (by omega) n h1 (by rw [dg_40]; omega)
  exact ⟨t, a, b⟩

theorem Ok.wf {l : List Int} (h : Ok l) : ∀ x ∈ l, (Lit.int .i64 x).wf = true := by
  intro x hx
  obtain ⟨i, hi, rfl⟩ := List.mem_iff_getElem.1 hx
  have := (h i hi).1.bd
  simp only [List.getD, List.getElem?_eq_getElem hi, Option.getD_some] at this
  generalize l[i] = x at *
  simp only [Lit.wf, IntKind.min, IntKind.max, IntKind.signed, IntKind.bits, Bool.and_eq_true, decide_eq_true_eq]
  simp
  omega

/-- one more -/
theorem ok_cons {x : Int} {l : List Int} : Ok (x :: l) ↔ IsD x ∧ (∀ i, i < l.length → IsD (l.getD i 0) ∧ ((if i = 0 then x ≤ l.getD 0 0 else l.getD (i - 1) 0 < l.getD i 0))) := by
  constructor
  · intro h
    refine ⟨by simpa using (h 0 (by simp)).1, fun i hi => ?_⟩
    have := h (i + 1) (by simp; omega)
    obtain ⟨a, b⟩ := this
    rw [List.getD_cons_succ] at a b
    refine ⟨a, ?_⟩
    cases i with
    | zero =>
      rw [if_pos rfl]
      simp only [Nat.zero_add, Nat.sub_self, List.getD_cons_zero] at b
      omega
    | succ i =>
      rw [if_neg (by omega)]
      simp only [Nat.add_sub_cancel, List.getD_cons_succ] at b ⊢
      omega
  · rintro ⟨hx, H⟩ i hi
    cases i with
    | zero => exact ⟨by simpa using hx, .inl rfl⟩
    | succ i =>
      obtain ⟨a, b⟩ := H i (by simpa using hi)
      refine ⟨by rw [List.getD_cons_succ]; exact a, ?_⟩
      cases i with
      | zero =>
        rw [if_pos rfl] at b
        rw [show (x :: l).getD (0 + 1 - 1) 0 = x from rfl, show (x :: l).getD (0 + 1) 0 = l.getD 0 0 from rfl]
        omega
      | succ i =>
        rw [if_neg (by omega)] at b
        simp only [Nat.add_sub_cancel, List.getD_cons_succ] at b ⊢
        omega

/-- the digits of one more: both first ones become the next digit, or a one comes -/
theorem Ok.inc {l a : List Int} (hl : Ok l) (ha : Ok a) (h : sum a = sum l + 1) (hm : sum a ≤ 1099511627776) : (∃ d r, l = d :: d :: r ∧ a = (2 * d + 1) :: r) ∨ a = 1 :: l := by
  by_cases hc : ∃ d r, l = d :: d :: r
  · obtain ⟨d, r, rfl⟩ := hc
    refine .inl ⟨d, r, rfl, ha.one _ ?_ ?_⟩
    · obtain ⟨h1, h2⟩ := ok_cons.1 hl
      have hd1 := h1.bd
      have hr0 : 0 ≤ sum r := by
        have hr : ∀ i, i < r.length → 0 ≤ r.getD i 0 := fun i hi => by
          have := (h2 (i + 1) (by simp; omega)).1.bd
          rw [List.getD_cons_succ] at this
          omega
        clear hl h h2
        induction r with
        | nil => simp [sum]
        | cons y r ih =>
          rw [sum_cons]
          have h0 := hr 0 (by simp)
          have := ih (fun i hi => by have := hr (i + 1) (by simp; omega); rwa [List.getD_cons_succ] at this)
          simp at h0
          omega
      rw [sum_cons, sum_cons] at h
      refine ok_cons.2 ⟨h1.up (by omega), fun i hi => ?_⟩
      obtain ⟨p, q⟩ := h2 (i + 1) (by simp; omega)
      rw [if_neg (by omega)] at q
      rw [List.getD_cons_succ] at p q
      refine ⟨p, ?_⟩
      cases i with
      | zero =>
        rw [if_pos rfl]
        simp only [Nat.zero_add, Nat.sub_self, List.getD_cons_zero] at q
        exact h1.next p q
      | succ i =>
        rw [if_neg (by omega)]
        simp only [Nat.add_sub_cancel, List.getD_cons_succ] at q ⊢
        exact q
    · rw [h, sum_cons, sum_cons, sum_cons]; omega
  · refine .inr (ha.one _ ?_ (by rw [h, sum_cons]; omega))
    refine ok_cons.2 ⟨IsD.one, fun i hi => ?_⟩
    obtain ⟨p, q⟩ := hl i hi
    refine ⟨p, ?_⟩
    cases i with
    | zero => rw [if_pos rfl]; exact p.bd.1
    | succ i =>
      rw [if_neg (by omega)]
      simp only [Nat.add_sub_cancel] at q ⊢
      rcases q with q | q | ⟨q, q'⟩
      · omega
      · exact q
      · exfalso
        obtain rfl : i = 0 := by omega
        apply hc
        clear hl ha h p hm hc
        rcases l with _ | ⟨x, _ | ⟨y, r⟩⟩
        · simp at hi
        · simp at hi
        · simp at q
          exact ⟨x, r, by rw [← q]⟩
end Go.Proofs.Ytkenocamlaaajaa.sk
