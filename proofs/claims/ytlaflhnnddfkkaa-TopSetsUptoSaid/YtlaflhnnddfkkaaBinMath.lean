/- Rows of binomial trees: plain mathematics. -/
import Derived.Lib.Hide
namespace Go.Proofs.Ytlaflhnnddfkkaa.bin

/-- a row of trees: the first tree's number and rank, the row below it; and the next ones -/
inductive Rw where
  | nil
  | cons (x : Int) (k : Nat) (b n : Rw)

/-- all numbers of a row -/
def nums : Rw → List Int
  | .nil => []
  | .cons x _ b n => x :: (nums b ++ nums n)
/-- the ranks of its trees -/
def ranks : Rw → List Nat
  | .nil => []
  | .cons _ k _ n => k :: ranks n

/-- the row below a tree of rank k whose number is x -/
def Ok : Nat → Int → Rw → Prop
  | k, _, .nil => k = 0
  | k, x, .cons y j b n => k = j + 1 ∧ x ≤ y ∧ Ok j y b ∧ Ok j x n
/-- trees of ranks that rise, from m on -/
def Inc : Nat → Rw → Prop
  | _, .nil => True
  | m, .cons x k b n => m ≤ k ∧ Ok k x b ∧ Inc (k + 1) n

theorem Ok.len : ∀ {r : Rw} {k : Nat} {x : Int}, Ok k x r → (nums r).length + 1 = 2 ^ k
  | .nil, k, x, h => by obtain rfl : k = 0 := h; rfl
  | .cons y j b n, k, x, h => by
    obtain ⟨rfl, _, hb, hn⟩ := h
    have h1 := hb.len
    have h2 := hn.len
    simp only [nums, List.length_cons, List.length_append]
    rw [Nat.pow_succ]
    omega
theorem Ok.le : ∀ {r : Rw} {k : Nat} {x : Int}, Ok k x r → ∀ z ∈ nums r, x ≤ z
  | .nil, k, x, _ => by simp [nums]
  | .cons y j b n, k, x, h => by
    obtain ⟨_, hxy, hb, hn⟩ := h
    intro z hz
    simp only [nums, List.mem_cons, List.mem_append] at hz
    rcases hz with rfl | hz | hz
    · exact hxy
    · have := hb.le z hz; omega
    · exact hn.le z hz
theorem Inc.mono {m m' : Nat} : ∀ {r : Rw}, Inc m r → m' ≤ m → Inc m' r
  | .nil, _, _ => trivial
  | .cons _ _ _ _, ⟨h1, h2, h3⟩, h => ⟨Nat.le_trans h h1, h2, h3⟩

/-- the sum of 2 to the power of each -/
def pow2 : List Nat → Nat
  | [] => 0
  | k :: ks => 2 ^ k + pow2 ks
theorem pow2_snoc (ks : List Nat) (k : Nat) : pow2 (ks ++ [k]) = pow2 ks + 2 ^ k := by
  induction ks with
  | nil => simp [pow2]
  | cons j ks ih => simp [pow2, ih]; omega
theorem Inc.len : ∀ {r : Rw} {m : Nat}, Inc m r → (nums r).length = pow2 (ranks r)
  | .nil, _, _ => rfl
  | .cons x k b n, m, ⟨_, h2, h3⟩ => by
    have := h2.len
    have := h3.len
    simp only [nums, ranks, pow2, List.length_cons, List.length_append]
    omega

/-- numbers that rise, from m on -/
def Asc : Nat → List Nat → Prop
  | _, [] => True
  | m, k :: ks => m ≤ k ∧ Asc (k + 1) ks
theorem Inc.asc : ∀ {r : Rw} {m : Nat}, Inc m r → Asc m (ranks r)
  | .nil, _, _ => trivial
  | .cons _ _ _ _, _, ⟨h1, _, h3⟩ => ⟨h1, h3.asc⟩
theorem Asc.mono {m m' : Nat} : ∀ {l : List Nat}, Asc m l → m' ≤ m → Asc m' l
  | [], _, _ => trivial
  | _ :: _, ⟨h1, h2⟩, h => ⟨Nat.le_trans h h1, h2⟩
theorem Asc.div : ∀ {l : List Nat} {m : Nat}, Asc m l → 2 ^ m ∣ pow2 l
  | [], _, _ => Nat.dvd_zero _
  | k :: ks, m, ⟨h1, h2⟩ => by
    refine Nat.dvd_add (Nat.pow_dvd_pow 2 h1) ?_
    exact Nat.dvd_trans (Nat.pow_dvd_pow 2 (by omega)) h2.div
theorem Asc.low {k : Nat} {ks : List Nat} (h : Asc (k + 1) ks) : ¬ 2 ^ (k + 1) ∣ pow2 (k :: ks) := by
  intro hd
  have h1 : 2 ^ (k + 1) ∣ 2 ^ k := (Nat.dvd_add_iff_left h.div).2 hd
  have := Nat.le_of_dvd (Nat.pos_of_ne_zero (by simp)) h1
  have : 2 ^ k < 2 ^ (k + 1) := Nat.pow_lt_pow_right (by omega) (by omega)
  omega
theorem Asc.one : ∀ {l l' : List Nat} {m : Nat}, Asc m l → Asc m l' → pow2 l = pow2 l' → l = l'
  | [], [], _, _, _, _ => rfl
  | [], k :: ks, _, _, _, h => by have := Nat.pow_pos (n := k) (a := 2) (by omega); simp only [pow2] at h; omega
  | k :: ks, [], _, _, _, h => by have := Nat.pow_pos (n := k) (a := 2) (by omega); simp only [pow2] at h; omega
  | k :: ks, j :: js, m, ⟨h1, h2⟩, ⟨g1, g2⟩, h => by
    have hk : k = j := by
      rcases Nat.lt_trichotomy k j with hlt | he | hlt
      · exfalso
        refine h2.low ?_
        rw [h]
        exact Asc.div (l := j :: js) ⟨by omega, g2⟩
      · exact he
      · exfalso
        refine g2.low ?_
        rw [← h]
        exact Asc.div (l := k :: ks) ⟨by omega, h2⟩
    subst hk
    rw [Asc.one h2 g2 (by simp [pow2] at h; exact h)]
theorem Asc.snoc : ∀ {l : List Nat} {m k : Nat}, Asc m l → (∀ j ∈ l, j < k) → m ≤ k → Asc m (l ++ [k])
  | [], _, _, _, _, h => ⟨h, trivial⟩
  | j :: l, m, k, ⟨h1, h2⟩, hl, h => ⟨h1, h2.snoc (fun i hi => hl i (by simp [hi])) (hl j (by simp))⟩
theorem Asc.ge : ∀ {l : List Nat} {m : Nat}, Asc m l → ∀ k ∈ l, m ≤ k
  | [], _, _ => by simp
  | j :: l, m, ⟨h1, h2⟩ => by
    intro k hk
    rcases List.mem_cons.1 hk with rfl | hk
    · exact h1
    · have := h2.ge k hk; omega
theorem pow2_mem : ∀ {l : List Nat} {k : Nat}, k ∈ l → 2 ^ k ≤ pow2 l
  | [], _, h => by simp at h
  | j :: l, k, h => by
    rcases List.mem_cons.1 h with rfl | h
    · simp [pow2]
    · exact Nat.le_trans (pow2_mem h) (Nat.le_add_left _ _)
theorem small {k n N : Nat} (h : 2 ^ k ≤ n) (hn : n < 2 ^ N) : k < N := (Nat.pow_lt_pow_iff_right (a := 2) (by omega)).1 (by omega)

/-- a tree of the row -/
def Has (x : Int) (k : Nat) (b : Rw) : Rw → Prop
  | .nil => False
  | .cons y j c n => (y = x ∧ j = k ∧ c = b) ∨ Has x k b n
theorem Has.rank {x : Int} {k : Nat} {b : Rw} : ∀ {r : Rw} {m : Nat}, Inc m r → Has x k b r → m ≤ k ∧ Ok k x b
  | .nil, _, _, h => h.elim
  | .cons y j c n, m, ⟨h1, h2, h3⟩, h => by
    rcases h with ⟨rfl, rfl, rfl⟩ | h
    · exact ⟨h1, h2⟩
    · obtain ⟨g1, g2⟩ := Has.rank h3 h
      exact ⟨by omega, g2⟩
/-- the row without its tree of rank k -/
def cut (k : Nat) : Rw → Rw
  | .nil => .nil
  | .cons y j c n => if j = k then n else .cons y j c (cut k n)
theorem Inc.cut {k : Nat} : ∀ {r : Rw} {m : Nat}, Inc m r → Inc m (cut k r)
  | .nil, _, _ => trivial
  | .cons y j c n, m, ⟨h1, h2, h3⟩ => by
    unfold bin.cut
    by_cases h : j = k
    · rw [if_pos h]; exact h3.mono (by omega)
    · rw [if_neg h]; exact ⟨h1, h2, h3.cut⟩
theorem Has.cut {x : Int} {k : Nat} {b : Rw} : ∀ {r : Rw} {m : Nat}, Inc m r → Has x k b r → (nums r).Perm (nums (cut k r) ++ (x :: nums b))
  | .nil, _, _, h => h.elim
  | .cons y j c n, m, ⟨h1, h2, h3⟩, h => by
    rcases h with ⟨rfl, rfl, rfl⟩ | h
    · unfold bin.cut
      rw [if_pos rfl]
      simp only [nums]
      exact (List.perm_append_comm (l₁ := y :: nums c) (l₂ := nums n))
    · have hk := (Has.rank h3 h).1
      unfold bin.cut
      rw [if_neg (by omega)]
      simp only [nums]
      refine List.Perm.cons y ?_
      show ((nums c ++ nums n).Perm ((nums c ++ nums (bin.cut k n)) ++ (x :: nums b)))
      rw [List.append_assoc]
      exact (h.cut h3).append_left _
/-- no number of the row is below the least one of its trees' -/
theorem Inc.least {x : Int} : ∀ {r : Rw} {m : Nat}, Inc m r → (∀ y k b, Has y k b r → x ≤ y) → ∀ z ∈ nums r, x ≤ z
  | .nil, _, _, _ => by simp [nums]
  | .cons y j c n, m, ⟨h1, h2, h3⟩, h => by
    intro z hz
    have hy := h y j c (.inl ⟨rfl, rfl, rfl⟩)
    simp only [nums, List.mem_cons, List.mem_append] at hz
    rcases hz with rfl | hz | hz
    · exact hy
    · have := h2.le z hz; omega
    · exact h3.least (fun y k b hb => h y k b (.inr hb)) z hz

/-- the row from the last tree to the first, ahead of another row -/
def rev (t : Rw) : Rw → Rw
  | .nil => t
  | .cons x k b n => rev (.cons x k b t) n
theorem Ok.rev : ∀ {r t : Rw} {k : Nat} {x : Int}, Ok k x r → Inc k t → Inc 0 (rev t r)
  | .nil, t, k, x, h, ht => by obtain rfl : k = 0 := h; exact ht
  | .cons y j b n, t, k, x, h, ht => by
    obtain ⟨rfl, _, hb, hn⟩ := h
    exact hn.rev ⟨Nat.le_refl _, hb, ht⟩
theorem rev_nums : ∀ {r t : Rw}, (nums (rev t r)).Perm (nums r ++ nums t)
  | .nil, t => by simp [rev, nums]
  | .cons y j b n, t => by
    refine (rev_nums (r := n) (t := .cons y j b t)).trans ?_
    simp only [nums]
    refine List.perm_middle.trans ?_
    refine List.Perm.cons y ?_
    show (nums n ++ (nums b ++ nums t)).Perm ((nums b ++ nums n) ++ nums t)
    rw [List.append_assoc]
    exact List.perm_append_comm_assoc _ _ _

/-- two trees of one rank, linked -/
def lnk (x y : Int) (k : Nat) (b c : Rw) : Int × Rw := if y < x then (y, .cons x k b c) else (x, .cons y k c b)
theorem lnk_ok {x y : Int} {k : Nat} {b c : Rw} (hx : Ok k x b) (hy : Ok k y c) : Ok (k + 1) (lnk x y k b c).1 (lnk x y k b c).2 := by
  unfold lnk
  by_cases h : y < x
  · rw [if_pos h]; exact ⟨rfl, Int.le_of_lt h, hx, hy⟩
  · rw [if_neg h]; exact ⟨rfl, by show x ≤ y; omega, hy, hx⟩
theorem lnk_nums (x y : Int) (k : Nat) (b c : Rw) : ((lnk x y k b c).1 :: nums (lnk x y k b c).2).Perm ((x :: nums b) ++ (y :: nums c)) := by
  unfold lnk
  by_cases h : y < x
  · rw [if_pos h]
    show (y :: ((x :: nums b) ++ nums c)).Perm _
    exact List.perm_middle.symm
  · rw [if_neg h]
    simp only [nums, List.cons_append]
    refine List.Perm.cons x ?_
    exact (List.perm_append_comm (l₁ := y :: nums c) (l₂ := nums b))

/-- a list, rising -/
def srt (l : List Int) : List Int := l.mergeSort fun x y => decide (x ≤ y)
theorem srt_perm (l : List Int) : (srt l).Perm l := List.mergeSort_perm _ _
theorem srt_len (l : List Int) : (srt l).length = l.length := (srt_perm l).length_eq
theorem srt_rises (l : List Int) : (srt l).Pairwise (· ≤ ·) := by
  have := List.pairwise_mergeSort (le := fun x y : Int => decide (x ≤ y)) (by intro a b c; simp; omega) (by intro a b; simp; omega) l
  exact this.imp fun h => by simpa using h
theorem rises_one {l l' : List Int} (h : l.Pairwise (· ≤ ·)) (h' : l'.Pairwise (· ≤ ·)) (hp : l.Perm l') : l = l' :=
  List.Perm.eq_of_pairwise (fun _ _ _ _ h1 h2 => Int.le_antisymm h1 h2) h h' hp
theorem srt_eq {l l' : List Int} (h : l.Perm l') : srt l = srt l' := rises_one (srt_rises l) (srt_rises l') ((srt_perm l).trans (h.trans (srt_perm l').symm))
theorem srt_of {l l' : List Int} (h : l'.Pairwise (· ≤ ·)) (hp : l'.Perm l) : srt l = l' := rises_one (srt_rises l) h ((srt_perm l).trans hp.symm)
end Go.Proofs.Ytlaflhnnddfkkaa.bin
