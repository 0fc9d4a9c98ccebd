/- Package red: its trees, and what is made of them; plain mathematics. -/
import Derived.Test.YtlaflhnnddfkkaaSch
namespace Go.Proofs.Ytlaflhnnddfkkaa.red
open Go Go.RowKit
open Go.Proofs.Ytlaflhnnddfkkaa.sch

def top : Tr → Int
  | .nil => 0
  | .node _ m _ _ => m
def lef : Tr → Tr
  | .nil => .nil
  | .node _ _ l _ => l
def rig : Tr → Tr
  | .nil => .nil
  | .node _ _ _ r => r
def paint (m : Int) : Tr → Tr
  | .nil => .nil
  | .node x _ l r => .node x m l r
/-- how many black ones a node of this colour has with k black ones below -/
def bh (m : Int) (k : Nat) : Nat := if m = 1 then k else k + 1
theorem bh_red (k : Nat) : bh 1 k = k := rfl
theorem bh_black (k : Nat) : bh 0 k = k + 1 := rfl

/-- n black ones on each way down; none under a red one is red -/
def Rb : Tr → Nat → Prop
  | .nil, n => n = 0
  | .node _ m l r, n => (m = 0 ∨ m = 1) ∧ ∃ k, n = bh m k ∧ Rb l k ∧ Rb r k ∧ (m = 1 → top l ≠ 1 ∧ top r ≠ 1)
/-- the same, but that the top one may be red over red ones -/
def Wk : Tr → Nat → Prop
  | .nil, n => n = 0
  | .node _ m l r, n => (m = 0 ∨ m = 1) ∧ ∃ k, n = bh m k ∧ Rb l k ∧ Rb r k
/-- a red one is over a red one on top -/
def Dbl (t : Tr) : Prop := top t = 1 ∧ (top (lef t) = 1 ∨ top (rig t) = 1)
theorem Rb.wk : ∀ {t : Tr} {n : Nat}, Rb t n → Wk t n
  | .nil, _, h => h
  | .node _ _ _ _, _, ⟨h, k, e, h1, h2, _⟩ => ⟨h, k, e, h1, h2⟩
theorem Rb.dbl : ∀ {t : Tr} {n : Nat}, Rb t n → ¬ Dbl t
  | .nil, _, _ => fun h => by simp [Dbl, top] at h
  | .node _ m l r, _, ⟨_, _, _, _, _, h⟩ => fun hd => by
    obtain ⟨h1, h2⟩ := hd
    obtain ⟨h3, h4⟩ := h h1
    rcases h2 with h2 | h2
    · exact h3 h2
    · exact h4 h2
theorem Wk.rb : ∀ {t : Tr} {n : Nat}, Wk t n → ¬ Dbl t → Rb t n
  | .nil, _, h, _ => h
  | .node _ _ _ _, _, ⟨h, k, e, h1, h2⟩, hd => ⟨h, k, e, h1, h2, fun hm => ⟨fun h => hd ⟨hm, .inl h⟩, fun h => hd ⟨hm, .inr h⟩⟩⟩
theorem Rb.black {x : Int} {l r : Tr} {k : Nat} (h1 : Rb l k) (h2 : Rb r k) : Rb (.node x 0 l r) (k + 1) := ⟨.inl rfl, k, rfl, h1, h2, fun h => by simp at h⟩
theorem Rb.red {x : Int} {l r : Tr} {k : Nat} (h1 : Rb l k) (h2 : Rb r k) (h3 : top l ≠ 1) (h4 : top r ≠ 1) : Rb (.node x 1 l r) k := ⟨.inr rfl, k, rfl, h1, h2, fun _ => ⟨h3, h4⟩⟩
theorem Wk.redOf {x : Int} {l r : Tr} {n : Nat} (h : Wk (.node x 1 l r) n) : Rb l n ∧ Rb r n := by
  obtain ⟨-, k, e, h1, h2⟩ := h
  rw [bh_red] at e
  subst e
  exact ⟨h1, h2⟩
theorem Rb.redOf {x : Int} {l r : Tr} {n : Nat} (h : Rb (.node x 1 l r) n) : Rb l n ∧ Rb r n := h.wk.redOf
theorem Rb.top01 {t : Tr} {n : Nat} (h : Rb t n) : top t = 0 ∨ top t = 1 := by
  cases t with
  | nil => exact .inl rfl
  | node x m l r => exact h.1
theorem Rb.none {t : Tr} (h : Rb t 0) (ht : top t ≠ 1) : t = .nil := by
  rcases t with _ | ⟨x, m, l, r⟩
  · rfl
  · obtain ⟨hm, k, e, -⟩ := h
    unfold bh at e
    rw [if_neg (show ¬ m = 1 from ht)] at e
    simp at e
theorem Rb.some {t : Tr} {k : Nat} (h : Rb t (k + 1)) : t ≠ .nil := by
  rintro rfl
  have h2 : k + 1 = 0 := h
  simp at h2

theorem keys_paint (m : Int) : ∀ (t : Tr), keys (paint m t) = keys t
  | .nil => rfl
  | .node _ _ _ _ => rfl
theorem top_paint0 : ∀ (t : Tr), top (paint 0 t) ≠ 1
  | .nil => by simp [paint, top]
  | .node _ _ _ _ => by simp [paint, top]
theorem Wk.paint0 {t : Tr} {n : Nat} (h : Wk t n) : ∃ k, Rb (paint 0 t) k := by
  rcases t with _ | ⟨x, m, l, r⟩
  · exact ⟨n, h⟩
  · obtain ⟨-, k, -, h1, h2⟩ := h
    exact ⟨k + 1, h1.black h2⟩
theorem Rb.paint1 {t : Tr} {k : Nat} (h : Rb t (k + 1)) (ht : top t ≠ 1) : Wk (paint 1 t) k := by
  rcases t with _ | ⟨x, m, l, r⟩
  · exact absurd h (by simp [Rb])
  · obtain ⟨hm, j, e, h1, h2, -⟩ := h
    rw [show bh m j = j + 1 by unfold bh; exact if_neg ht] at e
    obtain rfl : k = j := by omega
    exact ⟨.inr rfl, k, rfl, h1, h2⟩

/-! ### a black number over two trees, one of which may be red over red on top -/
def num : Tr → Int
  | .nil => 0
  | .node x _ _ _ => x
def bal (x : Int) (a b : Tr) : Tr :=
  if top a = 1 ∧ top (lef a) = 1 then .node (num a) 1 (paint 0 (lef a)) (.node x 0 (rig a) b)
  else if top a = 1 ∧ top (rig a) = 1 then .node (num (rig a)) 1 (.node (num a) 0 (lef a) (lef (rig a))) (.node x 0 (rig (rig a)) b)
  else if top b = 1 ∧ top (rig b) = 1 then .node (num b) 1 (.node x 0 a (lef b)) (paint 0 (rig b))
  else if top b = 1 ∧ top (lef b) = 1 then .node (num (lef b)) 1 (.node x 0 a (lef (lef b))) (.node (num b) 0 (rig (lef b)) (rig b))
  else .node x 0 a b
theorem bal_one (x y z : Int) (r s d b : Tr) : bal x (.node y 1 (.node z 1 r s) d) b = .node y 1 (.node z 0 r s) (.node x 0 d b) := by simp [bal, top, lef, rig, num, paint]
theorem bal_two (x y z : Int) {c : Tr} (r s b : Tr) (hc : top c ≠ 1) : bal x (.node y 1 c (.node z 1 r s)) b = .node z 1 (.node y 0 c r) (.node x 0 s b) := by
  unfold bal
  rw [if_neg (fun h => hc h.2), if_pos ⟨rfl, rfl⟩]
  rfl
theorem not_dbl {t : Tr} (h : ¬ Dbl t) : ¬ (top t = 1 ∧ top (lef t) = 1) ∧ ¬ (top t = 1 ∧ top (rig t) = 1) := ⟨fun ⟨h1, h2⟩ => h ⟨h1, .inl h2⟩, fun ⟨h1, h2⟩ => h ⟨h1, .inr h2⟩⟩
theorem bal_three (x y z : Int) {a : Tr} (c r s : Tr) (ha : ¬ Dbl a) : bal x a (.node y 1 c (.node z 1 r s)) = .node y 1 (.node x 0 a c) (.node z 0 r s) := by
  obtain ⟨h1, h2⟩ := not_dbl ha
  unfold bal
  rw [if_neg h1, if_neg h2]
  simp [top, lef, rig, num, paint]
theorem bal_four (x y z : Int) {a d : Tr} (r s : Tr) (ha : ¬ Dbl a) (hd : top d ≠ 1) : bal x a (.node y 1 (.node z 1 r s) d) = .node z 1 (.node x 0 a r) (.node y 0 s d) := by
  obtain ⟨h1, h2⟩ := not_dbl ha
  unfold bal
  rw [if_neg h1, if_neg h2, if_neg (fun h => hd h.2), if_pos ⟨rfl, rfl⟩]
  rfl
theorem bal_five (x : Int) {a b : Tr} (ha : ¬ Dbl a) (hb : ¬ Dbl b) : bal x a b = .node x 0 a b := by
  obtain ⟨h1, h2⟩ := not_dbl ha
  obtain ⟨h3, h4⟩ := not_dbl hb
  unfold bal
  rw [if_neg h1, if_neg h2, if_neg h4, if_neg h3]
theorem top_one {t : Tr} (h : top t = 1) : ∃ x l r, t = .node x 1 l r := by
  rcases t with _ | ⟨x, m, l, r⟩
  · simp [top] at h
  · obtain rfl : m = 1 := h
    exact ⟨x, l, r, rfl⟩
theorem dbl_left (t : Tr) : (∃ y z r s d, t = .node y 1 (.node z 1 r s) d) ∨ (∃ y c z r s, t = .node y 1 c (.node z 1 r s) ∧ top c ≠ 1) ∨ ¬ Dbl t := by
  by_cases h : Dbl t
  · obtain ⟨h1, h2⟩ := h
    obtain ⟨y, c, d, rfl⟩ := top_one h1
    by_cases hc : top c = 1
    · obtain ⟨z, r, s, rfl⟩ := top_one hc
      exact .inl ⟨_, _, _, _, _, rfl⟩
    · rcases h2 with h2 | h2
      · exact absurd h2 hc
      · obtain ⟨z, r, s, rfl⟩ := top_one (show top d = 1 from h2)
        exact .inr (.inl ⟨_, _, _, _, _, rfl, hc⟩)
  · exact .inr (.inr h)
theorem dbl_right (t : Tr) : (∃ y c z r s, t = .node y 1 c (.node z 1 r s)) ∨ (∃ y z r s d, t = .node y 1 (.node z 1 r s) d ∧ top d ≠ 1) ∨ ¬ Dbl t := by
  by_cases h : Dbl t
  · obtain ⟨h1, h2⟩ := h
    obtain ⟨y, c, d, rfl⟩ := top_one h1
    by_cases hc : top d = 1
    · obtain ⟨z, r, s, rfl⟩ := top_one hc
      exact .inl ⟨_, _, _, _, _, rfl⟩
    · rcases h2 with h2 | h2
      · obtain ⟨z, r, s, rfl⟩ := top_one (show top c = 1 from h2)
        exact .inr (.inl ⟨_, _, _, _, _, rfl, hc⟩)
      · exact absurd h2 hc
  · exact .inr (.inr h)
theorem bal_keys (x : Int) (a b : Tr) : keys (bal x a b) = keys a ++ x :: keys b := by
  rcases dbl_left a with ⟨y, z, r, s, d, rfl⟩ | ⟨y, c, z, r, s, rfl, hc⟩ | ha
  · rw [bal_one]; simp [keys]
  · rw [bal_two _ _ _ _ _ _ hc]; simp [keys]
  rcases dbl_right b with ⟨y, c, z, r, s, rfl⟩ | ⟨y, z, r, s, d, rfl, hd⟩ | hb
  · rw [bal_three _ _ _ _ _ _ ha]; simp [keys]
  · rw [bal_four _ _ _ _ _ ha hd]; simp [keys]
  · rw [bal_five _ ha hb]; simp [keys]
theorem bal_rb {x : Int} {a b : Tr} {k : Nat} (h : (Wk a k ∧ Rb b k) ∨ (Rb a k ∧ Wk b k)) : Rb (bal x a b) (k + 1) := by
  have hw : Wk a k ∧ Wk b k := by
    rcases h with ⟨h1, h2⟩ | ⟨h1, h2⟩
    · exact ⟨h1, h2.wk⟩
    · exact ⟨h1.wk, h2⟩
  rcases dbl_left a with ⟨y, z, r, s, d, rfl⟩ | ⟨y, c, z, r, s, rfl, hc⟩ | ha
  · have hb : Rb b k := by
      rcases h with ⟨-, h⟩ | ⟨h, -⟩
      · exact h
      · exact absurd ⟨rfl, .inl rfl⟩ h.dbl
    obtain ⟨h1, h2⟩ := hw.1.redOf
    obtain ⟨h3, h4⟩ := h1.redOf
    rw [bal_one]
    exact (h3.black h4).red (h2.black hb) (by simp [top]) (by simp [top])
  · have hb : Rb b k := by
      rcases h with ⟨-, h⟩ | ⟨h, -⟩
      · exact h
      · exact absurd ⟨rfl, .inr rfl⟩ h.dbl
    obtain ⟨h1, h2⟩ := hw.1.redOf
    obtain ⟨h3, h4⟩ := h2.redOf
    rw [bal_two _ _ _ _ _ _ hc]
    exact (h1.black h3).red (h4.black hb) (by simp [top]) (by simp [top])
  have ka := hw.1.rb ha
  rcases dbl_right b with ⟨y, c, z, r, s, rfl⟩ | ⟨y, z, r, s, d, rfl, hd⟩ | hb
  · obtain ⟨h1, h2⟩ := hw.2.redOf
    obtain ⟨h3, h4⟩ := h2.redOf
    rw [bal_three _ _ _ _ _ _ ha]
    exact (ka.black h1).red (h3.black h4) (by simp [top]) (by simp [top])
  · obtain ⟨h1, h2⟩ := hw.2.redOf
    obtain ⟨h3, h4⟩ := h1.redOf
    rw [bal_four _ _ _ _ _ ha hd]
    exact (ka.black h3).red (h4.black h2) (by simp [top]) (by simp [top])
  · rw [bal_five _ ha hb]
    exact ka.black (hw.2.rb hb)

/-! ### a number is put -/
def put (x : Int) : Tr → Tr
  | .nil => .node x 1 .nil .nil
  | .node y m l r => if x < y then (if m = 1 then .node y 1 (put x l) r else bal y (put x l) r) else (if m = 1 then .node y 1 l (put x r) else bal y l (put x r))
theorem put_keys {x : Int} : ∀ {t : Tr}, Asc (keys t) → x ∉ keys t → keys (put x t) = ins x (keys t)
  | .nil, _, _ => rfl
  | .node y m l r, ha, hx => by
    simp only [keys] at ha hx ⊢
    obtain ⟨hal, har, -, -⟩ := asc_node.1 ha
    have hxl : x ∉ keys l := fun h => hx (by simp [h])
    have hxr : x ∉ keys r := fun h => hx (by simp [h])
    have hxy : y ≠ x := fun h => hx (by simp [h])
    unfold put
    by_cases hlt : x < y
    · rw [if_pos hlt, ins_left ha hlt]
      split
      · simp only [keys, put_keys hal hxl]
      · rw [bal_keys, put_keys hal hxl]
    · rw [if_neg hlt, ins_right ha (by omega)]
      split
      · simp only [keys, put_keys har hxr]
      · rw [bal_keys, put_keys har hxr]
theorem put_rb (x : Int) : ∀ {t : Tr} {n : Nat}, Rb t n → Wk (put x t) n ∧ (top t ≠ 1 → Rb (put x t) n ∨ t = .nil)
  | .nil, n, h => by
    obtain rfl : n = 0 := h
    exact ⟨⟨.inr rfl, 0, rfl, rfl, rfl⟩, fun _ => .inr rfl⟩
  | .node y m l r, n, ⟨hm, k, e, hl, hr, hc⟩ => by
    obtain ⟨wl, bl⟩ := put_rb x hl
    obtain ⟨wr, br⟩ := put_rb x hr
    subst e
    have hnil : Rb (.node x 1 .nil .nil) 0 := ⟨.inr rfl, 0, rfl, rfl, rfl, fun _ => ⟨by simp [top], by simp [top]⟩⟩
    unfold put
    rcases hm with rfl | rfl
    · have hL : Rb (bal y (put x l) r) (k + 1) := bal_rb (.inl ⟨wl, hr⟩)
      have hR : Rb (bal y l (put x r)) (k + 1) := bal_rb (.inr ⟨hl, wr⟩)
      rw [bh_black]
      by_cases hlt : x < y
      · rw [if_pos hlt, if_neg (by simp)]
        exact ⟨hL.wk, fun _ => .inl hL⟩
      · rw [if_neg hlt, if_neg (by simp)]
        exact ⟨hR.wk, fun _ => .inl hR⟩
    · obtain ⟨h1, h2⟩ := hc rfl
      rw [bh_red]
      have hL : Rb (put x l) k := by
        rcases bl h1 with h | rfl
        · exact h
        · obtain rfl : k = 0 := hl
          exact hnil
      have hR : Rb (put x r) k := by
        rcases br h2 with h | rfl
        · exact h
        · obtain rfl : k = 0 := hr
          exact hnil
      by_cases hlt : x < y
      · rw [if_pos hlt, if_pos rfl]
        exact ⟨⟨.inr rfl, k, rfl, hL, hr⟩, fun h => absurd rfl h⟩
      · rw [if_neg hlt, if_pos rfl]
        exact ⟨⟨.inr rfl, k, rfl, hl, hR⟩, fun h => absurd rfl h⟩
theorem put_ne (x : Int) : ∀ (t : Tr), put x t ≠ .nil
  | .nil => by simp [put]
  | .node y m l r => by
    intro h
    have := congrArg keys h
    unfold put at this
    split at this <;> split at this <;> simp [bal_keys, keys] at this

/-! ### a number is dropped -/
def len (t : Tr) : Tr × Bool := if top t = 1 then (paint 0 t, false) else (t, true)
def evn (m : Int) (t : Tr) : Tr × Bool := if m = 1 then (t, false) else len t
/-- droppedLeft, droppedRight, of a short tree a, b -/
def dl (x : Int) (a : Tr) : Int → Tr → Tr × Bool
  | _, .nil => (.nil, false)
  | m, .node y my c d => if my = 1 then (.node y 0 (dl x a 1 c).1 d, (dl x a 1 c).2) else evn m (bal x a (.node y 1 c d))
def dr (x : Int) (b : Tr) : Int → Tr → Tr × Bool
  | _, .nil => (.nil, false)
  | m, .node y my c d => if my = 1 then (.node y 0 c (dr x b 1 d).1, (dr x b 1 d).2) else evn m (bal x (.node y 1 c d) b)
def DL (m x : Int) (a b : Tr) (s : Bool) : Tr × Bool := if s then dl x a m b else (.node x m a b, false)
def DR (m x : Int) (a b : Tr) (s : Bool) : Tr × Bool := if s then dr x b m a else (.node x m a b, false)
def drop : Tr → Int → Tr × Bool
  | .nil, _ => (.nil, false)
  | .node y m l r, x =>
    if x < y then DL m y (drop l x).1 r (drop l x).2
    else if y < x then DR m y l (drop r x).1 (drop r x).2
    else if keys r ≠ [] then DR m ((keys r).headD 0) l (drop r ((keys r).headD 0)).1 (drop r ((keys r).headD 0)).2
    else if m = 1 then (.nil, false)
    else len l

/-- what comes in the place of a tree of a colour and of n black ones -/
def Fit (m : Int) (n : Nat) (t : Tr) : Bool → Prop
  | false => Rb t n ∧ (m ≠ 1 → top t ≠ 1)
  | true => m ≠ 1 ∧ top t ≠ 1 ∧ ∃ k, n = k + 1 ∧ Rb t k
theorem len_fit {t : Tr} {k : Nat} (h : Rb t k) : Fit 0 (k + 1) (len t).1 (len t).2 := by
  unfold len
  split
  · rename_i ht
    obtain ⟨x, l, r, rfl⟩ := top_one ht
    obtain ⟨h1, h2⟩ := h.redOf
    exact ⟨h1.black h2, fun _ => by simp [paint, top]⟩
  · rename_i ht
    exact ⟨by simp, ht, k, rfl, h⟩
theorem len_keys (t : Tr) : keys (len t).1 = keys t := by
  unfold len
  split
  · exact keys_paint 0 t
  · rfl
theorem evn_fit {m : Int} {t : Tr} {k : Nat} (h : Rb t (k + 1)) (hm : m = 0 ∨ m = 1) : Fit m (bh m (k + 1)) (evn m t).1 (evn m t).2 := by
  unfold evn
  rcases hm with rfl | rfl
  · rw [if_neg (by simp)]
    exact len_fit h
  · rw [if_pos rfl]
    exact ⟨h, fun h => absurd rfl h⟩
theorem evn_keys (m : Int) (t : Tr) : keys (evn m t).1 = keys t := by
  unfold evn
  split
  · rfl
  · exact len_keys t
theorem dl_keys {x : Int} {a : Tr} : ∀ {b : Tr} {m : Int} {k : Nat}, Rb b (k + 1) → keys (dl x a m b).1 = keys a ++ x :: keys b
  | .nil, m, k, h => absurd h (by simp [Rb])
  | .node y my c d, m, k, h => by
    unfold dl
    split
    · rename_i hm
      subst hm
      simp only [keys, dl_keys h.redOf.1, List.append_assoc, List.cons_append]
    · rw [evn_keys, bal_keys]; rfl
theorem dr_keys {x : Int} {b : Tr} : ∀ {a : Tr} {m : Int} {k : Nat}, Rb a (k + 1) → keys (dr x b m a).1 = keys a ++ x :: keys b
  | .nil, m, k, h => absurd h (by simp [Rb])
  | .node y my c d, m, k, h => by
    unfold dr
    split
    · rename_i hm
      subst hm
      simp only [keys, dr_keys h.redOf.2, List.append_assoc, List.cons_append]
    · rw [evn_keys, bal_keys]; rfl
theorem dl_fit {x : Int} {a : Tr} {k : Nat} (ha : Rb a k) (hta : top a ≠ 1) : ∀ {b : Tr} {m : Int}, Rb b (k + 1) → (m = 0 ∨ m = 1) → (m = 1 → top b ≠ 1) → Fit m (bh m (k + 1)) (dl x a m b).1 (dl x a m b).2
  | .nil, m, h, _, _ => absurd h (by simp [Rb])
  | .node y my c d, m, h, hm, ht => by
    unfold dl
    by_cases hy : my = 1
    · subst hy
      rw [if_pos rfl]
      have hc := h.redOf
      obtain ⟨-, -, -, -, -, h3⟩ := h
      have h4 := dl_fit (x := x) ha hta hc.1 (.inr rfl) (fun _ => (h3 rfl).1)
      have hm0 : m = 0 := by
        rcases hm with h | h
        · exact h
        · exact absurd rfl (ht h)
      subst hm0
      generalize (dl x a 1 c) = q at *
      obtain ⟨t, s⟩ := q
      cases s with
      | false =>
        obtain ⟨h5, -⟩ := h4
        exact ⟨h5.black hc.2, fun _ => by simp [top]⟩
      | true => exact absurd rfl h4.1
    · rw [if_neg hy]
      have h5 : Wk (.node y 1 c d) k := h.paint1 (show top (.node y my c d) ≠ 1 from hy)
      exact evn_fit (bal_rb (.inr ⟨ha, h5⟩)) hm
theorem dr_fit {x : Int} {b : Tr} {k : Nat} (hb : Rb b k) (htb : top b ≠ 1) : ∀ {a : Tr} {m : Int}, Rb a (k + 1) → (m = 0 ∨ m = 1) → (m = 1 → top a ≠ 1) → Fit m (bh m (k + 1)) (dr x b m a).1 (dr x b m a).2
  | .nil, m, h, _, _ => absurd h (by simp [Rb])
  | .node y my c d, m, h, hm, ht => by
    unfold dr
    by_cases hy : my = 1
    · subst hy
      rw [if_pos rfl]
      have hc := h.redOf
      obtain ⟨-, -, -, -, -, h3⟩ := h
      have h4 := dr_fit (x := x) hb htb hc.2 (.inr rfl) (fun _ => (h3 rfl).2)
      have hm0 : m = 0 := by
        rcases hm with h | h
        · exact h
        · exact absurd rfl (ht h)
      subst hm0
      generalize (dr x b 1 d) = q at *
      obtain ⟨t, s⟩ := q
      cases s with
      | false =>
        obtain ⟨h5, -⟩ := h4
        exact ⟨hc.1.black h5, fun _ => by simp [top]⟩
      | true => exact absurd rfl h4.1
    · rw [if_neg hy]
      have h5 : Wk (.node y 1 c d) k := h.paint1 (show top (.node y my c d) ≠ 1 from hy)
      exact evn_fit (bal_rb (.inl ⟨h5, hb⟩)) hm
/-- what drop asks of the other side, if one side is short -/
def Oth (n : Nat) (s : Bool) : Prop := s = true → ∃ k, n = k + 1
theorem Fit.oth {m : Int} {n : Nat} {t : Tr} : ∀ {s : Bool}, Fit m n t s → Oth n s
  | false, _ => fun h => by simp at h
  | true, ⟨_, _, k, e, _⟩ => fun _ => ⟨k, e⟩
theorem DL_keys {m x : Int} {a b : Tr} {n : Nat} {s : Bool} (hb : Rb b n) (ho : Oth n s) : keys (DL m x a b s).1 = keys a ++ x :: keys b := by
  cases s with
  | false => rfl
  | true =>
    obtain ⟨k, rfl⟩ := ho rfl
    exact dl_keys hb
theorem DR_keys {m x : Int} {a b : Tr} {n : Nat} {s : Bool} (ha : Rb a n) (ho : Oth n s) : keys (DR m x a b s).1 = keys a ++ x :: keys b := by
  cases s with
  | false => rfl
  | true =>
    obtain ⟨k, rfl⟩ := ho rfl
    exact dr_keys ha
theorem DL_fit {m x : Int} {l a b : Tr} {n : Nat} {s : Bool} (hf : Fit (top l) n a s) (hb : Rb b n) (hm : m = 0 ∨ m = 1) (hc : m = 1 → top l ≠ 1 ∧ top b ≠ 1) : Fit m (bh m n) (DL m x a b s).1 (DL m x a b s).2 := by
  cases s with
  | false =>
    obtain ⟨h1, h2⟩ := hf
    exact ⟨⟨hm, n, rfl, h1, hb, fun h => ⟨h2 (hc h).1, (hc h).2⟩⟩, fun h => h⟩
  | true =>
    obtain ⟨-, h2, k, rfl, h3⟩ := hf
    exact dl_fit h3 h2 hb hm fun h => (hc h).2
theorem DR_fit {m x : Int} {r a b : Tr} {n : Nat} {s : Bool} (hf : Fit (top r) n b s) (ha : Rb a n) (hm : m = 0 ∨ m = 1) (hc : m = 1 → top a ≠ 1 ∧ top r ≠ 1) : Fit m (bh m n) (DR m x a b s).1 (DR m x a b s).2 := by
  cases s with
  | false =>
    obtain ⟨h1, h2⟩ := hf
    exact ⟨⟨hm, n, rfl, ha, h1, fun h => ⟨(hc h).1, h2 (hc h).2⟩⟩, fun h => h⟩
  | true =>
    obtain ⟨-, h2, k, rfl, h3⟩ := hf
    exact dr_fit h3 h2 ha hm fun h => (hc h).1
theorem drop_fit : ∀ {t : Tr} {n : Nat} {x : Int}, Rb t n → Asc (keys t) → x ∈ keys t → Fit (top t) n (drop t x).1 (drop t x).2 ∧ keys (drop t x).1 = del x (keys t)
  | .nil, _, _, _, _, hx => by simp [keys] at hx
  | .node y m l r, n, x, ⟨hm, k, e, hl, hr, hc⟩, ha, hx => by
    simp only [keys] at ha hx ⊢
    obtain ⟨hal, har, -, -⟩ := asc_node.1 ha
    subst e
    unfold drop
    by_cases hlt : x < y
    · obtain ⟨h1, h2⟩ := drop_fit hl hal ((sch.mem_left ha hlt).1 hx)
      rw [if_pos hlt]
      exact ⟨DL_fit h1 hr hm hc, by rw [DL_keys hr h1.oth, h2, del_left ha hlt]⟩
    by_cases hgt' : y < x
    · obtain ⟨h1, h2⟩ := drop_fit hr har ((sch.mem_right ha hgt').1 hx)
      rw [if_neg hlt, if_pos hgt']
      exact ⟨DR_fit h1 hl hm hc, by rw [DR_keys hl h1.oth, h2, del_right ha hgt']⟩
    obtain rfl : x = y := by omega
    rw [if_neg hlt, if_neg hlt, del_mid ha]
    cases hz : keys r with
    | cons z tl =>
      have hdz : del z (keys r) = tl := by
        have := del_mid (x := z) (a := []) (b := tl) (by rw [List.nil_append, ← hz]; exact har)
        rw [List.nil_append] at this
        rw [hz, this]
        rfl
      obtain ⟨h1, h2⟩ := drop_fit (x := z) hr har (by rw [hz]; simp)
      rw [if_pos (by simp)]
      simp only [List.headD_cons]
      exact ⟨DR_fit h1 hl hm hc, by rw [DR_keys hl h1.oth, h2, hdz]⟩
    | nil =>
      have hn : r = .nil := by
        rcases r with _ | ⟨_, _, _, _⟩
        · rfl
        · simp [keys] at hz
      subst hn
      obtain rfl : k = 0 := hr
      rw [if_neg (by simp)]
      rcases hm with rfl | rfl
      · rw [if_neg (by simp)]
        exact ⟨len_fit hl, by rw [len_keys]; simp⟩
      · rw [if_pos rfl]
        have hn : l = .nil := hl.none (hc rfl).1
        subst hn
        exact ⟨⟨rfl, fun h => by simp [top]⟩, by simp [keys]⟩

/-- what a set's tree is -/
def Ok (t : Tr) : Prop := (∃ n, Rb t n) ∧ top t ≠ 1
theorem Ok.nil : Ok .nil := ⟨⟨0, rfl⟩, by simp [top]⟩
theorem Ok.put {t : Tr} (x : Int) (h : Ok t) : Ok (paint 0 (put x t)) := by
  obtain ⟨⟨n, hn⟩, -⟩ := h
  exact ⟨(put_rb x hn).1.paint0, top_paint0 _⟩
theorem Ok.drop {t : Tr} {x : Int} (h : Ok t) (ha : Asc (keys t)) (hx : x ∈ keys t) : Ok (drop t x).1 := by
  obtain ⟨⟨n, hn⟩, ht⟩ := h
  obtain ⟨h1, -⟩ := drop_fit hn ha hx
  generalize red.drop t x = q at *
  obtain ⟨t', s⟩ := q
  cases s with
  | false => exact ⟨⟨n, h1.1⟩, h1.2 ht⟩
  | true =>
    obtain ⟨-, h2, k, -, h3⟩ := h1
    exact ⟨⟨k, h3⟩, h2⟩

/-! ### a tree of a list -/
/-- so many numbers, so many full rows -/
def Rows (n k : Nat) : Prop := 2 ^ k ≤ n + 1 ∧ n + 1 < 2 ^ (k + 1) + 1
end Go.Proofs.Ytlaflhnnddfkkaa.red
