/- A region that draws its order, walked once in the order of the text, each operation in whatever world it comes to: what an operation leaves is a value known ahead, or one of which something is known that stays. -/
import Derived.StillTail
import Derived.StillTailTactics
import Derived.Test.YtfbeiimmcemniaaHeap
import Derived.Lib.Hide
import Derived.Below
namespace Go.Proofs.Ytfbeiimmcemniaa.rel
open Go

/-- what an operation of the region leaves: this very value; or some value of which this holds -/
inductive Kind where
  | val (v : Value)
  | rel (φ : Value → World → Prop)

def Kind.post : Kind → Value → World → Prop
  | .val v => fun u _ => u = v
  | .rel φ => φ
def Kind.pick : Kind → Value → Value
  | .val v => fun _ => v
  | .rel _ => fun u => u
def Kind.facts : Kind → Nat → Value → List (Nat × (World → Prop)) → List (Nat × (World → Prop))
  | .val _, _, _, F => F
  | .rel φ, d, u, F => (d, φ u) :: F

def slot (a : Act) : Option Tmp → Value
  | some d => a.tmps.getD d undef
  | none => undef

/-- what is known of the slots that the operation looks at -/
def HoldsF (ops : Array Oper) (o : Oper) (F : List (Nat × (World → Prop))) (w : World) : Prop := ∀ f ∈ F, f.1 ∈ o.looksAt ops → f.2 w
theorem HoldsF.get {ops : Array Oper} {o : Oper} {F : List (Nat × (World → Prop))} {w : World} (h : HoldsF ops o F w) (i : Nat) {f : Nat × (World → Prop)} (hi : F[i]? = some f) (hl : (o.looksAt ops).contains f.1 = true) : f.2 w :=
  h f (List.mem_of_getElem? hi) (by simpa using hl)

section
variable (P : Program) (ops : Array Oper) (C : World → Prop) (X : World → World → Prop)

def post (o : Oper) (w : World) (k : Kind) (ds : List Deferred) : Exit → Act → World → Prop
  | .normal, a', w' => C w' ∧ X w w' ∧ k.post (slot a' o.dst) w' ∧ a'.defers = ds
  | _, _, _ => False

/-- one operation, in every world of the class in which the facts on its slots hold -/
def One (F : List (Nat × (World → Prop))) (o : Oper) (k : Kind) (a : Act) : Prop := ∀ w, C w → HoldsF ops o F w → wpList P ops (post C X o w k a.defers) [o] a w

def Walk (R : List (Nat × (World → Prop)) → Act → Prop) : List Oper → List Kind → List (Nat × (World → Prop)) → Act → Prop
  | [], [], F, a => R F a
  | o :: l, .val v :: ks, F, a => One P ops C X F o (.val v) a ∧ Walk R l ks F (a.put o.dst v)
  | o :: l, .rel φ :: ks, F, a => One P ops C X F o (.rel φ) a ∧ (∃ d, o.dst = some d) ∧ (∀ u w w', X w w' → φ u w → φ u w') ∧ ∀ u w, C w → φ u w → Walk R l ks ((o.dst.getD 0, φ u) :: F) (a.put o.dst u)
  | _, _, _, _ => False

def frameAt (U : Nat → Value) : Nat → List Oper → List Kind → Nat → Act → Act
  | b, o :: l, k :: ks, i + 1, a => frameAt U (b + 1) l ks i (a.put o.dst (k.pick (U b)))
  | _, _, _, _, a => a
def factsAt (U : Nat → Value) : Nat → List Oper → List Kind → Nat → List (Nat × (World → Prop)) → List (Nat × (World → Prop))
  | b, o :: l, k :: ks, i + 1, F => factsAt U (b + 1) l ks i (k.facts (o.dst.getD 0) (U b) F)
  | _, _, _, _, F => F
end

section
variable {P : Program} {ops : Array Oper} {C : World → Prop} {X : World → World → Prop} {R : List (Nat × (World → Prop)) → Act → Prop}

theorem walk_nil {F : List (Nat × (World → Prop))} {a : Act} (h : R F a) : Walk P ops C X R [] [] F a := h
theorem walk_val {o : Oper} {l : List Oper} {v : Value} {ks : List Kind} {F : List (Nat × (World → Prop))} {a : Act} (h1 : One P ops C X F o (.val v) a) (h2 : Walk P ops C X R l ks F (a.put o.dst v)) : Walk P ops C X R (o :: l) (.val v :: ks) F a := ⟨h1, h2⟩
theorem walk_rel (φ : Value → World → Prop) {o : Oper} {l : List Oper} {ks : List Kind} {F : List (Nat × (World → Prop))} {a : Act} (hd : ∃ d, o.dst = some d) (hs : ∀ u w w', X w w' → φ u w → φ u w')
    (h1 : One P ops C X F o (.rel φ) a) (h2 : ∀ u w, C w → φ u w → Walk P ops C X R l ks ((o.dst.getD 0, φ u) :: F) (a.put o.dst u)) : Walk P ops C X R (o :: l) (.rel φ :: ks) F a := ⟨h1, hd, hs, h2⟩

theorem frame_size (U : Nat → Value) : ∀ (l : List Oper) (b : Nat) (ks : List Kind) (i : Nat) (a : Act), (frameAt U b l ks i a).tmps.size = a.tmps.size ∧ (frameAt U b l ks i a).defers = a.defers := by
  intro l
  induction l with
  | nil => intro b ks i a; simp [frameAt]
  | cons o l ih =>
    intro b ks i a
    cases ks with
    | nil => simp [frameAt]
    | cons k ks =>
      cases i with
      | zero => simp [frameAt]
      | succ i =>
        simp only [frameAt]
        have := ih (b + 1) ks i (a.put o.dst (k.pick (U b)))
        rw [this.1, this.2]
        cases o.dst <;> simp [Act.put]

theorem put_ne (a : Act) {d : Option Tmp} {t : Nat} (v : Value) (h : d ≠ some t) : (a.put d v).tmps[t]? = a.tmps[t]? := by
  cases d with
  | none => rfl
  | some d =>
    have : d ≠ t := fun e => h (by rw [e])
    simp [Act.put, Array.getElem?_setIfInBounds_ne this]
theorem put_same (a : Act) {t : Nat} (v : Value) (h : t < a.tmps.size) : (a.put (some t) v).tmps[t]? = some v := by
  simp [Act.put, h]

/-- a slot that none of them leaves -/
theorem frame_other (U : Nat → Value) {t : Nat} : ∀ (l : List Oper) (b : Nat) (ks : List Kind) (i : Nat) (a : Act), (∀ j o, j < i → l[j]? = some o → o.dst ≠ some t) → (frameAt U b l ks i a).tmps[t]? = a.tmps[t]? := by
  intro l
  induction l with
  | nil => intro b ks i a _; simp [frameAt]
  | cons o l ih =>
    intro b ks i a h
    cases ks with
    | nil => simp [frameAt]
    | cons k ks =>
      cases i with
      | zero => simp [frameAt]
      | succ i =>
        simp only [frameAt]
        rw [ih (b + 1) ks i _ (fun j o' hj ho => h (j + 1) o' (by omega) (by simpa using ho)), put_ne _ _ (h 0 o (by omega) rfl)]

/-- a slot that one of them leaves, and no other one -/
theorem frame_slot (U : Nat → Value) {t : Nat} : ∀ (l : List Oper) (b : Nat) (ks : List Kind) (i : Nat) (a : Act) (j : Nat) (o : Oper) (k : Kind), j < i → l[j]? = some o → ks[j]? = some k → o.dst = some t → t < a.tmps.size →
    (∀ j' o', j' ≠ j → l[j']? = some o' → o'.dst ≠ some t) → (frameAt U b l ks i a).tmps[t]? = some (k.pick (U (b + j))) := by
  intro l
  induction l with
  | nil => intro b ks i a j o k _ h; simp at h
  | cons o0 l ih =>
    intro b ks i a j o k hj ho hk hd ht hne
    cases ks with
    | nil => simp at hk
    | cons k0 ks =>
      cases i with
      | zero => omega
      | succ i =>
        simp only [frameAt]
        cases j with
        | zero =>
          obtain rfl : o0 = o := by simpa using ho
          obtain rfl : k0 = k := by simpa using hk
          rw [frame_other U l (b + 1) ks i _ (fun j' o' _ ho' => hne (j' + 1) o' (by omega) (by simpa using ho')), hd, put_same _ _ ht]
          rfl
        | succ j =>
          have := ih (b + 1) ks i (a.put o0.dst (k0.pick (U b))) j o k (by omega) (by simpa using ho) (by simpa using hk) hd (by cases o0.dst <;> simpa [Act.put] using ht) (fun j' o' hj' ho' => hne (j' + 1) o' (by omega) (by simpa using ho'))
          rw [this, show b + 1 + j = b + (j + 1) by omega]

theorem facts_mem (U : Nat → Value) {f : Nat × (World → Prop)} : ∀ (l : List Oper) (b : Nat) (ks : List Kind) (i : Nat) (F : List (Nat × (World → Prop))), f ∈ factsAt U b l ks i F →
    f ∈ F ∨ ∃ j o φ, j < i ∧ l[j]? = some o ∧ ks[j]? = some (.rel φ) ∧ f = (o.dst.getD 0, φ (U (b + j))) := by
  intro l
  induction l with
  | nil => intro b ks i F h; exact .inl (by simpa [factsAt] using h)
  | cons o l ih =>
    intro b ks i F h
    cases ks with
    | nil => exact .inl (by simpa [factsAt] using h)
    | cons k ks =>
      cases i with
      | zero => exact .inl (by simpa [factsAt] using h)
      | succ i =>
        simp only [factsAt] at h
        rcases ih (b + 1) ks i _ h with h | ⟨j, o', φ, hj, ho, hk, rfl⟩
        · cases k with
          | val v => exact .inl h
          | rel φ =>
            rcases List.mem_cons.1 h with rfl | h
            · exact .inr ⟨0, o, φ, by omega, rfl, rfl, rfl⟩
            · exact .inl h
        · exact .inr ⟨j + 1, o', φ, by omega, by simpa using ho, by simpa using hk, by rw [show b + 1 + j = b + (j + 1) by omega]⟩

/-- values that may be left -/
def Fit (C : World → Prop) (U : Nat → Value) (b : Nat) (ks : List Kind) : Prop := ∀ (j : Nat) (φ : Value → World → Prop), ks[j]? = some (Kind.rel φ) → ∃ w, C w ∧ φ (U (b + j)) w

/-- what the walk says of each operation, and of the end -/
theorem walk_at (U : Nat → Value) : ∀ (l : List Oper) (b : Nat) (ks : List Kind) (F : List (Nat × (World → Prop))) (a : Act), Walk P ops C X R l ks F a → Fit C U b ks →
    (∀ i o, l[i]? = some o → ∃ k, ks[i]? = some k ∧ One P ops C X (factsAt U b l ks i F) o k (frameAt U b l ks i a) ∧ ∀ φ, k = .rel φ → (∃ d, o.dst = some d) ∧ ∀ u w w', X w w' → φ u w → φ u w') ∧
    R (factsAt U b l ks l.length F) (frameAt U b l ks l.length a) := by
  intro l
  induction l with
  | nil =>
    intro b ks F a h _
    cases ks with
    | nil => exact ⟨by simp, h⟩
    | cons k ks => exact h.elim
  | cons o l ih =>
    intro b ks F a h hU
    cases ks with
    | nil => exact h.elim
    | cons k ks =>
      have hU' : Fit C U (b + 1) ks := fun j φ hj => by
        have := hU (j + 1) φ (by simpa using hj)
        rwa [show b + (j + 1) = b + 1 + j by omega] at this
      cases k with
      | val v =>
        obtain ⟨h1, h2⟩ := h
        obtain ⟨g1, g2⟩ := ih (b + 1) ks F _ h2 hU'
        refine ⟨fun i o' hi => ?_, g2⟩
        cases i with
        | zero =>
          obtain rfl : o = o' := by simpa using hi
          exact ⟨.val v, rfl, h1, fun φ hφ => by cases hφ⟩
        | succ i => exact g1 i o' (by simpa using hi)
      | rel φ =>
        obtain ⟨h1, hd, hs, h2⟩ := h
        obtain ⟨w, hw, hφ⟩ := hU 0 φ rfl
        obtain ⟨g1, g2⟩ := ih (b + 1) ks _ _ (h2 (U b) w hw hφ) hU'
        refine ⟨fun i o' hi => ?_, g2⟩
        cases i with
        | zero =>
          obtain rfl : o = o' := by simpa using hi
          exact ⟨.rel φ, rfl, h1, fun φ' hφ' => by cases hφ'; exact ⟨hd, hs⟩⟩
        | succ i => exact g1 i o' (by simpa using hi)

/-- an operation that is shown to end well leaves something -/
theorem One.gives {F : List (Nat × (World → Prop))} {o : Oper} {k : Kind} {a : Act} {w : World} (h : One P ops C X F o k a) (hC : C w) (hF : HoldsF ops o F w) : ∃ v w', C w' ∧ X w w' ∧ k.post v w' := by
  have h := h w hC hF
  unfold wpList at h
  split at h
  · rcases h with h | ⟨_, _, _, h⟩
    · unfold Oper.wp at h
      generalize (execOp a.eval o).run P w = r at h
      cases r with
      | ok n w' =>
        cases n <;> simp only [Oper.upon] at h
        case value u => exact ⟨_, _, h.1, h.2.1, h.2.2.1⟩
        case skip => exact ⟨_, _, h.1, h.2.1, h.2.2.1⟩
        case defer d => exact ⟨_, _, h.1, h.2.1, h.2.2.1⟩
        case enter f args =>
          obtain ⟨e, w'', fr, h, _⟩ := h []
          cases e with
          | returned v => exact ⟨_, _, h.1, h.2.1, h.2.2.1⟩
          | panicked c => exact h.elim
          | outgrown => obtain ⟨_, _, h⟩ := h; exact h.elim
        case row row args =>
          obtain ⟨v, w'', h, _⟩ := h default []
          exact ⟨_, _, h.1, h.2.1, h.2.2.1⟩
      | halt x w' =>
        cases x <;> simp only [Oper.upon] at h
        case panic u => exact h.elim
    · exact h.elim
  · exact ⟨_, _, h.1, h.2.1, h.2.2.1⟩

theorem walk_fit : ∀ (l : List Oper) (b : Nat) (ks : List Kind) (F : List (Nat × (World → Prop))) (a : Act) (w : World), Walk P ops C X R l ks F a → (∀ f ∈ F, ∀ w w', X w w' → f.2 w → f.2 w') → C w → (∀ f ∈ F, f.2 w) →
    ∃ U, Fit C U b ks := by
  intro l
  induction l with
  | nil =>
    intro b ks F a w h _ _ _
    cases ks with
    | nil => exact ⟨fun _ => undef, fun j φ hj => by simp at hj⟩
    | cons k ks => exact h.elim
  | cons o l ih =>
    intro b ks F a w h hs hC hF
    cases ks with
    | nil => exact h.elim
    | cons k ks =>
      cases k with
      | val v =>
        obtain ⟨h1, h2⟩ := h
        obtain ⟨_, w', hC', hX, _⟩ := h1.gives hC (fun f hf _ => hF f hf)
        obtain ⟨U, hU⟩ := ih (b + 1) ks F _ w' h2 hs hC' (fun f hf => hs f hf w w' hX (hF f hf))
        refine ⟨U, fun j φ hj => ?_⟩
        cases j with
        | zero => simp at hj
        | succ j =>
          have := hU j φ (by simpa using hj)
          rwa [show b + 1 + j = b + (j + 1) by omega] at this
      | rel φ =>
        obtain ⟨h1, hd, hst, h2⟩ := h
        obtain ⟨v, w', hC', hX, hφ⟩ := h1.gives hC (fun f hf _ => hF f hf)
        obtain ⟨U, hU⟩ := ih (b + 1) ks _ _ w' (h2 v w' hC' hφ) (fun f hf => by
          rcases List.mem_cons.1 hf with rfl | hf
          · exact hst v
          · exact hs f hf) hC' (fun f hf => by
          rcases List.mem_cons.1 hf with rfl | hf
          · exact hφ
          · exact hs f hf w w' hX (hF f hf))
        refine ⟨fun m => if m = b then v else U m, fun j φ' hj => ?_⟩
        cases j with
        | zero =>
          obtain rfl : φ = φ' := by simpa using hj
          exact ⟨w', hC', by simpa [Kind.post] using hφ⟩
        | succ j =>
          obtain ⟨w2, hw2, h3⟩ := hU j φ' (by simpa using hj)
          refine ⟨w2, hw2, ?_⟩
          show φ' (if b + (j + 1) = b then v else U (b + (j + 1))) w2
          rw [if_neg (by omega), show b + (j + 1) = b + 1 + j by omega]
          exact h3

/-- what the walk says of an operation holds where it comes up: it sees the same slots -/
theorem One.run {F : List (Nat × (World → Prop))} {o : Oper} {k : Kind} {b : Act} {w : World} (h : One P ops C X F o k b) (hC : C w) (hF : HoldsF ops o F w) {i : Nat} (hi : ops[i]? = some o) (a : Act)
    (hag : ∀ t ∈ o.looksAt ops, a.tmps[t]? = b.tmps[t]?) (hsel : ∀ cs b, o.op ≠ .select cs b) (hsz : ∀ d, o.dst = some d → d < b.tmps.size) {K : Act → World → Prop} {Q' : Exit → Act → World → Prop}
    (hK : ∀ v w', C w' → X w w' → (∀ d, o.dst = some d → k.post v w') → K (a.put o.dst v) w') : wpOp P ops Q' i K a w := by
  have he : execOp a.eval o = execOp b.eval o := execOp_congr o hsel fun x hx => by
    cases x with
    | tmp t =>
      have := hag t (List.mem_append_left _ (List.mem_filterMap.2 ⟨.tmp t, by simpa using hx, rfl⟩))
      simp [Act.eval, this]
    | _ => rfl
  have hy : Region.wanted o (yielded ops a.tmps) = Region.wanted o (yielded ops b.tmps) := by
    unfold Region.wanted
    cases hg : o.guard with
    | none => rfl
    | some gw =>
      obtain ⟨g, want⟩ := gw
      have : yielded ops a.tmps g = yielded ops b.tmps g := by
        unfold yielded
        cases ht : (ops[g]?).bind (·.dst) with
        | none => rfl
        | some t =>
          have := hag t (by simp [Oper.looksAt, hg, ht])
          simp [this]
      simp only [this]
  have hgo : ∀ u w', post C X o w k b.defers .normal (b.put o.dst u) w' → K (a.put o.dst u) w' := fun u w' hp => hK u w' hp.1 hp.2.1 fun d hd => by
    have h3 := hp.2.2.1
    rw [hd] at h3
    simpa [slot, Act.put, hsz d hd] using h3
  have h := h w hC hF
  unfold wpList at h
  unfold wpOp
  simp only [hi]
  rw [hy]
  split at h
  · rename_i hw
    rw [if_pos hw]
    rcases h with h | ⟨_, _, _, h⟩
    · left
      unfold Oper.wp at *
      rw [he]
      generalize (execOp b.eval o).run P w = r at h
      cases r with
      | ok n w' =>
        cases n <;> simp only [Oper.upon] at h ⊢
        case value u => exact hgo _ _ h
        case skip => exact hgo _ _ h
        case defer d =>
          have := h.2.2.2
          have h4 : (({ b with defers := d :: b.defers } : Act).put o.dst undef).defers = d :: b.defers := by cases o.dst <;> rfl
          rw [h4] at this
          have := congrArg List.length this
          simp at this
        case enter f args =>
          refine Calls.mono h fun e w'' he => ?_
          cases e with
          | returned u => exact hgo _ _ he
          | panicked c => exact he.elim
          | outgrown => obtain ⟨_, _, h⟩ := he; exact h.elim
        case row row args => exact Rows.mono h fun u w'' he => hgo _ _ he
      | halt x w' =>
        cases x <;> simp only [Oper.upon] at h
        case panic u => exact h.elim
    · exact h.elim
  · rename_i hw
    rw [if_neg hw]
    exact hgo _ _ h
end

/-- how many of the first n are not listed -/
def cnt (listed : Array Bool) : Nat → Nat
  | 0 => 0
  | n + 1 => cnt listed n + if listed.getD n true = false then 1 else 0

theorem cnt_far {listed : Array Bool} {i : Nat} : ∀ n, n ≤ i → cnt (listed.setIfInBounds i true) n = cnt listed n := by
  intro n
  induction n with
  | zero => intro _; rfl
  | succ n ih => intro h; simp only [cnt]; rw [ih (by omega), getD_set_ne true (by omega)]
theorem cnt_set {listed : Array Bool} {i : Nat} (hun : listed.getD i true = false) : ∀ n, i < n → cnt (listed.setIfInBounds i true) n + 1 = cnt listed n := by
  intro n
  induction n with
  | zero => intro h; omega
  | succ n ih =>
    intro h
    simp only [cnt]
    by_cases hin : i = n
    · subst hin
      have hlt : i < listed.size := by
        rcases Nat.lt_or_ge i listed.size with h' | h'
        · exact h'
        · simp [Array.getElem?_eq_none h'] at hun
      have : (listed.setIfInBounds i true).getD i true = true := by simp [hlt]
      rw [cnt_far i (Nat.le_refl _), if_pos hun, this]
      simp
    · rw [getD_set_ne true hin]
      have := ih (by omega)
      omega
theorem cnt_zero {listed : Array Bool} : ∀ n, cnt listed n = 0 → ∀ i, i < n → listed.getD i true = true := by
  intro n
  induction n with
  | zero => intro _ i h; omega
  | succ n ih =>
    intro h i hi
    simp only [cnt] at h
    by_cases hin : i = n
    · subst hin
      cases hv : listed.getD i true with
      | true => rfl
      | false => rw [hv] at h; simp at h
    · exact ih (by omega) i (by omega)
theorem cnt_pos {listed : Array Bool} : ∀ n, cnt listed n ≠ 0 → ∃ i, i < n ∧ listed.getD i true = false := by
  intro n
  induction n with
  | zero => intro h; exact absurd rfl h
  | succ n ih =>
    intro h
    simp only [cnt] at h
    cases hv : listed.getD n true with
    | false => exact ⟨n, by omega, hv⟩
    | true =>
      rw [hv] at h
      obtain ⟨i, hi, h2⟩ := ih (by simpa using h)
      exact ⟨i, by omega, h2⟩
theorem cnt_none (m : Nat) : ∀ n, n ≤ m → cnt (Array.replicate m false) n = n := by
  intro n
  induction n with
  | zero => intro _; rfl
  | succ n ih => intro h; simp only [cnt]; rw [ih (by omega)]; simp [show n < m by omega]

def pairB (ops : Array Oper) (i j : Nat) : Bool :=
  match ops[i]?, ops[j]? with
  | some oi, some oj => match oj.dst with
    | none => true
    | some d => i == j || (oi.dst != some d && (!(oi.looksAt ops).contains d || (decide (j < i) && Region.waitsFor .any ops i j) || (decide (i < j) && Region.waitsFor .any ops j i)))
  | _, _ => true
def backB (ops : Array Oper) (i : Nat) : Bool := ((ops[i]?).map fun o => o.after.all fun e => !Region.binds .any e || decide (e.on < i)).getD true
/-- what is asked of the first n operations: each looks at what it waits for, or at what waits for it -/
def headB (ops : Array Oper) (n : Nat) : Bool :=
  Region.noSelect ops && (List.range n).all fun i => backB ops i && (List.range n).all fun j => pairB ops i j
def sizeB (ops : Array Oper) (n m : Nat) : Bool := (List.range n).all fun i => match (ops[i]?).bind (·.dst) with
  | some d => decide (d < m)
  | none => true

section
variable {P : Program} {ops : Array Oper} {C : World → Prop} {X : World → World → Prop} {R : List (Nat × (World → Prop)) → Act → Prop}

theorem pairB_spec {i j d : Nat} {oi oj : Oper} (h : pairB ops i j = true) (hi : ops[i]? = some oi) (hj : ops[j]? = some oj) (hd : oj.dst = some d) (hij : i ≠ j) :
    oi.dst ≠ some d ∧ (d ∈ oi.looksAt ops → (j < i ∧ Region.waitsFor .any ops i j = true) ∨ (i < j ∧ Region.waitsFor .any ops j i = true)) := by
  unfold pairB at h
  simp only [hi, hj, hd, Bool.or_eq_true, Bool.and_eq_true, beq_iff_eq, decide_eq_true_eq, bne_iff_ne, ne_eq, Bool.not_eq_true', List.contains_eq_mem] at h
  rcases h with h | ⟨h1, h2⟩
  · exact absurd h hij
  · refine ⟨h1, fun hd' => ?_⟩
    rcases h2 with (h2 | h2) | h2
    · exact absurd hd' (by simpa using h2)
    · exact .inl h2
    · exact .inr h2

/-- where the region stands: some of the first n operations are done -/
structure J (P : Program) (ops : Array Oper) (C : World → Prop) (n : Nat) (ks : List Kind) (a0 : Act) (listed : Array Bool) (a : Act) (w : World) : Prop where
  inv : HeadInv .any ops n listed
  size : a.tmps.size = a0.tmps.size
  defers : a.defers = a0.defers
  other : ∀ t, (∀ j o, j < n → ops[j]? = some o → listed.getD j false = true → o.dst ≠ some t) → a.tmps[t]? = a0.tmps[t]?
  world : C w
  done : ∀ j o d k, j < n → ops[j]? = some o → ks[j]? = some k → listed.getD j false = true → o.dst = some d → k.post (a.tmps.getD d undef) w

theorem listed_both {listed : Array Bool} {i : Nat} (h : listed.getD i false = true) : listed.getD i true = true := by
  rcases Nat.lt_or_ge i listed.size with h' | h'
  · simp [h'] at h ⊢; exact h
  · simp [Array.getElem?_eq_none h'] at h

theorem rel_any {n g : Nat} {l : List Oper} {ks : List Kind} {a0 : Act} (hl : ∀ j, j < n → l[j]? = ops[j]?) (hln : l.length = n) (hn : n ≤ ops.size) (hB : headB ops n = true) (hsz : sizeB ops n a0.tmps.size = true)
    (hW : Walk P ops C X R l ks [] a0) (U0 : Nat → Value) (hU0 : Fit C U0 0 ks)
    (hwait : ∀ listed, HeadInv .any ops n listed → ∀ i, i < n → listed.getD i true = false → ∀ t, n ≤ t → t ∉ Region.ready .any ops listed) {Q' : Exit → Act → World → Prop}
    (hend : ∀ listed F a w, HeadInv .any ops n listed → (∀ i, i < n → listed.getD i true = true) → R F a → (∀ f ∈ F, f.2 w) → C w → wpAny P .any ops Q' g listed a w) :
    ∀ (f : Nat) (listed : Array Bool) (a : Act) (w : World), J P ops C n ks a0 listed a w → cnt listed n = f → wpAny P .any ops Q' (f + g) listed a w := by
  simp only [headB, Bool.and_eq_true, List.all_eq_true, List.mem_range] at hB
  obtain ⟨hsel, hB⟩ := hB
  have hsz' : ∀ j o d, j < n → ops[j]? = some o → o.dst = some d → d < a0.tmps.size := fun j o d hj ho hd => by
    have := List.all_eq_true.1 hsz j (List.mem_range.2 hj)
    simpa [ho, hd] using this
  have hg0 := (walk_at U0 l 0 ks [] a0 hW hU0).1
  -- the values that are there
  have hFit : ∀ (listed : Array Bool) (a : Act) (w : World), J P ops C n ks a0 listed a w → ∃ U : Nat → Value, Fit C U 0 ks ∧ ∀ j o d, j < n → ops[j]? = some o → listed.getD j false = true → o.dst = some d → U j = a.tmps.getD d undef := by
    intro listed a w hJ
    refine ⟨fun j => if listed.getD j false = true ∧ j < n then slot a ((ops[j]?).bind (·.dst)) else U0 j, fun j φ hj => ?_, fun j o d hj ho hli hd => ?_⟩
    · by_cases hc : listed.getD j false = true ∧ j < n
      · obtain ⟨o, ho⟩ : ∃ o, ops[j]? = some o := ⟨ops[j]'(by omega), by simp [show j < ops.size by omega]⟩
        obtain ⟨k, hk, _, h3⟩ := hg0 j o (by rw [hl j hc.2]; exact ho)
        have hkφ : k = .rel φ := by rw [hk] at hj; exact Option.some.inj hj
        obtain ⟨⟨d, hd⟩, _⟩ := h3 φ hkφ
        refine ⟨w, hJ.world, ?_⟩
        have := hJ.done j o d k hc.2 ho hk hc.1 hd
        simp only [Nat.zero_add, if_pos hc, ho, Option.bind_some, hd, slot]
        rw [hkφ] at this
        exact this
      · obtain ⟨w, hw, hφ⟩ := hU0 j φ hj
        refine ⟨w, hw, ?_⟩
        simp only [Nat.zero_add] at hφ ⊢
        rw [if_neg hc]
        exact hφ
    · simp only [if_pos (show listed.getD j false = true ∧ j < n from ⟨hli, hj⟩), ho, Option.bind_some, hd, slot]
  intro f
  induction f with
  | zero =>
    intro listed a w hJ hc
    rw [Nat.zero_add]
    have hall := cnt_zero n hc
    have hall' : ∀ i, i < n → listed.getD i false = true := fun i hi => by
      have h1 := hall i hi
      have hlt : i < listed.size := by rw [hJ.inv.size]; omega
      simp [hlt] at h1 ⊢; exact h1
    obtain ⟨U, hU, hUa⟩ := hFit listed a w hJ
    obtain ⟨hg, hR⟩ := walk_at U l 0 ks [] a0 hW hU
    have hfr := frame_size U l 0 ks l.length a0
    have haa : frameAt U 0 l ks l.length a0 = a := by
      have htm : (frameAt U 0 l ks l.length a0).tmps = a.tmps := by
        apply Array.ext_getElem?
        intro t
        by_cases ht : ∃ j o, j < n ∧ ops[j]? = some o ∧ o.dst = some t
        · obtain ⟨j, o, hj, ho, hd⟩ := ht
          obtain ⟨k, hk, _, _⟩ := hg j o (by rw [hl j hj]; exact ho)
          have hts := hsz' j o t hj ho hd
          rw [frame_slot U l 0 ks l.length a0 j o k (by omega) (by rw [hl j hj]; exact ho) hk hd hts (fun j' o' hne ho' => by
            have hj' : j' < n := by
              rw [← hln]
              exact (List.getElem?_eq_some_iff.1 ho').1
            rw [hl j' hj'] at ho'
            exact (pairB_spec ((hB j' hj').2 j hj) ho' ho hd hne).1), Nat.zero_add]
          have h5 := hJ.done j o t k hj ho hk (hall' j hj) hd
          have h6 : a.tmps[t]? = some (a.tmps.getD t undef) := by
            have : t < a.tmps.size := by rw [hJ.size]; exact hts
            simp [this]
          rw [h6]
          cases k with
          | val v => simp only [Kind.pick]; rw [show a.tmps.getD t undef = v from h5]
          | rel φ => simp only [Kind.pick]; rw [hUa j o t hj ho (hall' j hj) hd]
        · rw [frame_other U l 0 ks l.length a0 (fun j o hj ho hd => ht ⟨j, o, by omega, by rw [← hl j (by omega)]; exact ho, hd⟩), hJ.other t (fun j o hj ho _ hd => ht ⟨j, o, hj, ho, hd⟩)]
      cases hF : frameAt U 0 l ks l.length a0 with
      | mk tm df =>
        rw [hF] at htm hfr
        cases a with
        | mk tm' df' =>
          simp only at htm hfr
          have := hJ.defers
          simp only at this
          rw [htm, hfr.2, this]
    rw [haa] at hR
    refine hend listed _ a w hJ.inv hall hR (fun f hf => ?_) hJ.world
    rcases facts_mem U l 0 ks l.length [] hf with hf | ⟨j, o, φ, hj, ho, hk, rfl⟩
    · cases hf
    · have hjn : j < n := by omega
      rw [hl j hjn] at ho
      obtain ⟨k, hk', _, h3⟩ := hg j o (by rw [hl j hjn]; exact ho)
      obtain rfl : k = .rel φ := by rw [hk'] at hk; exact Option.some.inj hk
      obtain ⟨⟨d, hd⟩, _⟩ := h3 φ rfl
      have := hJ.done j o d _ hjn ho hk' (hall' j hjn) hd
      simp only [Nat.zero_add]
      rw [hUa j o d hjn ho (hall' j hjn) hd]
      exact this
  | succ f ih =>
    intro listed a w hJ hc
    rw [show f + 1 + g = (f + g) + 1 by omega]
    have hun := cnt_pos n (by rw [hc]; omega)
    have hne : Region.ready .any ops listed ≠ [] := by
      obtain ⟨i, hi, hu⟩ := hun
      induction i using Nat.strongRecOn with
      | _ i ihi =>
        obtain ⟨o, ho⟩ : ∃ o, ops[i]? = some o := ⟨ops[i]'(by omega), by simp [show i < ops.size by omega]⟩
        by_cases hr : ∀ e ∈ o.after, Region.binds .any e = true → listed.getD e.on false = true
        · intro h0
          have : i ∈ Region.ready .any ops listed := mem_ready.2 ⟨hu, o, ho, hr⟩
          rw [h0] at this
          cases this
        · have : ∃ e ∈ o.after, Region.binds .any e = true ∧ listed.getD e.on false ≠ true := by
            apply Classical.byContradiction
            intro hno
            exact hr fun e he hb => Classical.byContradiction fun hx => hno ⟨e, he, hb, hx⟩
          obtain ⟨e, he, hb, hx⟩ := this
          have hback := (hB i hi).1
          unfold backB at hback
          rw [ho] at hback
          simp only [Option.map_some, Option.getD_some, Array.all_eq_true_iff_forall_mem, Bool.or_eq_true, Bool.not_eq_true', decide_eq_true_eq] at hback
          have hlt : e.on < i := by
            rcases hback e he with h | h
            · rw [hb] at h; cases h
            · exact h
          refine ihi e.on hlt (by omega) (getD_in (by rw [hJ.inv.size]; omega) ?_)
          simpa using hx
    refine ⟨fun h0 => absurd h0 hne, fun i hi => ?_⟩
    have hin : i < n := by
      obtain ⟨j, hj, hu⟩ := hun
      exact (Nat.lt_or_ge i n).resolve_right fun h => hwait listed hJ.inv j hj hu i h hi
    obtain ⟨hui, o, ho, hedge⟩ := mem_ready.1 hi
    have hui' := getD_both hui
    obtain ⟨U, hU, hUa⟩ := hFit listed a w hJ
    obtain ⟨hg, _⟩ := walk_at U l 0 ks [] a0 hW hU
    obtain ⟨k, hk, hone, hrel⟩ := hg i o (by rw [hl i hin]; exact ho)
    -- what it looks at and another one leaves
    have hlook : ∀ t j oj, j < n → ops[j]? = some oj → oj.dst = some t → j ≠ i → t ∈ o.looksAt ops → (j < i ∧ listed.getD j false = true) ∨ (i < j ∧ listed.getD j false ≠ true) := by
      intro t j oj hj hoj hd hji ht
      rcases (pairB_spec ((hB i hin).2 j hj) ho hoj hd (Ne.symm hji)).2 ht with ⟨h1, h2⟩ | ⟨h1, h2⟩
      · obtain ⟨o', ho', e, he, hb, hon⟩ := Region.waitsFor_spec h2
        have : o' = o := Option.some.inj (ho'.symm.trans ho)
        subst this
        have := hedge e he hb
        rw [hon] at this
        exact .inl ⟨h1, this⟩
      · obtain ⟨o', ho', e, he, hb, hon⟩ := Region.waitsFor_spec h2
        have : o' = oj := Option.some.inj (ho'.symm.trans hoj)
        subst this
        refine .inr ⟨h1, fun hlj => ?_⟩
        have := hJ.inv.closed j o' hoj hlj e he hb
        rw [hon, hui'] at this
        cases this
    have hdist : ∀ j j' oj oj' t, j < n → j' < n → ops[j]? = some oj → ops[j']? = some oj' → oj.dst = some t → oj'.dst = some t → j = j' := by
      intro j j' oj oj' t hj hj' hoj hoj' hd hd'
      apply Classical.byContradiction
      intro hne
      exact (pairB_spec ((hB j hj).2 j' hj') hoj hoj' hd' hne).1 hd
    have hag : ∀ t ∈ o.looksAt ops, a.tmps[t]? = (frameAt U 0 l ks i a0).tmps[t]? := by
      intro t ht
      by_cases hw : ∃ j oj, j < n ∧ ops[j]? = some oj ∧ oj.dst = some t ∧ j ≠ i
      · obtain ⟨j, oj, hj, hoj, hd, hji⟩ := hw
        have hts := hsz' j oj t hj hoj hd
        rcases hlook t j oj hj hoj hd hji ht with ⟨h1, h2⟩ | ⟨h1, h2⟩
        · obtain ⟨kj, hkj, _, _⟩ := hg j oj (by rw [hl j hj]; exact hoj)
          rw [frame_slot U l 0 ks i a0 j oj kj h1 (by rw [hl j hj]; exact hoj) hkj hd hts (fun j' o' hne ho' hd' => by
            have hj' : j' < n := by
              rw [← hln]
              exact (List.getElem?_eq_some_iff.1 ho').1
            rw [hl j' hj'] at ho'
            exact hne (hdist j' j o' oj t hj' hj ho' hoj hd' hd)), Nat.zero_add]
          have h5 := hJ.done j oj t kj hj hoj hkj h2 hd
          have h6 : a.tmps[t]? = some (a.tmps.getD t undef) := by
            have : t < a.tmps.size := by rw [hJ.size]; exact hts
            simp [this]
          rw [h6]
          cases kj with
          | val v => simp only [Kind.pick]; rw [show a.tmps.getD t undef = v from h5]
          | rel φ => simp only [Kind.pick]; rw [hUa j oj t hj hoj h2 hd]
        · rw [frame_other U l 0 ks i a0 (fun j' o' hj' ho' hd' => by
            have hj'n : j' < n := by omega
            rw [hl j' hj'n] at ho'
            have := hdist j' j o' oj t hj'n hj ho' hoj hd' hd
            omega), hJ.other t (fun j' o' hj' ho' hl' hd' => by
            have := hdist j' j o' oj t hj' hj ho' hoj hd' hd
            subst this
            exact h2 hl')]
      · have hno : ∀ j oj, j < n → ops[j]? = some oj → oj.dst = some t → j = i := fun j oj hj hoj hd => Classical.byContradiction fun hji => hw ⟨j, oj, hj, hoj, hd, hji⟩
        rw [frame_other U l 0 ks i a0 (fun j' o' hj' ho' hd' => by
            have hj'n : j' < n := by omega
            rw [hl j' hj'n] at ho'
            have := hno j' o' hj'n ho' hd'
            omega), hJ.other t (fun j' o' hj' ho' hl' hd' => by
            have := hno j' o' hj' ho' hd'
            subst this
            rw [hui'] at hl'
            cases hl')]
    have hF : HoldsF ops o (factsAt U 0 l ks i []) w := by
      intro f hf hlk
      rcases facts_mem U l 0 ks i [] hf with hf | ⟨j, oj, φ, hj, hoj, hkj, rfl⟩
      · cases hf
      · have hjn : j < n := by omega
        rw [hl j hjn] at hoj
        obtain ⟨k', hk', _, h3⟩ := hg j oj (by rw [hl j hjn]; exact hoj)
        obtain rfl : k' = .rel φ := by rw [hk'] at hkj; exact Option.some.inj hkj
        obtain ⟨⟨d, hd⟩, _⟩ := h3 φ rfl
        have hlk' : d ∈ o.looksAt ops := by simpa [hd] using hlk
        rcases hlook d j oj hjn hoj hd (by omega) hlk' with ⟨_, h2⟩ | ⟨h1, _⟩
        · have := hJ.done j oj d _ hjn hoj hk' h2 hd
          simp only [Nat.zero_add]
          rw [hUa j oj d hjn hoj h2 hd]
          exact this
        · omega
    refine hone.run hJ.world hF ho a hag (Region.noSelect_spec hsel i o · · ho) (fun d hd => by rw [(frame_size U l 0 ks i a0).1]; exact hsz' i o d hin ho hd) (fun v w' hC' hX hv => ?_)
    refine ih _ _ _ ?_ (by have := cnt_set hui n hin; omega)
    refine ⟨hJ.inv.set hi hin, ?_, ?_, fun t ht => ?_, hC', fun j oj d kj hj hoj hkj hlj hd => ?_⟩
    · rw [← hJ.size]; cases o.dst <;> simp [Act.put]
    · rw [← hJ.defers]; cases o.dst <;> rfl
    · rw [put_ne _ _ (ht i o hin ho (by simp [show i < listed.size by rw [hJ.inv.size]; omega]))]
      exact hJ.other t fun j oj hj hoj hlj => ht j oj hj hoj (getD_set_true hlj)
    · by_cases hij : i = j
      · subst hij
        have : oj = o := Option.some.inj (hoj.symm.trans ho)
        subst this
        have : kj = k := Option.some.inj (hkj.symm.trans hk)
        subst this
        rw [hd]
        have hds : d < a.tmps.size := by rw [hJ.size]; exact hsz' _ _ _ hin ho hd
        have := put_same a v hds
        simp only [Array.getD_eq_getD_getElem?, this, Option.getD_some]
        exact hv d hd
      · rw [getD_set_ne false hij] at hlj
        have h5 := hJ.done j oj d kj hj hoj hkj hlj hd
        have hdd : o.dst ≠ some d := fun hd' => hij (hdist i j o oj d hin hj ho hoj hd' hd)
        simp only [Array.getD_eq_getD_getElem?, put_ne a v hdd]
        simp only [Array.getD_eq_getD_getElem?] at h5
        cases kj with
        | val u => exact h5
        | rel φ =>
          obtain ⟨k', hk', _, h3⟩ := hg j oj (by rw [hl j hj]; exact hoj)
          obtain rfl : k' = .rel φ := by rw [hk'] at hkj; exact Option.some.inj hkj
          exact (h3 φ rfl).2 _ w w' hX h5

theorem J.start {n : Nat} {ks : List Kind} {a : Act} {w : World} (hC : C w) : J P ops C n ks a (Array.replicate ops.size false) a w :=
  ⟨⟨by simp, fun j oj _ hl => (by rw [getD_replicate_false] at hl; cases hl), fun t _ ht => getD_in (by simpa using ht) (getD_replicate_false _ _)⟩, rfl, rfl, fun _ _ => rfl, hC,
    fun j o d k _ _ _ hl => (by rw [getD_replicate_false] at hl; cases hl)⟩

/-- THE WHOLE REGION -/
theorem region_any {Q : Exit → Act → World → Prop} {a : Act} {w : World} {l : List Oper} {ks : List Kind} (hB : headB l.toArray l.length = true)
    (hsz : sizeB l.toArray l.length a.tmps.size = true) (hC : C w) (hW : Walk P l.toArray C X (fun F a' => ∀ w', C w' → (∀ f ∈ F, f.2 w') → Q .normal a' w') l ks [] a) : wpAny P .any l.toArray Q l.toArray.size (Array.replicate l.toArray.size false) a w := by
  obtain ⟨U0, hU0⟩ := walk_fit l 0 ks [] a _ hW (by simp) hC (by simp)
  have := rel_any (ops := l.toArray) (g := 0) (fun j _ => by simp) rfl (by simp) hB hsz hW U0 hU0 (fun listed inv i hi hu t ht hr => by
    obtain ⟨_, o, ho, _⟩ := mem_ready.1 hr
    have := (Array.getElem?_eq_some_iff.1 ho).1
    simp at this
    omega) (Q' := Q) (fun listed F a' w' inv hall hR hF hC' => And.intro (by
      apply List.eq_nil_iff_forall_not_mem.2
      intro i hi
      obtain ⟨hu, o, ho, _⟩ := mem_ready.1 hi
      have hlt := (Array.getElem?_eq_some_iff.1 ho).1
      rw [hall i (by simpa using hlt)] at hu
      exact Bool.noConfusion hu) (hR w' hC' hF)) l.length _ a _ (J.start hC) (by rw [cnt_none _ _ (by simp)])
  simpa using this
theorem region {id : Nat} {Q : Exit → Act → World → Prop} {a : Act} {w : World} {l : List Oper} {ks : List Kind} (hm : P.follows .mixedOrders = true) (hB : headB l.toArray l.length = true)
    (hsz : sizeB l.toArray l.length a.tmps.size = true) (hC : C w.drew) (hW : Walk P l.toArray C X (fun F a' => ∀ w', C w' → (∀ f ∈ F, f.2 w') → Q .normal a' w') l ks [] a) : (Code.region id l.toArray true).wp P Q a w :=
  wp_region_any hm (region_any hB hsz hC hW)

def tailB (ops : Array Oper) (n : Nat) : Bool :=
  decide (n < ops.size) && Region.sinkB .any ops n && Region.chainB .any ops n && Region.seqB .any ops (ops.size - n) n ((List.range ops.size).map fun i => decide (i < n)).toArray

/-- ITS HEAD; the last ones come in one order -/
theorem region_tail_any {Q : Exit → Act → World → Prop} {a : Act} {w : World} {l : List Oper} {ks : List Kind} (n : Nat) (hT : tailB l.toArray n = true) (hB : headB l.toArray n = true)
    (hsz : sizeB l.toArray n a.tmps.size = true) (hC : C w) (hW : Walk P l.toArray C X (fun F a' => ∀ w', C w' → (∀ f ∈ F, f.2 w') → wpList P l.toArray Q (l.drop n) a' w') (l.take n) ks [] a) : wpAny P .any l.toArray Q l.toArray.size (Array.replicate l.toArray.size false) a w := by
  obtain ⟨U0, hU0⟩ := walk_fit _ 0 ks [] a _ hW (by simp) hC (by simp)
  simp only [tailB, Bool.and_eq_true, decide_eq_true_eq] at hT
  obtain ⟨⟨⟨hn, hs⟩, hc⟩, hq⟩ := hT
  have hn' : n < l.length := by simpa using hn
  have hdl : (l.drop n).length = l.toArray.size - n := by simp
  have := rel_any (ops := l.toArray) (g := l.toArray.size - n) (fun j hj => by simp [hj]) (by simp; omega) (by simp; omega) hB hsz hW U0 hU0 (fun listed inv i hi hu t ht hr => tail_waits hs hc hn inv _ i rfl hi hu t ht hr) (Q' := Q)
    (fun listed F a' w' inv hall hR hF hC' => by
      have he : listed = ((List.range l.toArray.size).map fun i => decide (i < n)).toArray := by
        apply Array.ext_getElem?
        intro i
        by_cases hi : i < l.toArray.size
        · have hi2 : i < listed.size := by rw [inv.size]; exact hi
          by_cases hin : i < n
          · have := hall i hin
            simp [hi2] at this
            have hi3 : i < l.length := by simpa using hi
            simp [hi2, hi3, this, hin]
          · have := inv.tail i (by omega) hi
            simp [hi2] at this
            have hi3 : i < l.length := by simpa using hi
            simp [hi2, hi3, this, hin]
        · rw [Array.getElem?_eq_none (by rw [inv.size]; omega), Array.getElem?_eq_none (by simp at hi ⊢; omega)]
      have := wpAny_of_seq (md := .any) (Q' := Q) (l.drop n) n listed a' w' (fun j => by simp [List.getElem?_drop]) (by rw [hdl, he]; exact hq) (hR w' hC' hF)
      rwa [hdl] at this) n _ a _ (J.start hC) (by rw [cnt_none _ _ (by simp; omega)])
  rw [show n + (l.toArray.size - n) = l.toArray.size by omega] at this
  exact this
theorem region_tail {id : Nat} {Q : Exit → Act → World → Prop} {a : Act} {w : World} {l : List Oper} {ks : List Kind} (n : Nat) (hm : P.follows .mixedOrders = true) (hT : tailB l.toArray n = true) (hB : headB l.toArray n = true)
    (hsz : sizeB l.toArray n a.tmps.size = true) (hC : C w.drew) (hW : Walk P l.toArray C X (fun F a' => ∀ w', C w' → (∀ f ∈ F, f.2 w') → wpList P l.toArray Q (l.drop n) a' w') (l.take n) ks [] a) : (Code.region id l.toArray true).wp P Q a w :=
  wp_region_any hm (region_tail_any n hT hB hsz hC hW)
end

/-! ### a region that comes in the text's order -/
section
variable {P : Program} {ops : Array Oper} {C : World → Prop} {X : World → World → Prop} {R : List (Nat × (World → Prop)) → Act → Prop}
theorem walk_ops {Q : Exit → Act → World → Prop} {rest : List Nat} (hsel : Region.noSelect ops = true) : ∀ (l : List Oper) (b : Nat) (ks : List Kind) (F : List (Nat × (World → Prop))) (a : Act) (w : World),
    (∀ j, j < l.length → l[j]? = ops[b + j]?) → (∀ (j : Nat) (o : Oper) (d : Tmp), l[j]? = some o → o.dst = some d → d < a.tmps.size) → Walk P ops C X R l ks F a → (∀ f ∈ F, ∀ w w', X w w' → f.2 w → f.2 w') → C w → (∀ f ∈ F, f.2 w) →
    (∀ F' a' w', C w' → (∀ f ∈ F', f.2 w') → R F' a' → wpOps P ops Q rest a' w') → wpOps P ops Q (List.range' b l.length ++ rest) a w := by
  intro l
  induction l with
  | nil =>
    intro b ks F a w _ _ h _ hC hF hK
    cases ks with
    | nil => exact hK F a w hC hF h
    | cons k ks => exact h.elim
  | cons o l ih =>
    intro b ks F a w hl hd h hs hC hF hK
    have h0 : ops[b]? = some o := by simpa using (hl 0 (by simp)).symm
    have hl' : ∀ j, j < l.length → l[j]? = ops[b + 1 + j]? := fun j hj => by
      have := hl (j + 1) (by simp; omega)
      simpa [Nat.add_assoc, Nat.add_comm 1 j] using this
    have hd' : ∀ (v : Value) (j : Nat) (o' : Oper) (d : Tmp), l[j]? = some o' → o'.dst = some d → d < (a.put o.dst v).tmps.size := fun v j o' d ho hdd => by
      have := hd (j + 1) o' d (by simpa using ho) hdd
      cases o.dst <;> simpa [Act.put] using this
    rw [List.length_cons, List.range'_succ, List.cons_append, wpOps_cons]
    cases ks with
    | nil => exact h.elim
    | cons k ks =>
      cases k with
      | val v =>
        obtain ⟨h1, h2⟩ := h
        refine h1.run hC (fun f hf _ => hF f hf) h0 a (fun _ _ => rfl) (Region.noSelect_spec hsel b o · · h0) (fun d he => hd 0 o d rfl he) (fun u w' hC' hX hu => ?_)
        have he : a.put o.dst u = a.put o.dst v := by
          cases hdst : o.dst with
          | none => rfl
          | some d => rw [show u = v from hu d hdst]
        rw [he]
        exact ih (b + 1) ks F _ w' hl' (hd' v) h2 hs hC' (fun f hf => hs f hf w w' hX (hF f hf)) hK
      | rel φ =>
        obtain ⟨h1, ⟨d, hdst⟩, hst, h2⟩ := h
        refine h1.run hC (fun f hf _ => hF f hf) h0 a (fun _ _ => rfl) (Region.noSelect_spec hsel b o · · h0) (fun d he => hd 0 o d rfl he) (fun u w' hC' hX hu => ?_)
        have hφ : φ u w' := hu d hdst
        refine ih (b + 1) ks _ _ w' hl' (hd' u) (h2 u w' hC' hφ) (fun f hf => ?_) hC' (fun f hf => ?_) hK
        · rcases List.mem_cons.1 hf with rfl | hf
          · exact hst u
          · exact hs f hf
        · rcases List.mem_cons.1 hf with rfl | hf
          · exact hφ
          · exact hs f hf w w' hX (hF f hf)

theorem size_spec {ops : List Oper} {n m : Nat} (h : sizeB ops.toArray n m = true) (j : Nat) (o : Oper) (d : Tmp) (hj : (ops.take n)[j]? = some o) (hd : o.dst = some d) : d < m := by
  have hlt : j < n := by
    rcases Nat.lt_or_ge j n with h | h
    · exact h
    · rw [List.getElem?_eq_none (by simp; omega)] at hj
      cases hj
  have := List.all_eq_true.1 h j (by simpa using hlt)
  rw [List.getElem?_take_of_lt hlt] at hj
  have h2 : ops.toArray[j]? = some o := by simpa using hj
  rw [h2] at this
  simpa [hd] using this

theorem seq_tail {id : Nat} {Q : Exit → Act → World → Prop} {a : Act} {w : World} {l : List Oper} {ks : List Kind} (n : Nat) (hsel : Region.noSelect l.toArray = true)
    (hsz : sizeB l.toArray n a.tmps.size = true) (hC : C w) (hW : Walk P l.toArray C X (fun F a' => ∀ w', C w' → (∀ f ∈ F, f.2 w') → wpList P l.toArray Q (l.drop n) a' w') (l.take n) ks [] a) (hn : n ≤ l.length := by decide) : (Code.region id l.toArray false).wp P Q a w := by
  refine wp_region ?_
  have he : List.range l.toArray.size = List.range' 0 (l.take n).length ++ List.range' n (l.drop n).length := by
    rw [List.range_eq_range']
    have h1 : (l.take n).length = n := by simp; omega
    have h2 : (l.drop n).length = l.length - n := by simp
    rw [h1, h2, List.size_toArray]
    have := List.range'_append (s := 0) (m := n) (n := l.length - n) (step := 1)
    rw [show 0 + 1 * n = n by omega, show n + (l.length - n) = l.length by omega] at this
    exact this.symm
  rw [he]
  refine walk_ops hsel (l.take n) 0 ks [] a w (fun j hj => ?_) (fun j o d hj hd => size_spec hsz j o d hj hd) hW (by simp) hC (by simp) (fun F' a' w' hC' hF' hR => ?_)
  · have : j < n := by simp at hj; omega
    rw [List.getElem?_take_of_lt this]
    simp
  · rw [wpOps_eq_wpList (l.drop n) n (fun j => by simp [List.getElem?_drop])]
    exact hR w' hC' hF'
theorem seq {id : Nat} {Q : Exit → Act → World → Prop} {a : Act} {w : World} {l : List Oper} {ks : List Kind} (hsel : Region.noSelect l.toArray = true)
    (hsz : sizeB l.toArray l.length a.tmps.size = true) (hC : C w) (hW : Walk P l.toArray C X (fun F a' => ∀ w', C w' → (∀ f ∈ F, f.2 w') → Q .normal a' w') l ks [] a) : (Code.region id l.toArray false).wp P Q a w := by
  refine wp_region ?_
  rw [List.range_eq_range', ← List.append_nil (List.range' _ _)]
  refine walk_ops hsel l 0 ks [] a w (fun j hj => by simp) (fun j o d hj hd => size_spec hsz j o d (by simpa using hj) hd) hW (by simp) hC (by simp) (fun F' a' w' hC' hF' hR => hR w' hC' hF')
end

/-- what is known at a region's end -/
theorem fact {F : List (Nat × (World → Prop))} {w : World} (hF : ∀ f ∈ F, f.2 w) (i : Nat) {f : Nat × (World → Prop)} (hi : F[i]? = some f) : f.2 w := hF f (List.mem_of_getElem? hi)
theorem name_list (l : List Int) (n : Nat) (h : l.length ≤ n) : ∃ t, Go.RowKit.Hid (l = t) ∧ t.length ≤ n := ⟨l, rfl, h⟩
#print axioms region_tail
theorem put_lit (xs : List Value) (ds : List Deferred) (d : Tmp) (v : Value) : Act.put ⟨xs.toArray, ds⟩ (some d) v = ⟨(xs.set d v).toArray, ds⟩ := by
  simp [Act.put]
theorem slot_lit (xs : List Value) (ds : List Deferred) (d : Tmp) : slot ⟨xs.toArray, ds⟩ (some d) = xs.getD d undef := by
  simp [slot]
end Go.Proofs.Ytfbeiimmcemniaa.rel
