/- The walk of SkewTells. -/
import Derived.Test.YtokfogeplifedaaDoorSkRef
import Derived.Test.YtokfogeplifedaaDoorTold
namespace Go.Proofs.YtokfogeplifedaaDoor.skewTells
open Go Go.RowKit sk
set_option linter.unusedVariables false

/-- a call that answers a list and an error: the list reads as T, the error has number m -/
def Op (f : Nat) (args : Array Value) (w : World) (T : List Int) (m : Int) : Prop := ∀ W, Below w.heap.size w W → Calls Tryd.prog f args W fun r w' => (∃ u e, r = .returned (.tuple #[u, e]) ∧ hp.IsInts w' w'.heap.size u T ∧ eas.Num e m) ∧ Below W.heap.size W w'
/-- a call that answers a list -/
def Tells (f : Nat) (args : Array Value) (w : World) (T : List Int) : Prop := ∀ W, Below w.heap.size w W → Calls Tryd.prog f args W fun r w' => (∃ u, r = .returned u ∧ hp.IsInts w' w'.heap.size u T) ∧ Below W.heap.size W w'

section
variable {v : Value} {l T : List Int} {w : World} {n m : Int}
theorem op_any {f : Nat} {args : Array Value} (hT : Ok T) (hs : sum T = n) (h : ∀ W, Below w.heap.size w W → Calls Tryd.prog f args W fun e w' => (∃ u t, e = .returned (.tuple #[u, .nilIface]) ∧ hp.IsInts w' w'.heap.size u t ∧ Ok t ∧ sum t = n) ∧ Below W.heap.size W w') : Op f args w T 0 := by
  intro W hb
  refine (h W hb).mono ?_
  rintro e w' ⟨⟨u, t, rfl, hu, ht, hts⟩, hb'⟩
  obtain rfl := ht.one T hT (hts.trans hs.symm)
  exact ⟨⟨u, _, rfl, hu, .inl ⟨rfl, rfl⟩⟩, hb'⟩
theorem op_none {f : Nat} {args : Array Value} (h : ∀ W, Below w.heap.size w W → Calls Tryd.prog f args W fun e w' => e = .returned (.tuple #[.slice none 0 0, err m]) ∧ Below W.heap.size W w') : Op f args w [] m := by
  intro W hb
  refine (h W hb).mono ?_
  rintro e w' ⟨rfl, hb'⟩
  exact ⟨⟨_, _, rfl, hp.IsInts.nil _ _, .inr rfl⟩, hb'⟩
theorem tells_any (hT : Ok T) (hs : sum T = n) (h1 : 0 ≤ n) (h2 : n ≤ 1099511627776) : Tells 10 #[.int .i64 n] w T := by
  intro W hb
  refine (skewOf_any h1 h2).mono ?_
  rintro e w' ⟨⟨u, t, rfl, hu, ht, hts⟩, hb'⟩
  obtain rfl := ht.one T hT (hts.trans hs.symm)
  exact ⟨⟨u, rfl, hu⟩, hb'⟩
end

set_option maxHeartbeats 8000000 in
theorem walk_bad (v : Value) (l : List Int) (n : Int) (w : World) (hv : hp.IsInts w w.heap.size v l) (hl : ¬ Ok l) (hg : eas.Laid w) :
    Calls Tryd.prog 3 #[v, .int .i64 n] w fun e w' => e = .returned (.bool true) ∧ Below w.heap.size w w' := by
  have K := Below.refl w.heap.size w
  have HF : ∀ W, Below w.heap.size w W → _ := fun W hb => fault_raw v l W true (hv.on hb) ⟨fun _ => hl, fun _ => rfl⟩
  have HC : ∀ W, Below w.heap.size w W → _ := fun W hb => check_raw v l W (err 3) (hv.on hb) (.inr ⟨hl, rfl⟩)
  have HV : ∀ W, Below w.heap.size w W → _ := fun W hb => value_bad (hv.on hb) hl
  have HI : Op 11 #[v] w [] 3 := op_none fun W hb => inc_bad (hv.on hb) hl
  have HO : Op 13 #[v] w [] 3 := op_none fun W hb => dec_bad (hv.on hb) hl
  clear hv hl
  rcases (by omega : n < 0 ∨ 1099511627776 < n ∨ (0 ≤ n ∧ n ≤ 1099511627776)) with hn | hn | ⟨n1, n2⟩
  · have HG : Op 14 #[.int .i64 n] w [] 1 := op_none fun W hb => digits_bad (.inl hn)
    (go_enter Tryd.func3, Tryd.ntmps3; go_wp2_with (first
      | (go_at_call 4; refine (skewed_any _).mono ?_; rintro e wa ⟨rfl, hb⟩; (replace K := K.trans (hb.mono K.size)); (try replace hA := hA.on hb); (try replace hM := hM.on hb); (try replace hB := hB.on hb); (try replace hL := hL.on hb); (try replace hC := hC.on hb); (try replace hD := hD.on hb); clear hb)
      | (go_at_call 5; refine (HF _ K).mono ?_; rintro e wa ⟨rfl, hb⟩; (replace K := K.trans (hb.mono K.size)); (try replace hA := hA.on hb); (try replace hM := hM.on hb); (try replace hB := hB.on hb); (try replace hL := hL.on hb); (try replace hC := hC.on hb); (try replace hD := hD.on hb); clear hb)
      | (go_at_call 7; refine (HC _ K).mono ?_; rintro e wa ⟨rfl, hb⟩; (replace K := K.trans (hb.mono K.size)); (try replace hA := hA.on hb); (try replace hM := hM.on hb); (try replace hB := hB.on hb); (try replace hL := hL.on hb); (try replace hC := hC.on hb); (try replace hD := hD.on hb); clear hb)
      | (go_at_call 6; refine (eas.error_eq (by first | assumption | exact .inl ⟨rfl, rfl⟩ | exact .inr rfl) (hg.on K)).mono ?_; rintro e wa ⟨rfl, hb⟩; (replace K := K.trans (hb.mono K.size)); (try replace hA := hA.on hb); (try replace hM := hM.on hb); (try replace hB := hB.on hb); (try replace hL := hL.on hb); (try replace hC := hC.on hb); (try replace hD := hD.on hb); clear hb)
      | (go_at_call 8; refine (HS _ K).mono ?_; rintro e wa ⟨rfl, hb⟩; (replace K := K.trans (hb.mono K.size)); (try replace hA := hA.on hb); (try replace hM := hM.on hb); (try replace hB := hB.on hb); (try replace hL := hL.on hb); (try replace hC := hC.on hb); (try replace hD := hD.on hb); clear hb)
      | (go_at_call 9; refine (HV _ K).mono ?_; rintro e wa ⟨rfl, hb⟩; (replace K := K.trans (hb.mono K.size)); (try replace hA := hA.on hb); (try replace hM := hM.on hb); (try replace hB := hB.on hb); (try replace hL := hL.on hb); (try replace hC := hC.on hb); (try replace hD := hD.on hb); clear hb)
      | (go_at_call 10; refine (R1 _ K).mono ?_; clear R1; rintro e wa ⟨⟨u1, rfl, hM⟩, hb⟩; replace K := K.trans (hb.mono K.size); clear hb)
      | (go_at_call 10; refine (R2 _ K).mono ?_; clear R2; rintro e wa ⟨⟨u2, rfl, hL⟩, hb⟩; (try replace hM := hM.on hb); replace K := K.trans (hb.mono K.size); clear hb)
      | (go_at_call 10; refine (R3 _ K).mono ?_; clear R3; rintro e wa ⟨⟨u3, rfl, hD⟩, hb⟩; replace K := K.trans (hb.mono K.size); clear hb)
      | (go_at_call 11; refine (HI _ K).mono ?_; rintro e wa ⟨⟨u4, e4, rfl, hA, hE⟩, hb⟩; (try replace hM := hM.on hb); (try replace hL := hL.on hb); replace K := K.trans (hb.mono K.size); clear hb)
      | (go_at_call 13; refine (HO _ K).mono ?_; rintro e wa ⟨⟨u5, e5, rfl, hB, hE⟩, hb⟩; (try replace hL := hL.on hb); replace K := K.trans (hb.mono K.size); clear hb)
      | (go_at_call 14; refine (HG _ K).mono ?_; rintro e wa ⟨⟨u6, e6, rfl, hC, hE⟩, hb⟩; (try replace hD := hD.on hb); replace K := K.trans (hb.mono K.size); clear hb)
      | (go_at_call 12; refine (same.ints_eq rfl hA hM).mono ?_; rintro e wa ⟨rfl, hb⟩; clear hA hM; (replace K := K.trans (hb.mono K.size)); (try replace hA := hA.on hb); (try replace hM := hM.on hb); (try replace hB := hB.on hb); (try replace hL := hL.on hb); (try replace hC := hC.on hb); (try replace hD := hD.on hb); clear hb)
      | (go_at_call 12; refine (same.ints_eq rfl hB hL).mono ?_; rintro e wa ⟨rfl, hb⟩; clear hB hL; (replace K := K.trans (hb.mono K.size)); (try replace hA := hA.on hb); (try replace hM := hM.on hb); (try replace hB := hB.on hb); (try replace hL := hL.on hb); (try replace hC := hC.on hb); (try replace hD := hD.on hb); clear hb)
      | (go_at_call 12; refine (same.ints_eq rfl hC hD).mono ?_; rintro e wa ⟨rfl, hb⟩; clear hC hD; (replace K := K.trans (hb.mono K.size)); (try replace hA := hA.on hb); (try replace hM := hM.on hb); (try replace hB := hB.on hb); (try replace hL := hL.on hb); (try replace hC := hC.on hb); (try replace hD := hD.on hb); clear hb)
      | (go_at_call 12; refine (same.ints_eq rfl hA (hp.IsInts.nil _ _)).mono ?_; rintro e wa ⟨rfl, hb⟩; clear hA; (replace K := K.trans (hb.mono K.size)); (try replace hA := hA.on hb); (try replace hM := hM.on hb); (try replace hB := hB.on hb); (try replace hL := hL.on hb); (try replace hC := hC.on hb); (try replace hD := hD.on hb); clear hb)
      | (go_at_call 12; refine (same.ints_eq rfl hB (hp.IsInts.nil _ _)).mono ?_; rintro e wa ⟨rfl, hb⟩; clear hB; (replace K := K.trans (hb.mono K.size)); (try replace hA := hA.on hb); (try replace hM := hM.on hb); (try replace hB := hB.on hb); (try replace hL := hL.on hb); (try replace hC := hC.on hb); (try replace hD := hD.on hb); clear hb)
      | (go_at_call 12; refine (same.ints_eq rfl hC (hp.IsInts.nil _ _)).mono ?_; rintro e wa ⟨rfl, hb⟩; clear hC; (replace K := K.trans (hb.mono K.size)); (try replace hA := hA.on hb); (try replace hM := hM.on hb); (try replace hB := hB.on hb); (try replace hL := hL.on hb); (try replace hC := hC.on hb); (try replace hD := hD.on hb); clear hb)))
    go_ret
    exact ⟨rfl, K⟩
  · have HG : Op 14 #[.int .i64 n] w [] 1 := op_none fun W hb => digits_bad (.inr hn)
    (go_enter Tryd.func3, Tryd.ntmps3; go_wp2_with (first
      | (go_at_call 4; refine (skewed_any _).mono ?_; rintro e wa ⟨rfl, hb⟩; (replace K := K.trans (hb.mono K.size)); (try replace hA := hA.on hb); (try replace hM := hM.on hb); (try replace hB := hB.on hb); (try replace hL := hL.on hb); (try replace hC := hC.on hb); (try replace hD := hD.on hb); clear hb)
      | (go_at_call 5; refine (HF _ K).mono ?_; rintro e wa ⟨rfl, hb⟩; (replace K := K.trans (hb.mono K.size)); (try replace hA := hA.on hb); (try replace hM := hM.on hb); (try replace hB := hB.on hb); (try replace hL := hL.on hb); (try replace hC := hC.on hb); (try replace hD := hD.on hb); clear hb)
      | (go_at_call 7; refine (HC _ K).mono ?_; rintro e wa ⟨rfl, hb⟩; (replace K := K.trans (hb.mono K.size)); (try replace hA := hA.on hb); (try replace hM := hM.on hb); (try replace hB := hB.on hb); (try replace hL := hL.on hb); (try replace hC := hC.on hb); (try replace hD := hD.on hb); clear hb)
      | (go_at_call 6; refine (eas.error_eq (by first | assumption | exact .inl ⟨rfl, rfl⟩ | exact .inr rfl) (hg.on K)).mono ?_; rintro e wa ⟨rfl, hb⟩; (replace K := K.trans (hb.mono K.size)); (try replace hA := hA.on hb); (try replace hM := hM.on hb); (try replace hB := hB.on hb); (try replace hL := hL.on hb); (try replace hC := hC.on hb); (try replace hD := hD.on hb); clear hb)
      | (go_at_call 8; refine (HS _ K).mono ?_; rintro e wa ⟨rfl, hb⟩; (replace K := K.trans (hb.mono K.size)); (try replace hA := hA.on hb); (try replace hM := hM.on hb); (try replace hB := hB.on hb); (try replace hL := hL.on hb); (try replace hC := hC.on hb); (try replace hD := hD.on hb); clear hb)
      | (go_at_call 9; refine (HV _ K).mono ?_; rintro e wa ⟨rfl, hb⟩; (replace K := K.trans (hb.mono K.size)); (try replace hA := hA.on hb); (try replace hM := hM.on hb); (try replace hB := hB.on hb); (try replace hL := hL.on hb); (try replace hC := hC.on hb); (try replace hD := hD.on hb); clear hb)
      | (go_at_call 10; refine (R1 _ K).mono ?_; clear R1; rintro e wa ⟨⟨u1, rfl, hM⟩, hb⟩; replace K := K.trans (hb.mono K.size); clear hb)
      | (go_at_call 10; refine (R2 _ K).mono ?_; clear R2; rintro e wa ⟨⟨u2, rfl, hL⟩, hb⟩; (try replace hM := hM.on hb); replace K := K.trans (hb.mono K.size); clear hb)
      | (go_at_call 10; refine (R3 _ K).mono ?_; clear R3; rintro e wa ⟨⟨u3, rfl, hD⟩, hb⟩; replace K := K.trans (hb.mono K.size); clear hb)
      | (go_at_call 11; refine (HI _ K).mono ?_; rintro e wa ⟨⟨u4, e4, rfl, hA, hE⟩, hb⟩; (try replace hM := hM.on hb); (try replace hL := hL.on hb); replace K := K.trans (hb.mono K.size); clear hb)
      | (go_at_call 13; refine (HO _ K).mono ?_; rintro e wa ⟨⟨u5, e5, rfl, hB, hE⟩, hb⟩; (try replace hL := hL.on hb); replace K := K.trans (hb.mono K.size); clear hb)
      | (go_at_call 14; refine (HG _ K).mono ?_; rintro e wa ⟨⟨u6, e6, rfl, hC, hE⟩, hb⟩; (try replace hD := hD.on hb); replace K := K.trans (hb.mono K.size); clear hb)
      | (go_at_call 12; refine (same.ints_eq rfl hA hM).mono ?_; rintro e wa ⟨rfl, hb⟩; clear hA hM; (replace K := K.trans (hb.mono K.size)); (try replace hA := hA.on hb); (try replace hM := hM.on hb); (try replace hB := hB.on hb); (try replace hL := hL.on hb); (try replace hC := hC.on hb); (try replace hD := hD.on hb); clear hb)
      | (go_at_call 12; refine (same.ints_eq rfl hB hL).mono ?_; rintro e wa ⟨rfl, hb⟩; clear hB hL; (replace K := K.trans (hb.mono K.size)); (try replace hA := hA.on hb); (try replace hM := hM.on hb); (try replace hB := hB.on hb); (try replace hL := hL.on hb); (try replace hC := hC.on hb); (try replace hD := hD.on hb); clear hb)
      | (go_at_call 12; refine (same.ints_eq rfl hC hD).mono ?_; rintro e wa ⟨rfl, hb⟩; clear hC hD; (replace K := K.trans (hb.mono K.size)); (try replace hA := hA.on hb); (try replace hM := hM.on hb); (try replace hB := hB.on hb); (try replace hL := hL.on hb); (try replace hC := hC.on hb); (try replace hD := hD.on hb); clear hb)
      | (go_at_call 12; refine (same.ints_eq rfl hA (hp.IsInts.nil _ _)).mono ?_; rintro e wa ⟨rfl, hb⟩; clear hA; (replace K := K.trans (hb.mono K.size)); (try replace hA := hA.on hb); (try replace hM := hM.on hb); (try replace hB := hB.on hb); (try replace hL := hL.on hb); (try replace hC := hC.on hb); (try replace hD := hD.on hb); clear hb)
      | (go_at_call 12; refine (same.ints_eq rfl hB (hp.IsInts.nil _ _)).mono ?_; rintro e wa ⟨rfl, hb⟩; clear hB; (replace K := K.trans (hb.mono K.size)); (try replace hA := hA.on hb); (try replace hM := hM.on hb); (try replace hB := hB.on hb); (try replace hL := hL.on hb); (try replace hC := hC.on hb); (try replace hD := hD.on hb); clear hb)
      | (go_at_call 12; refine (same.ints_eq rfl hC (hp.IsInts.nil _ _)).mono ?_; rintro e wa ⟨rfl, hb⟩; clear hC; (replace K := K.trans (hb.mono K.size)); (try replace hA := hA.on hb); (try replace hM := hM.on hb); (try replace hB := hB.on hb); (try replace hL := hL.on hb); (try replace hC := hC.on hb); (try replace hD := hD.on hb); clear hb)))
    go_ret
    exact ⟨rfl, K⟩
  · obtain ⟨T3, t3, s3⟩ := exists_any n1 n2
    have R3 : Tells 10 #[.int .i64 n] w T3 := tells_any t3 s3 n1 n2
    have HG : Op 14 #[.int .i64 n] w T3 0 := op_any t3 s3 fun W hb => digits_any n1 n2
    clear t3 s3
    (go_enter Tryd.func3, Tryd.ntmps3; go_wp2_with (first
      | (go_at_call 4; refine (skewed_any _).mono ?_; rintro e wa ⟨rfl, hb⟩; (replace K := K.trans (hb.mono K.size)); (try replace hA := hA.on hb); (try replace hM := hM.on hb); (try replace hB := hB.on hb); (try replace hL := hL.on hb); (try replace hC := hC.on hb); (try replace hD := hD.on hb); clear hb)
      | (go_at_call 5; refine (HF _ K).mono ?_; rintro e wa ⟨rfl, hb⟩; (replace K := K.trans (hb.mono K.size)); (try replace hA := hA.on hb); (try replace hM := hM.on hb); (try replace hB := hB.on hb); (try replace hL := hL.on hb); (try replace hC := hC.on hb); (try replace hD := hD.on hb); clear hb)
      | (go_at_call 7; refine (HC _ K).mono ?_; rintro e wa ⟨rfl, hb⟩; (replace K := K.trans (hb.mono K.size)); (try replace hA := hA.on hb); (try replace hM := hM.on hb); (try replace hB := hB.on hb); (try replace hL := hL.on hb); (try replace hC := hC.on hb); (try replace hD := hD.on hb); clear hb)
      | (go_at_call 6; refine (eas.error_eq (by first | assumption | exact .inl ⟨rfl, rfl⟩ | exact .inr rfl) (hg.on K)).mono ?_; rintro e wa ⟨rfl, hb⟩; (replace K := K.trans (hb.mono K.size)); (try replace hA := hA.on hb); (try replace hM := hM.on hb); (try replace hB := hB.on hb); (try replace hL := hL.on hb); (try replace hC := hC.on hb); (try replace hD := hD.on hb); clear hb)
      | (go_at_call 8; refine (HS _ K).mono ?_; rintro e wa ⟨rfl, hb⟩; (replace K := K.trans (hb.mono K.size)); (try replace hA := hA.on hb); (try replace hM := hM.on hb); (try replace hB := hB.on hb); (try replace hL := hL.on hb); (try replace hC := hC.on hb); (try replace hD := hD.on hb); clear hb)
      | (go_at_call 9; refine (HV _ K).mono ?_; rintro e wa ⟨rfl, hb⟩; (replace K := K.trans (hb.mono K.size)); (try replace hA := hA.on hb); (try replace hM := hM.on hb); (try replace hB := hB.on hb); (try replace hL := hL.on hb); (try replace hC := hC.on hb); (try replace hD := hD.on hb); clear hb)
      | (go_at_call 10; refine (R1 _ K).mono ?_; clear R1; rintro e wa ⟨⟨u1, rfl, hM⟩, hb⟩; replace K := K.trans (hb.mono K.size); clear hb)
      | (go_at_call 10; refine (R2 _ K).mono ?_; clear R2; rintro e wa ⟨⟨u2, rfl, hL⟩, hb⟩; (try replace hM := hM.on hb); replace K := K.trans (hb.mono K.size); clear hb)
      | (go_at_call 10; refine (R3 _ K).mono ?_; clear R3; rintro e wa ⟨⟨u3, rfl, hD⟩, hb⟩; replace K := K.trans (hb.mono K.size); clear hb)
      | (go_at_call 11; refine (HI _ K).mono ?_; rintro e wa ⟨⟨u4, e4, rfl, hA, hE⟩, hb⟩; (try replace hM := hM.on hb); (try replace hL := hL.on hb); replace K := K.trans (hb.mono K.size); clear hb)
      | (go_at_call 13; refine (HO _ K).mono ?_; rintro e wa ⟨⟨u5, e5, rfl, hB, hE⟩, hb⟩; (try replace hL := hL.on hb); replace K := K.trans (hb.mono K.size); clear hb)
      | (go_at_call 14; refine (HG _ K).mono ?_; rintro e wa ⟨⟨u6, e6, rfl, hC, hE⟩, hb⟩; (try replace hD := hD.on hb); replace K := K.trans (hb.mono K.size); clear hb)
      | (go_at_call 12; refine (same.ints_eq rfl hA hM).mono ?_; rintro e wa ⟨rfl, hb⟩; clear hA hM; (replace K := K.trans (hb.mono K.size)); (try replace hA := hA.on hb); (try replace hM := hM.on hb); (try replace hB := hB.on hb); (try replace hL := hL.on hb); (try replace hC := hC.on hb); (try replace hD := hD.on hb); clear hb)
      | (go_at_call 12; refine (same.ints_eq rfl hB hL).mono ?_; rintro e wa ⟨rfl, hb⟩; clear hB hL; (replace K := K.trans (hb.mono K.size)); (try replace hA := hA.on hb); (try replace hM := hM.on hb); (try replace hB := hB.on hb); (try replace hL := hL.on hb); (try replace hC := hC.on hb); (try replace hD := hD.on hb); clear hb)
      | (go_at_call 12; refine (same.ints_eq rfl hC hD).mono ?_; rintro e wa ⟨rfl, hb⟩; clear hC hD; (replace K := K.trans (hb.mono K.size)); (try replace hA := hA.on hb); (try replace hM := hM.on hb); (try replace hB := hB.on hb); (try replace hL := hL.on hb); (try replace hC := hC.on hb); (try replace hD := hD.on hb); clear hb)
      | (go_at_call 12; refine (same.ints_eq rfl hA (hp.IsInts.nil _ _)).mono ?_; rintro e wa ⟨rfl, hb⟩; clear hA; (replace K := K.trans (hb.mono K.size)); (try replace hA := hA.on hb); (try replace hM := hM.on hb); (try replace hB := hB.on hb); (try replace hL := hL.on hb); (try replace hC := hC.on hb); (try replace hD := hD.on hb); clear hb)
      | (go_at_call 12; refine (same.ints_eq rfl hB (hp.IsInts.nil _ _)).mono ?_; rintro e wa ⟨rfl, hb⟩; clear hB; (replace K := K.trans (hb.mono K.size)); (try replace hA := hA.on hb); (try replace hM := hM.on hb); (try replace hB := hB.on hb); (try replace hL := hL.on hb); (try replace hC := hC.on hb); (try replace hD := hD.on hb); clear hb)
      | (go_at_call 12; refine (same.ints_eq rfl hC (hp.IsInts.nil _ _)).mono ?_; rintro e wa ⟨rfl, hb⟩; clear hC; (replace K := K.trans (hb.mono K.size)); (try replace hA := hA.on hb); (try replace hM := hM.on hb); (try replace hB := hB.on hb); (try replace hL := hL.on hb); (try replace hC := hC.on hb); (try replace hD := hD.on hb); clear hb)))
    go_ret
    exact ⟨rfl, K⟩

set_option maxHeartbeats 8000000 in
theorem walk_zero (v : Value) (l : List Int) (n s : Int) (w : World) (h1 : s = 0) (hg : eas.Laid w) (K : Below w.heap.size w w)
    (HF : ∀ W, Below w.heap.size w W → Calls Tryd.prog 5 #[v] W fun e w' => e = .returned (.bool false) ∧ Below W.heap.size W w')
    (HC : ∀ W, Below w.heap.size w W → Calls Tryd.prog 7 #[v] W fun e w' => e = .returned .nilIface ∧ Below W.heap.size W w')
    (HS : ∀ W, Below w.heap.size w W → Calls Tryd.prog 8 #[v] W fun e w' => e = .returned (.int .i64 s) ∧ Below W.heap.size W w')
    (HV : ∀ W, Below w.heap.size w W → Calls Tryd.prog 9 #[v] W fun e w' => e = .returned (.tuple #[.int .i64 s, .nilIface]) ∧ Below W.heap.size W w')
    (T1 : List Int) (R1 : Tells 10 #[.int .i64 (s + 1)] w T1) (HI : Op 11 #[v] w T1 0) (HO : Op 13 #[v] w [] 1) :
    Calls Tryd.prog 3 #[v, .int .i64 n] w fun e w' => e = .returned (.bool true) ∧ Below w.heap.size w w' := by
  subst h1
  rw [Int.zero_add] at R1
  rcases (by omega : n < 0 ∨ 1099511627776 < n ∨ (0 ≤ n ∧ n ≤ 1099511627776)) with hn | hn | ⟨n1, n2⟩
  · have HG : Op 14 #[.int .i64 n] w [] 1 := op_none fun W hb => digits_bad (.inl hn)
    (go_enter Tryd.func3, Tryd.ntmps3; go_wp2_with (first
      | (go_at_call 4; refine (skewed_any _).mono ?_; rintro e wa ⟨rfl, hb⟩; (replace K := K.trans (hb.mono K.size)); (try replace hA := hA.on hb); (try replace hM := hM.on hb); (try replace hB := hB.on hb); (try replace hL := hL.on hb); (try replace hC := hC.on hb); (try replace hD := hD.on hb); clear hb)
      | (go_at_call 5; refine (HF _ K).mono ?_; rintro e wa ⟨rfl, hb⟩; (replace K := K.trans (hb.mono K.size)); (try replace hA := hA.on hb); (try replace hM := hM.on hb); (try replace hB := hB.on hb); (try replace hL := hL.on hb); (try replace hC := hC.on hb); (try replace hD := hD.on hb); clear hb)
      | (go_at_call 7; refine (HC _ K).mono ?_; rintro e wa ⟨rfl, hb⟩; (replace K := K.trans (hb.mono K.size)); (try replace hA := hA.on hb); (try replace hM := hM.on hb); (try replace hB := hB.on hb); (try replace hL := hL.on hb); (try replace hC := hC.on hb); (try replace hD := hD.on hb); clear hb)
      | (go_at_call 6; refine (eas.error_eq (by first | assumption | exact .inl ⟨rfl, rfl⟩ | exact .inr rfl) (hg.on K)).mono ?_; rintro e wa ⟨rfl, hb⟩; (replace K := K.trans (hb.mono K.size)); (try replace hA := hA.on hb); (try replace hM := hM.on hb); (try replace hB := hB.on hb); (try replace hL := hL.on hb); (try replace hC := hC.on hb); (try replace hD := hD.on hb); clear hb)
      | (go_at_call 8; refine (HS _ K).mono ?_; rintro e wa ⟨rfl, hb⟩; (replace K := K.trans (hb.mono K.size)); (try replace hA := hA.on hb); (try replace hM := hM.on hb); (try replace hB := hB.on hb); (try replace hL := hL.on hb); (try replace hC := hC.on hb); (try replace hD := hD.on hb); clear hb)
      | (go_at_call 9; refine (HV _ K).mono ?_; rintro e wa ⟨rfl, hb⟩; (replace K := K.trans (hb.mono K.size)); (try replace hA := hA.on hb); (try replace hM := hM.on hb); (try replace hB := hB.on hb); (try replace hL := hL.on hb); (try replace hC := hC.on hb); (try replace hD := hD.on hb); clear hb)
      | (go_at_call 10; refine (R1 _ K).mono ?_; clear R1; rintro e wa ⟨⟨u1, rfl, hM⟩, hb⟩; replace K := K.trans (hb.mono K.size); clear hb)
      | (go_at_call 10; refine (R2 _ K).mono ?_; clear R2; rintro e wa ⟨⟨u2, rfl, hL⟩, hb⟩; (try replace hM := hM.on hb); replace K := K.trans (hb.mono K.size); clear hb)
      | (go_at_call 10; refine (R3 _ K).mono ?_; clear R3; rintro e wa ⟨⟨u3, rfl, hD⟩, hb⟩; replace K := K.trans (hb.mono K.size); clear hb)
      | (go_at_call 11; refine (HI _ K).mono ?_; rintro e wa ⟨⟨u4, e4, rfl, hA, hE⟩, hb⟩; (try replace hM := hM.on hb); (try replace hL := hL.on hb); replace K := K.trans (hb.mono K.size); clear hb)
      | (go_at_call 13; refine (HO _ K).mono ?_; rintro e wa ⟨⟨u5, e5, rfl, hB, hE⟩, hb⟩; (try replace hL := hL.on hb); replace K := K.trans (hb.mono K.size); clear hb)
      | (go_at_call 14; refine (HG _ K).mono ?_; rintro e wa ⟨⟨u6, e6, rfl, hC, hE⟩, hb⟩; (try replace hD := hD.on hb); replace K := K.trans (hb.mono K.size); clear hb)
      | (go_at_call 12; refine (same.ints_eq rfl hA hM).mono ?_; rintro e wa ⟨rfl, hb⟩; clear hA hM; (replace K := K.trans (hb.mono K.size)); (try replace hA := hA.on hb); (try replace hM := hM.on hb); (try replace hB := hB.on hb); (try replace hL := hL.on hb); (try replace hC := hC.on hb); (try replace hD := hD.on hb); clear hb)
      | (go_at_call 12; refine (same.ints_eq rfl hB hL).mono ?_; rintro e wa ⟨rfl, hb⟩; clear hB hL; (replace K := K.trans (hb.mono K.size)); (try replace hA := hA.on hb); (try replace hM := hM.on hb); (try replace hB := hB.on hb); (try replace hL := hL.on hb); (try replace hC := hC.on hb); (try replace hD := hD.on hb); clear hb)
      | (go_at_call 12; refine (same.ints_eq rfl hC hD).mono ?_; rintro e wa ⟨rfl, hb⟩; clear hC hD; (replace K := K.trans (hb.mono K.size)); (try replace hA := hA.on hb); (try replace hM := hM.on hb); (try replace hB := hB.on hb); (try replace hL := hL.on hb); (try replace hC := hC.on hb); (try replace hD := hD.on hb); clear hb)
      | (go_at_call 12; refine (same.ints_eq rfl hA (hp.IsInts.nil _ _)).mono ?_; rintro e wa ⟨rfl, hb⟩; clear hA; (replace K := K.trans (hb.mono K.size)); (try replace hA := hA.on hb); (try replace hM := hM.on hb); (try replace hB := hB.on hb); (try replace hL := hL.on hb); (try replace hC := hC.on hb); (try replace hD := hD.on hb); clear hb)
      | (go_at_call 12; refine (same.ints_eq rfl hB (hp.IsInts.nil _ _)).mono ?_; rintro e wa ⟨rfl, hb⟩; clear hB; (replace K := K.trans (hb.mono K.size)); (try replace hA := hA.on hb); (try replace hM := hM.on hb); (try replace hB := hB.on hb); (try replace hL := hL.on hb); (try replace hC := hC.on hb); (try replace hD := hD.on hb); clear hb)
      | (go_at_call 12; refine (same.ints_eq rfl hC (hp.IsInts.nil _ _)).mono ?_; rintro e wa ⟨rfl, hb⟩; clear hC; (replace K := K.trans (hb.mono K.size)); (try replace hA := hA.on hb); (try replace hM := hM.on hb); (try replace hB := hB.on hb); (try replace hL := hL.on hb); (try replace hC := hC.on hb); (try replace hD := hD.on hb); clear hb)))
    go_ret
    exact ⟨rfl, K⟩
  · have HG : Op 14 #[.int .i64 n] w [] 1 := op_none fun W hb => digits_bad (.inr hn)
    (go_enter Tryd.func3, Tryd.ntmps3; go_wp2_with (first
      | (go_at_call 4; refine (skewed_any _).mono ?_; rintro e wa ⟨rfl, hb⟩; (replace K := K.trans (hb.mono K.size)); (try replace hA := hA.on hb); (try replace hM := hM.on hb); (try replace hB := hB.on hb); (try replace hL := hL.on hb); (try replace hC := hC.on hb); (try replace hD := hD.on hb); clear hb)
      | (go_at_call 5; refine (HF _ K).mono ?_; rintro e wa ⟨rfl, hb⟩; (replace K := K.trans (hb.mono K.size)); (try replace hA := hA.on hb); (try replace hM := hM.on hb); (try replace hB := hB.on hb); (try replace hL := hL.on hb); (try replace hC := hC.on hb); (try replace hD := hD.on hb); clear hb)
      | (go_at_call 7; refine (HC _ K).mono ?_; rintro e wa ⟨rfl, hb⟩; (replace K := K.trans (hb.mono K.size)); (try replace hA := hA.on hb); (try replace hM := hM.on hb); (try replace hB := hB.on hb); (try replace hL := hL.on hb); (try replace hC := hC.on hb); (try replace hD := hD.on hb); clear hb)
      | (go_at_call 6; refine (eas.error_eq (by first | assumption | exact .inl ⟨rfl, rfl⟩ | exact .inr rfl) (hg.on K)).mono ?_; rintro e wa ⟨rfl, hb⟩; (replace K := K.trans (hb.mono K.size)); (try replace hA := hA.on hb); (try replace hM := hM.on hb); (try replace hB := hB.on hb); (try replace hL := hL.on hb); (try replace hC := hC.on hb); (try replace hD := hD.on hb); clear hb)
      | (go_at_call 8; refine (HS _ K).mono ?_; rintro e wa ⟨rfl, hb⟩; (replace K := K.trans (hb.mono K.size)); (try replace hA := hA.on hb); (try replace hM := hM.on hb); (try replace hB := hB.on hb); (try replace hL := hL.on hb); (try replace hC := hC.on hb); (try replace hD := hD.on hb); clear hb)
      | (go_at_call 9; refine (HV _ K).mono ?_; rintro e wa ⟨rfl, hb⟩; (replace K := K.trans (hb.mono K.size)); (try replace hA := hA.on hb); (try replace hM := hM.on hb); (try replace hB := hB.on hb); (try replace hL := hL.on hb); (try replace hC := hC.on hb); (try replace hD := hD.on hb); clear hb)
      | (go_at_call 10; refine (R1 _ K).mono ?_; clear R1; rintro e wa ⟨⟨u1, rfl, hM⟩, hb⟩; replace K := K.trans (hb.mono K.size); clear hb)
      | (go_at_call 10; refine (R2 _ K).mono ?_; clear R2; rintro e wa ⟨⟨u2, rfl, hL⟩, hb⟩; (try replace hM := hM.on hb); replace K := K.trans (hb.mono K.size); clear hb)
      | (go_at_call 10; refine (R3 _ K).mono ?_; clear R3; rintro e wa ⟨⟨u3, rfl, hD⟩, hb⟩; replace K := K.trans (hb.mono K.size); clear hb)
      | (go_at_call 11; refine (HI _ K).mono ?_; rintro e wa ⟨⟨u4, e4, rfl, hA, hE⟩, hb⟩; (try replace hM := hM.on hb); (try replace hL := hL.on hb); replace K := K.trans (hb.mono K.size); clear hb)
      | (go_at_call 13; refine (HO _ K).mono ?_; rintro e wa ⟨⟨u5, e5, rfl, hB, hE⟩, hb⟩; (try replace hL := hL.on hb); replace K := K.trans (hb.mono K.size); clear hb)
      | (go_at_call 14; refine (HG _ K).mono ?_; rintro e wa ⟨⟨u6, e6, rfl, hC, hE⟩, hb⟩; (try replace hD := hD.on hb); replace K := K.trans (hb.mono K.size); clear hb)
      | (go_at_call 12; refine (same.ints_eq rfl hA hM).mono ?_; rintro e wa ⟨rfl, hb⟩; clear hA hM; (replace K := K.trans (hb.mono K.size)); (try replace hA := hA.on hb); (try replace hM := hM.on hb); (try replace hB := hB.on hb); (try replace hL := hL.on hb); (try replace hC := hC.on hb); (try replace hD := hD.on hb); clear hb)
      | (go_at_call 12; refine (same.ints_eq rfl hB hL).mono ?_; rintro e wa ⟨rfl, hb⟩; clear hB hL; (replace K := K.trans (hb.mono K.size)); (try replace hA := hA.on hb); (try replace hM := hM.on hb); (try replace hB := hB.on hb); (try replace hL := hL.on hb); (try replace hC := hC.on hb); (try replace hD := hD.on hb); clear hb)
      | (go_at_call 12; refine (same.ints_eq rfl hC hD).mono ?_; rintro e wa ⟨rfl, hb⟩; clear hC hD; (replace K := K.trans (hb.mono K.size)); (try replace hA := hA.on hb); (try replace hM := hM.on hb); (try replace hB := hB.on hb); (try replace hL := hL.on hb); (try replace hC := hC.on hb); (try replace hD := hD.on hb); clear hb)
      | (go_at_call 12; refine (same.ints_eq rfl hA (hp.IsInts.nil _ _)).mono ?_; rintro e wa ⟨rfl, hb⟩; clear hA; (replace K := K.trans (hb.mono K.size)); (try replace hA := hA.on hb); (try replace hM := hM.on hb); (try replace hB := hB.on hb); (try replace hL := hL.on hb); (try replace hC := hC.on hb); (try replace hD := hD.on hb); clear hb)
      | (go_at_call 12; refine (same.ints_eq rfl hB (hp.IsInts.nil _ _)).mono ?_; rintro e wa ⟨rfl, hb⟩; clear hB; (replace K := K.trans (hb.mono K.size)); (try replace hA := hA.on hb); (try replace hM := hM.on hb); (try replace hB := hB.on hb); (try replace hL := hL.on hb); (try replace hC := hC.on hb); (try replace hD := hD.on hb); clear hb)
      | (go_at_call 12; refine (same.ints_eq rfl hC (hp.IsInts.nil _ _)).mono ?_; rintro e wa ⟨rfl, hb⟩; clear hC; (replace K := K.trans (hb.mono K.size)); (try replace hA := hA.on hb); (try replace hM := hM.on hb); (try replace hB := hB.on hb); (try replace hL := hL.on hb); (try replace hC := hC.on hb); (try replace hD := hD.on hb); clear hb)))
    go_ret
    exact ⟨rfl, K⟩
  · obtain ⟨T3, t3, s3⟩ := exists_any n1 n2
    have R3 : Tells 10 #[.int .i64 n] w T3 := tells_any t3 s3 n1 n2
    have HG : Op 14 #[.int .i64 n] w T3 0 := op_any t3 s3 fun W hb => digits_any n1 n2
    clear t3 s3
    (go_enter Tryd.func3, Tryd.ntmps3; go_wp2_with (first
      | (go_at_call 4; refine (skewed_any _).mono ?_; rintro e wa ⟨rfl, hb⟩; (replace K := K.trans (hb.mono K.size)); (try replace hA := hA.on hb); (try replace hM := hM.on hb); (try replace hB := hB.on hb); (try replace hL := hL.on hb); (try replace hC := hC.on hb); (try replace hD := hD.on hb); clear hb)
      | (go_at_call 5; refine (HF _ K).mono ?_; rintro e wa ⟨rfl, hb⟩; (replace K := K.trans (hb.mono K.size)); (try replace hA := hA.on hb); (try replace hM := hM.on hb); (try replace hB := hB.on hb); (try replace hL := hL.on hb); (try replace hC := hC.on hb); (try replace hD := hD.on hb); clear hb)
      | (go_at_call 7; refine (HC _ K).mono ?_; rintro e wa ⟨rfl, hb⟩; (replace K := K.trans (hb.mono K.size)); (try replace hA := hA.on hb); (try replace hM := hM.on hb); (try replace hB := hB.on hb); (try replace hL := hL.on hb); (try replace hC := hC.on hb); (try replace hD := hD.on hb); clear hb)
      | (go_at_call 6; refine (eas.error_eq (by first | assumption | exact .inl ⟨rfl, rfl⟩ | exact .inr rfl) (hg.on K)).mono ?_; rintro e wa ⟨rfl, hb⟩; (replace K := K.trans (hb.mono K.size)); (try replace hA := hA.on hb); (try replace hM := hM.on hb); (try replace hB := hB.on hb); (try replace hL := hL.on hb); (try replace hC := hC.on hb); (try replace hD := hD.on hb); clear hb)
      | (go_at_call 8; refine (HS _ K).mono ?_; rintro e wa ⟨rfl, hb⟩; (replace K := K.trans (hb.mono K.size)); (try replace hA := hA.on hb); (try replace hM := hM.on hb); (try replace hB := hB.on hb); (try replace hL := hL.on hb); (try replace hC := hC.on hb); (try replace hD := hD.on hb); clear hb)
      | (go_at_call 9; refine (HV _ K).mono ?_; rintro e wa ⟨rfl, hb⟩; (replace K := K.trans (hb.mono K.size)); (try replace hA := hA.on hb); (try replace hM := hM.on hb); (try replace hB := hB.on hb); (try replace hL := hL.on hb); (try replace hC := hC.on hb); (try replace hD := hD.on hb); clear hb)
      | (go_at_call 10; refine (R1 _ K).mono ?_; clear R1; rintro e wa ⟨⟨u1, rfl, hM⟩, hb⟩; replace K := K.trans (hb.mono K.size); clear hb)
      | (go_at_call 10; refine (R2 _ K).mono ?_; clear R2; rintro e wa ⟨⟨u2, rfl, hL⟩, hb⟩; (try replace hM := hM.on hb); replace K := K.trans (hb.mono K.size); clear hb)
      | (go_at_call 10; refine (R3 _ K).mono ?_; clear R3; rintro e wa ⟨⟨u3, rfl, hD⟩, hb⟩; replace K := K.trans (hb.mono K.size); clear hb)
      | (go_at_call 11; refine (HI _ K).mono ?_; rintro e wa ⟨⟨u4, e4, rfl, hA, hE⟩, hb⟩; (try replace hM := hM.on hb); (try replace hL := hL.on hb); replace K := K.trans (hb.mono K.size); clear hb)
      | (go_at_call 13; refine (HO _ K).mono ?_; rintro e wa ⟨⟨u5, e5, rfl, hB, hE⟩, hb⟩; (try replace hL := hL.on hb); replace K := K.trans (hb.mono K.size); clear hb)
      | (go_at_call 14; refine (HG _ K).mono ?_; rintro e wa ⟨⟨u6, e6, rfl, hC, hE⟩, hb⟩; (try replace hD := hD.on hb); replace K := K.trans (hb.mono K.size); clear hb)
      | (go_at_call 12; refine (same.ints_eq rfl hA hM).mono ?_; rintro e wa ⟨rfl, hb⟩; clear hA hM; (replace K := K.trans (hb.mono K.size)); (try replace hA := hA.on hb); (try replace hM := hM.on hb); (try replace hB := hB.on hb); (try replace hL := hL.on hb); (try replace hC := hC.on hb); (try replace hD := hD.on hb); clear hb)
      | (go_at_call 12; refine (same.ints_eq rfl hB hL).mono ?_; rintro e wa ⟨rfl, hb⟩; clear hB hL; (replace K := K.trans (hb.mono K.size)); (try replace hA := hA.on hb); (try replace hM := hM.on hb); (try replace hB := hB.on hb); (try replace hL := hL.on hb); (try replace hC := hC.on hb); (try replace hD := hD.on hb); clear hb)
      | (go_at_call 12; refine (same.ints_eq rfl hC hD).mono ?_; rintro e wa ⟨rfl, hb⟩; clear hC hD; (replace K := K.trans (hb.mono K.size)); (try replace hA := hA.on hb); (try replace hM := hM.on hb); (try replace hB := hB.on hb); (try replace hL := hL.on hb); (try replace hC := hC.on hb); (try replace hD := hD.on hb); clear hb)
      | (go_at_call 12; refine (same.ints_eq rfl hA (hp.IsInts.nil _ _)).mono ?_; rintro e wa ⟨rfl, hb⟩; clear hA; (replace K := K.trans (hb.mono K.size)); (try replace hA := hA.on hb); (try replace hM := hM.on hb); (try replace hB := hB.on hb); (try replace hL := hL.on hb); (try replace hC := hC.on hb); (try replace hD := hD.on hb); clear hb)
      | (go_at_call 12; refine (same.ints_eq rfl hB (hp.IsInts.nil _ _)).mono ?_; rintro e wa ⟨rfl, hb⟩; clear hB; (replace K := K.trans (hb.mono K.size)); (try replace hA := hA.on hb); (try replace hM := hM.on hb); (try replace hB := hB.on hb); (try replace hL := hL.on hb); (try replace hC := hC.on hb); (try replace hD := hD.on hb); clear hb)
      | (go_at_call 12; refine (same.ints_eq rfl hC (hp.IsInts.nil _ _)).mono ?_; rintro e wa ⟨rfl, hb⟩; clear hC; (replace K := K.trans (hb.mono K.size)); (try replace hA := hA.on hb); (try replace hM := hM.on hb); (try replace hB := hB.on hb); (try replace hL := hL.on hb); (try replace hC := hC.on hb); (try replace hD := hD.on hb); clear hb)))
    go_ret
    exact ⟨rfl, K⟩

set_option maxHeartbeats 8000000 in
theorem walk_mid (v : Value) (l : List Int) (n s : Int) (w : World) (h1 : 1 ≤ s) (h2 : s < 1099511627776) (hg : eas.Laid w) (K : Below w.heap.size w w)
    (HF : ∀ W, Below w.heap.size w W → Calls Tryd.prog 5 #[v] W fun e w' => e = .returned (.bool false) ∧ Below W.heap.size W w')
    (HC : ∀ W, Below w.heap.size w W → Calls Tryd.prog 7 #[v] W fun e w' => e = .returned .nilIface ∧ Below W.heap.size W w')
    (HS : ∀ W, Below w.heap.size w W → Calls Tryd.prog 8 #[v] W fun e w' => e = .returned (.int .i64 s) ∧ Below W.heap.size W w')
    (HV : ∀ W, Below w.heap.size w W → Calls Tryd.prog 9 #[v] W fun e w' => e = .returned (.tuple #[.int .i64 s, .nilIface]) ∧ Below W.heap.size W w')
    (T1 : List Int) (R1 : Tells 10 #[.int .i64 (s + 1)] w T1) (HI : Op 11 #[v] w T1 0) (T2 : List Int) (R2 : Tells 10 #[.int .i64 (s - 1)] w T2) (HO : Op 13 #[v] w T2 0) :
    Calls Tryd.prog 3 #[v, .int .i64 n] w fun e w' => e = .returned (.bool true) ∧ Below w.heap.size w w' := by
  rcases (by omega : n < 0 ∨ 1099511627776 < n ∨ (0 ≤ n ∧ n ≤ 1099511627776)) with hn | hn | ⟨n1, n2⟩
  · have HG : Op 14 #[.int .i64 n] w [] 1 := op_none fun W hb => digits_bad (.inl hn)
    (go_enter Tryd.func3, Tryd.ntmps3; go_wp2_with (first
      | (go_at_call 4; refine (skewed_any _).mono ?_; rintro e wa ⟨rfl, hb⟩; (replace K := K.trans (hb.mono K.size)); (try replace hA := hA.on hb); (try replace hM := hM.on hb); (try replace hB := hB.on hb); (try replace hL := hL.on hb); (try replace hC := hC.on hb); (try replace hD := hD.on hb); clear hb)
      | (go_at_call 5; refine (HF _ K).mono ?_; rintro e wa ⟨rfl, hb⟩; (replace K := K.trans (hb.mono K.size)); (try replace hA := hA.on hb); (try replace hM := hM.on hb); (try replace hB := hB.on hb); (try replace hL := hL.on hb); (try replace hC := hC.on hb); (try replace hD := hD.on hb); clear hb)
      | (go_at_call 7; refine (HC _ K).mono ?_; rintro e wa ⟨rfl, hb⟩; (replace K := K.trans (hb.mono K.size)); (try replace hA := hA.on hb); (try replace hM := hM.on hb); (try replace hB := hB.on hb); (try replace hL := hL.on hb); (try replace hC := hC.on hb); (try replace hD := hD.on hb); clear hb)
      | (go_at_call 6; refine (eas.error_eq (by first | assumption | exact .inl ⟨rfl, rfl⟩ | exact .inr rfl) (hg.on K)).mono ?_; rintro e wa ⟨rfl, hb⟩; (replace K := K.trans (hb.mono K.size)); (try replace hA := hA.on hb); (try replace hM := hM.on hb); (try replace hB := hB.on hb); (try replace hL := hL.on hb); (try replace hC := hC.on hb); (try replace hD := hD.on hb); clear hb)
      | (go_at_call 8; refine (HS _ K).mono ?_; rintro e wa ⟨rfl, hb⟩; (replace K := K.trans (hb.mono K.size)); (try replace hA := hA.on hb); (try replace hM := hM.on hb); (try replace hB := hB.on hb); (try replace hL := hL.on hb); (try replace hC := hC.on hb); (try replace hD := hD.on hb); clear hb)
      | (go_at_call 9; refine (HV _ K).mono ?_; rintro e wa ⟨rfl, hb⟩; (replace K := K.trans (hb.mono K.size)); (try replace hA := hA.on hb); (try replace hM := hM.on hb); (try replace hB := hB.on hb); (try replace hL := hL.on hb); (try replace hC := hC.on hb); (try replace hD := hD.on hb); clear hb)
      | (go_at_call 10; refine (R1 _ K).mono ?_; clear R1; rintro e wa ⟨⟨u1, rfl, hM⟩, hb⟩; replace K := K.trans (hb.mono K.size); clear hb)
      | (go_at_call 10; refine (R2 _ K).mono ?_; clear R2; rintro e wa ⟨⟨u2, rfl, hL⟩, hb⟩; (try replace hM := hM.on hb); replace K := K.trans (hb.mono K.size); clear hb)
      | (go_at_call 10; refine (R3 _ K).mono ?_; clear R3; rintro e wa ⟨⟨u3, rfl, hD⟩, hb⟩; replace K := K.trans (hb.mono K.size); clear hb)
      | (go_at_call 11; refine (HI _ K).mono ?_; rintro e wa ⟨⟨u4, e4, rfl, hA, hE⟩, hb⟩; (try replace hM := hM.on hb); (try replace hL := hL.on hb); replace K := K.trans (hb.mono K.size); clear hb)
      | (go_at_call 13; refine (HO _ K).mono ?_; rintro e wa ⟨⟨u5, e5, rfl, hB, hE⟩, hb⟩; (try replace hL := hL.on hb); replace K := K.trans (hb.mono K.size); clear hb)
      | (go_at_call 14; refine (HG _ K).mono ?_; rintro e wa ⟨⟨u6, e6, rfl, hC, hE⟩, hb⟩; (try replace hD := hD.on hb); replace K := K.trans (hb.mono K.size); clear hb)
      | (go_at_call 12; refine (same.ints_eq rfl hA hM).mono ?_; rintro e wa ⟨rfl, hb⟩; clear hA hM; (replace K := K.trans (hb.mono K.size)); (try replace hA := hA.on hb); (try replace hM := hM.on hb); (try replace hB := hB.on hb); (try replace hL := hL.on hb); (try replace hC := hC.on hb); (try replace hD := hD.on hb); clear hb)
      | (go_at_call 12; refine (same.ints_eq rfl hB hL).mono ?_; rintro e wa ⟨rfl, hb⟩; clear hB hL; (replace K := K.trans (hb.mono K.size)); (try replace hA := hA.on hb); (try replace hM := hM.on hb); (try replace hB := hB.on hb); (try replace hL := hL.on hb); (try replace hC := hC.on hb); (try replace hD := hD.on hb); clear hb)
      | (go_at_call 12; refine (same.ints_eq rfl hC hD).mono ?_; rintro e wa ⟨rfl, hb⟩; clear hC hD; (replace K := K.trans (hb.mono K.size)); (try replace hA := hA.on hb); (try replace hM := hM.on hb); (try replace hB := hB.on hb); (try replace hL := hL.on hb); (try replace hC := hC.on hb); (try replace hD := hD.on hb); clear hb)
      | (go_at_call 12; refine (same.ints_eq rfl hA (hp.IsInts.nil _ _)).mono ?_; rintro e wa ⟨rfl, hb⟩; clear hA; (replace K := K.trans (hb.mono K.size)); (try replace hA := hA.on hb); (try replace hM := hM.on hb); (try replace hB := hB.on hb); (try replace hL := hL.on hb); (try replace hC := hC.on hb); (try replace hD := hD.on hb); clear hb)
      | (go_at_call 12; refine (same.ints_eq rfl hB (hp.IsInts.nil _ _)).mono ?_; rintro e wa ⟨rfl, hb⟩; clear hB; (replace K := K.trans (hb.mono K.size)); (try replace hA := hA.on hb); (try replace hM := hM.on hb); (try replace hB := hB.on hb); (try replace hL := hL.on hb); (try replace hC := hC.on hb); (try replace hD := hD.on hb); clear hb)
      | (go_at_call 12; refine (same.ints_eq rfl hC (hp.IsInts.nil _ _)).mono ?_; rintro e wa ⟨rfl, hb⟩; clear hC; (replace K := K.trans (hb.mono K.size)); (try replace hA := hA.on hb); (try replace hM := hM.on hb); (try replace hB := hB.on hb); (try replace hL := hL.on hb); (try replace hC := hC.on hb); (try replace hD := hD.on hb); clear hb)))
    go_ret
    exact ⟨rfl, K⟩
  · have HG : Op 14 #[.int .i64 n] w [] 1 := op_none fun W hb => digits_bad (.inr hn)
    (go_enter Tryd.func3, Tryd.ntmps3; go_wp2_with (first
      | (go_at_call 4; refine (skewed_any _).mono ?_; rintro e wa ⟨rfl, hb⟩; (replace K := K.trans (hb.mono K.size)); (try replace hA := hA.on hb); (try replace hM := hM.on hb); (try replace hB := hB.on hb); (try replace hL := hL.on hb); (try replace hC := hC.on hb); (try replace hD := hD.on hb); clear hb)
      | (go_at_call 5; refine (HF _ K).mono ?_; rintro e wa ⟨rfl, hb⟩; (replace K := K.trans (hb.mono K.size)); (try replace hA := hA.on hb); (try replace hM := hM.on hb); (try replace hB := hB.on hb); (try replace hL := hL.on hb); (try replace hC := hC.on hb); (try replace hD := hD.on hb); clear hb)
      | (go_at_call 7; refine (HC _ K).mono ?_; rintro e wa ⟨rfl, hb⟩; (replace K := K.trans (hb.mono K.size)); (try replace hA := hA.on hb); (try replace hM := hM.on hb); (try replace hB := hB.on hb); (try replace hL := hL.on hb); (try replace hC := hC.on hb); (try replace hD := hD.on hb); clear hb)
      | (go_at_call 6; refine (eas.error_eq (by first | assumption | exact .inl ⟨rfl, rfl⟩ | exact .inr rfl) (hg.on K)).mono ?_; rintro e wa ⟨rfl, hb⟩; (replace K := K.trans (hb.mono K.size)); (try replace hA := hA.on hb); (try replace hM := hM.on hb); (try replace hB := hB.on hb); (try replace hL := hL.on hb); (try replace hC := hC.on hb); (try replace hD := hD.on hb); clear hb)
      | (go_at_call 8; refine (HS _ K).mono ?_; rintro e wa ⟨rfl, hb⟩; (replace K := K.trans (hb.mono K.size)); (try replace hA := hA.on hb); (try replace hM := hM.on hb); (try replace hB := hB.on hb); (try replace hL := hL.on hb); (try replace hC := hC.on hb); (try replace hD := hD.on hb); clear hb)
      | (go_at_call 9; refine (HV _ K).mono ?_; rintro e wa ⟨rfl, hb⟩; (replace K := K.trans (hb.mono K.size)); (try replace hA := hA.on hb); (try replace hM := hM.on hb); (try replace hB := hB.on hb); (try replace hL := hL.on hb); (try replace hC := hC.on hb); (try replace hD := hD.on hb); clear hb)
      | (go_at_call 10; refine (R1 _ K).mono ?_; clear R1; rintro e wa ⟨⟨u1, rfl, hM⟩, hb⟩; replace K := K.trans (hb.mono K.size); clear hb)
      | (go_at_call 10; refine (R2 _ K).mono ?_; clear R2; rintro e wa ⟨⟨u2, rfl, hL⟩, hb⟩; (try replace hM := hM.on hb); replace K := K.trans (hb.mono K.size); clear hb)
      | (go_at_call 10; refine (R3 _ K).mono ?_; clear R3; rintro e wa ⟨⟨u3, rfl, hD⟩, hb⟩; replace K := K.trans (hb.mono K.size); clear hb)
      | (go_at_call 11; refine (HI _ K).mono ?_; rintro e wa ⟨⟨u4, e4, rfl, hA, hE⟩, hb⟩; (try replace hM := hM.on hb); (try replace hL := hL.on hb); replace K := K.trans (hb.mono K.size); clear hb)
      | (go_at_call 13; refine (HO _ K).mono ?_; rintro e wa ⟨⟨u5, e5, rfl, hB, hE⟩, hb⟩; (try replace hL := hL.on hb); replace K := K.trans (hb.mono K.size); clear hb)
      | (go_at_call 14; refine (HG _ K).mono ?_; rintro e wa ⟨⟨u6, e6, rfl, hC, hE⟩, hb⟩; (try replace hD := hD.on hb); replace K := K.trans (hb.mono K.size); clear hb)
      | (go_at_call 12; refine (same.ints_eq rfl hA hM).mono ?_; rintro e wa ⟨rfl, hb⟩; clear hA hM; (replace K := K.trans (hb.mono K.size)); (try replace hA := hA.on hb); (try replace hM := hM.on hb); (try replace hB := hB.on hb); (try replace hL := hL.on hb); (try replace hC := hC.on hb); (try replace hD := hD.on hb); clear hb)
      | (go_at_call 12; refine (same.ints_eq rfl hB hL).mono ?_; rintro e wa ⟨rfl, hb⟩; clear hB hL; (replace K := K.trans (hb.mono K.size)); (try replace hA := hA.on hb); (try replace hM := hM.on hb); (try replace hB := hB.on hb); (try replace hL := hL.on hb); (try replace hC := hC.on hb); (try replace hD := hD.on hb); clear hb)
      | (go_at_call 12; refine (same.ints_eq rfl hC hD).mono ?_; rintro e wa ⟨rfl, hb⟩; clear hC hD; (replace K := K.trans (hb.mono K.size)); (try replace hA := hA.on hb); (try replace hM := hM.on hb); (try replace hB := hB.on hb); (try replace hL := hL.on hb); (try replace hC := hC.on hb); (try replace hD := hD.on hb); clear hb)
      | (go_at_call 12; refine (same.ints_eq rfl hA (hp.IsInts.nil _ _)).mono ?_; rintro e wa ⟨rfl, hb⟩; clear hA; (replace K := K.trans (hb.mono K.size)); (try replace hA := hA.on hb); (try replace hM := hM.on hb); (try replace hB := hB.on hb); (try replace hL := hL.on hb); (try replace hC := hC.on hb); (try replace hD := hD.on hb); clear hb)
      | (go_at_call 12; refine (same.ints_eq rfl hB (hp.IsInts.nil _ _)).mono ?_; rintro e wa ⟨rfl, hb⟩; clear hB; (replace K := K.trans (hb.mono K.size)); (try replace hA := hA.on hb); (try replace hM := hM.on hb); (try replace hB := hB.on hb); (try replace hL := hL.on hb); (try replace hC := hC.on hb); (try replace hD := hD.on hb); clear hb)
      | (go_at_call 12; refine (same.ints_eq rfl hC (hp.IsInts.nil _ _)).mono ?_; rintro e wa ⟨rfl, hb⟩; clear hC; (replace K := K.trans (hb.mono K.size)); (try replace hA := hA.on hb); (try replace hM := hM.on hb); (try replace hB := hB.on hb); (try replace hL := hL.on hb); (try replace hC := hC.on hb); (try replace hD := hD.on hb); clear hb)))
    go_ret
    exact ⟨rfl, K⟩
  · obtain ⟨T3, t3, s3⟩ := exists_any n1 n2
    have R3 : Tells 10 #[.int .i64 n] w T3 := tells_any t3 s3 n1 n2
    have HG : Op 14 #[.int .i64 n] w T3 0 := op_any t3 s3 fun W hb => digits_any n1 n2
    clear t3 s3
    (go_enter Tryd.func3, Tryd.ntmps3; go_wp2_with (first
      | (go_at_call 4; refine (skewed_any _).mono ?_; rintro e wa ⟨rfl, hb⟩; (replace K := K.trans (hb.mono K.size)); (try replace hA := hA.on hb); (try replace hM := hM.on hb); (try replace hB := hB.on hb); (try replace hL := hL.on hb); (try replace hC := hC.on hb); (try replace hD := hD.on hb); clear hb)
      | (go_at_call 5; refine (HF _ K).mono ?_; rintro e wa ⟨rfl, hb⟩; (replace K := K.trans (hb.mono K.size)); (try replace hA := hA.on hb); (try replace hM := hM.on hb); (try replace hB := hB.on hb); (try replace hL := hL.on hb); (try replace hC := hC.on hb); (try replace hD := hD.on hb); clear hb)
      | (go_at_call 7; refine (HC _ K).mono ?_; rintro e wa ⟨rfl, hb⟩; (replace K := K.trans (hb.mono K.size)); (try replace hA := hA.on hb); (try replace hM := hM.on hb); (try replace hB := hB.on hb); (try replace hL := hL.on hb); (try replace hC := hC.on hb); (try replace hD := hD.on hb); clear hb)
      | (go_at_call 6; refine (eas.error_eq (by first | assumption | exact .inl ⟨rfl, rfl⟩ | exact .inr rfl) (hg.on K)).mono ?_; rintro e wa ⟨rfl, hb⟩; (replace K := K.trans (hb.mono K.size)); (try replace hA := hA.on hb); (try replace hM := hM.on hb); (try replace hB := hB.on hb); (try replace hL := hL.on hb); (try replace hC := hC.on hb); (try replace hD := hD.on hb); clear hb)
      | (go_at_call 8; refine (HS _ K).mono ?_; rintro e wa ⟨rfl, hb⟩; (replace K := K.trans (hb.mono K.size)); (try replace hA := hA.on hb); (try replace hM := hM.on hb); (try replace hB := hB.on hb); (try replace hL := hL.on hb); (try replace hC := hC.on hb); (try replace hD := hD.on hb); clear hb)
      | (go_at_call 9; refine (HV _ K).mono ?_; rintro e wa ⟨rfl, hb⟩; (replace K := K.trans (hb.mono K.size)); (try replace hA := hA.on hb); (try replace hM := hM.on hb); (try replace hB := hB.on hb); (try replace hL := hL.on hb); (try replace hC := hC.on hb); (try replace hD := hD.on hb); clear hb)
      | (go_at_call 10; refine (R1 _ K).mono ?_; clear R1; rintro e wa ⟨⟨u1, rfl, hM⟩, hb⟩; replace K := K.trans (hb.mono K.size); clear hb)
      | (go_at_call 10; refine (R2 _ K).mono ?_; clear R2; rintro e wa ⟨⟨u2, rfl, hL⟩, hb⟩; (try replace hM := hM.on hb); replace K := K.trans (hb.mono K.size); clear hb)
      | (go_at_call 10; refine (R3 _ K).mono ?_; clear R3; rintro e wa ⟨⟨u3, rfl, hD⟩, hb⟩; replace K := K.trans (hb.mono K.size); clear hb)
      | (go_at_call 11; refine (HI _ K).mono ?_; rintro e wa ⟨⟨u4, e4, rfl, hA, hE⟩, hb⟩; (try replace hM := hM.on hb); (try replace hL := hL.on hb); replace K := K.trans (hb.mono K.size); clear hb)
      | (go_at_call 13; refine (HO _ K).mono ?_; rintro e wa ⟨⟨u5, e5, rfl, hB, hE⟩, hb⟩; (try replace hL := hL.on hb); replace K := K.trans (hb.mono K.size); clear hb)
      | (go_at_call 14; refine (HG _ K).mono ?_; rintro e wa ⟨⟨u6, e6, rfl, hC, hE⟩, hb⟩; (try replace hD := hD.on hb); replace K := K.trans (hb.mono K.size); clear hb)
      | (go_at_call 12; refine (same.ints_eq rfl hA hM).mono ?_; rintro e wa ⟨rfl, hb⟩; clear hA hM; (replace K := K.trans (hb.mono K.size)); (try replace hA := hA.on hb); (try replace hM := hM.on hb); (try replace hB := hB.on hb); (try replace hL := hL.on hb); (try replace hC := hC.on hb); (try replace hD := hD.on hb); clear hb)
      | (go_at_call 12; refine (same.ints_eq rfl hB hL).mono ?_; rintro e wa ⟨rfl, hb⟩; clear hB hL; (replace K := K.trans (hb.mono K.size)); (try replace hA := hA.on hb); (try replace hM := hM.on hb); (try replace hB := hB.on hb); (try replace hL := hL.on hb); (try replace hC := hC.on hb); (try replace hD := hD.on hb); clear hb)
      | (go_at_call 12; refine (same.ints_eq rfl hC hD).mono ?_; rintro e wa ⟨rfl, hb⟩; clear hC hD; (replace K := K.trans (hb.mono K.size)); (try replace hA := hA.on hb); (try replace hM := hM.on hb); (try replace hB := hB.on hb); (try replace hL := hL.on hb); (try replace hC := hC.on hb); (try replace hD := hD.on hb); clear hb)
      | (go_at_call 12; refine (same.ints_eq rfl hA (hp.IsInts.nil _ _)).mono ?_; rintro e wa ⟨rfl, hb⟩; clear hA; (replace K := K.trans (hb.mono K.size)); (try replace hA := hA.on hb); (try replace hM := hM.on hb); (try replace hB := hB.on hb); (try replace hL := hL.on hb); (try replace hC := hC.on hb); (try replace hD := hD.on hb); clear hb)
      | (go_at_call 12; refine (same.ints_eq rfl hB (hp.IsInts.nil _ _)).mono ?_; rintro e wa ⟨rfl, hb⟩; clear hB; (replace K := K.trans (hb.mono K.size)); (try replace hA := hA.on hb); (try replace hM := hM.on hb); (try replace hB := hB.on hb); (try replace hL := hL.on hb); (try replace hC := hC.on hb); (try replace hD := hD.on hb); clear hb)
      | (go_at_call 12; refine (same.ints_eq rfl hC (hp.IsInts.nil _ _)).mono ?_; rintro e wa ⟨rfl, hb⟩; clear hC; (replace K := K.trans (hb.mono K.size)); (try replace hA := hA.on hb); (try replace hM := hM.on hb); (try replace hB := hB.on hb); (try replace hL := hL.on hb); (try replace hC := hC.on hb); (try replace hD := hD.on hb); clear hb)))
    go_ret
    exact ⟨rfl, K⟩

set_option maxHeartbeats 8000000 in
theorem walk_top (v : Value) (l : List Int) (n s : Int) (w : World) (h1 : 1099511627776 ≤ s) (h2 : s ≤ 1099511627777) (hg : eas.Laid w) (K : Below w.heap.size w w)
    (HF : ∀ W, Below w.heap.size w W → Calls Tryd.prog 5 #[v] W fun e w' => e = .returned (.bool false) ∧ Below W.heap.size W w')
    (HC : ∀ W, Below w.heap.size w W → Calls Tryd.prog 7 #[v] W fun e w' => e = .returned .nilIface ∧ Below W.heap.size W w')
    (HS : ∀ W, Below w.heap.size w W → Calls Tryd.prog 8 #[v] W fun e w' => e = .returned (.int .i64 s) ∧ Below W.heap.size W w')
    (HV : ∀ W, Below w.heap.size w W → Calls Tryd.prog 9 #[v] W fun e w' => e = .returned (.tuple #[.int .i64 s, .nilIface]) ∧ Below W.heap.size W w')
    (HI : Op 11 #[v] w [] 1) (T2 : List Int) (R2 : Tells 10 #[.int .i64 (s - 1)] w T2) (HO : Op 13 #[v] w T2 0) :
    Calls Tryd.prog 3 #[v, .int .i64 n] w fun e w' => e = .returned (.bool true) ∧ Below w.heap.size w w' := by
  rcases (by omega : n < 0 ∨ 1099511627776 < n ∨ (0 ≤ n ∧ n ≤ 1099511627776)) with hn | hn | ⟨n1, n2⟩
  · have HG : Op 14 #[.int .i64 n] w [] 1 := op_none fun W hb => digits_bad (.inl hn)
    (go_enter Tryd.func3, Tryd.ntmps3; go_wp2_with (first
      | (go_at_call 4; refine (skewed_any _).mono ?_; rintro e wa ⟨rfl, hb⟩; (replace K := K.trans (hb.mono K.size)); (try replace hA := hA.on hb); (try replace hM := hM.on hb); (try replace hB := hB.on hb); (try replace hL := hL.on hb); (try replace hC := hC.on hb); (try replace hD := hD.on hb); clear hb)
      | (go_at_call 5; refine (HF _ K).mono ?_; rintro e wa ⟨rfl, hb⟩; (replace K := K.trans (hb.mono K.size)); (try replace hA := hA.on hb); (try replace hM := hM.on hb); (try replace hB := hB.on hb); (try replace hL := hL.on hb); (try replace hC := hC.on hb); (try replace hD := hD.on hb); clear hb)
      | (go_at_call 7; refine (HC _ K).mono ?_; rintro e wa ⟨rfl, hb⟩; (replace K := K.trans (hb.mono K.size)); (try replace hA := hA.on hb); (try replace hM := hM.on hb); (try replace hB := hB.on hb); (try replace hL := hL.on hb); (try replace hC := hC.on hb); (try replace hD := hD.on hb); clear hb)
      | (go_at_call 6; refine (eas.error_eq (by first | assumption | exact .inl ⟨rfl, rfl⟩ | exact .inr rfl) (hg.on K)).mono ?_; rintro e wa ⟨rfl, hb⟩; (replace K := K.trans (hb.mono K.size)); (try replace hA := hA.on hb); (try replace hM := hM.on hb); (try replace hB := hB.on hb); (try replace hL := hL.on hb); (try replace hC := hC.on hb); (try replace hD := hD.on hb); clear hb)
      | (go_at_call 8; refine (HS _ K).mono ?_; rintro e wa ⟨rfl, hb⟩; (replace K := K.trans (hb.mono K.size)); (try replace hA := hA.on hb); (try replace hM := hM.on hb); (try replace hB := hB.on hb); (try replace hL := hL.on hb); (try replace hC := hC.on hb); (try replace hD := hD.on hb); clear hb)
      | (go_at_call 9; refine (HV _ K).mono ?_; rintro e wa ⟨rfl, hb⟩; (replace K := K.trans (hb.mono K.size)); (try replace hA := hA.on hb); (try replace hM := hM.on hb); (try replace hB := hB.on hb); (try replace hL := hL.on hb); (try replace hC := hC.on hb); (try replace hD := hD.on hb); clear hb)
      | (go_at_call 10; refine (R1 _ K).mono ?_; clear R1; rintro e wa ⟨⟨u1, rfl, hM⟩, hb⟩; replace K := K.trans (hb.mono K.size); clear hb)
      | (go_at_call 10; refine (R2 _ K).mono ?_; clear R2; rintro e wa ⟨⟨u2, rfl, hL⟩, hb⟩; (try replace hM := hM.on hb); replace K := K.trans (hb.mono K.size); clear hb)
      | (go_at_call 10; refine (R3 _ K).mono ?_; clear R3; rintro e wa ⟨⟨u3, rfl, hD⟩, hb⟩; replace K := K.trans (hb.mono K.size); clear hb)
      | (go_at_call 11; refine (HI _ K).mono ?_; rintro e wa ⟨⟨u4, e4, rfl, hA, hE⟩, hb⟩; (try replace hM := hM.on hb); (try replace hL := hL.on hb); replace K := K.trans (hb.mono K.size); clear hb)
      | (go_at_call 13; refine (HO _ K).mono ?_; rintro e wa ⟨⟨u5, e5, rfl, hB, hE⟩, hb⟩; (try replace hL := hL.on hb); replace K := K.trans (hb.mono K.size); clear hb)
      | (go_at_call 14; refine (HG _ K).mono ?_; rintro e wa ⟨⟨u6, e6, rfl, hC, hE⟩, hb⟩; (try replace hD := hD.on hb); replace K := K.trans (hb.mono K.size); clear hb)
      | (go_at_call 12; refine (same.ints_eq rfl hA hM).mono ?_; rintro e wa ⟨rfl, hb⟩; clear hA hM; (replace K := K.trans (hb.mono K.size)); (try replace hA := hA.on hb); (try replace hM := hM.on hb); (try replace hB := hB.on hb); (try replace hL := hL.on hb); (try replace hC := hC.on hb); (try replace hD := hD.on hb); clear hb)
      | (go_at_call 12; refine (same.ints_eq rfl hB hL).mono ?_; rintro e wa ⟨rfl, hb⟩; clear hB hL; (replace K := K.trans (hb.mono K.size)); (try replace hA := hA.on hb); (try replace hM := hM.on hb); (try replace hB := hB.on hb); (try replace hL := hL.on hb); (try replace hC := hC.on hb); (try replace hD := hD.on hb); clear hb)
      | (go_at_call 12; refine (same.ints_eq rfl hC hD).mono ?_; rintro e wa ⟨rfl, hb⟩; clear hC hD; (replace K := K.trans (hb.mono K.size)); (try replace hA := hA.on hb); (try replace hM := hM.on hb); (try replace hB := hB.on hb); (try replace hL := hL.on hb); (try replace hC := hC.on hb); (try replace hD := hD.on hb); clear hb)
      | (go_at_call 12; refine (same.ints_eq rfl hA (hp.IsInts.nil _ _)).mono ?_; rintro e wa ⟨rfl, hb⟩; clear hA; (replace K := K.trans (hb.mono K.size)); (try replace hA := hA.on hb); (try replace hM := hM.on hb); (try replace hB := hB.on hb); (try replace hL := hL.on hb); (try replace hC := hC.on hb); (try replace hD := hD.on hb); clear hb)
      | (go_at_call 12; refine (same.ints_eq rfl hB (hp.IsInts.nil _ _)).mono ?_; rintro e wa ⟨rfl, hb⟩; clear hB; (replace K := K.trans (hb.mono K.size)); (try replace hA := hA.on hb); (try replace hM := hM.on hb); (try replace hB := hB.on hb); (try replace hL := hL.on hb); (try replace hC := hC.on hb); (try replace hD := hD.on hb); clear hb)
      | (go_at_call 12; refine (same.ints_eq rfl hC (hp.IsInts.nil _ _)).mono ?_; rintro e wa ⟨rfl, hb⟩; clear hC; (replace K := K.trans (hb.mono K.size)); (try replace hA := hA.on hb); (try replace hM := hM.on hb); (try replace hB := hB.on hb); (try replace hL := hL.on hb); (try replace hC := hC.on hb); (try replace hD := hD.on hb); clear hb)))
    go_ret
    exact ⟨rfl, K⟩
  · have HG : Op 14 #[.int .i64 n] w [] 1 := op_none fun W hb => digits_bad (.inr hn)
    (go_enter Tryd.func3, Tryd.ntmps3; go_wp2_with (first
      | (go_at_call 4; refine (skewed_any _).mono ?_; rintro e wa ⟨rfl, hb⟩; (replace K := K.trans (hb.mono K.size)); (try replace hA := hA.on hb); (try replace hM := hM.on hb); (try replace hB := hB.on hb); (try replace hL := hL.on hb); (try replace hC := hC.on hb); (try replace hD := hD.on hb); clear hb)
      | (go_at_call 5; refine (HF _ K).mono ?_; rintro e wa ⟨rfl, hb⟩; (replace K := K.trans (hb.mono K.size)); (try replace hA := hA.on hb); (try replace hM := hM.on hb); (try replace hB := hB.on hb); (try replace hL := hL.on hb); (try replace hC := hC.on hb); (try replace hD := hD.on hb); clear hb)
      | (go_at_call 7; refine (HC _ K).mono ?_; rintro e wa ⟨rfl, hb⟩; (replace K := K.trans (hb.mono K.size)); (try replace hA := hA.on hb); (try replace hM := hM.on hb); (try replace hB := hB.on hb); (try replace hL := hL.on hb); (try replace hC := hC.on hb); (try replace hD := hD.on hb); clear hb)
      | (go_at_call 6; refine (eas.error_eq (by first | assumption | exact .inl ⟨rfl, rfl⟩ | exact .inr rfl) (hg.on K)).mono ?_; rintro e wa ⟨rfl, hb⟩; (replace K := K.trans (hb.mono K.size)); (try replace hA := hA.on hb); (try replace hM := hM.on hb); (try replace hB := hB.on hb); (try replace hL := hL.on hb); (try replace hC := hC.on hb); (try replace hD := hD.on hb); clear hb)
      | (go_at_call 8; refine (HS _ K).mono ?_; rintro e wa ⟨rfl, hb⟩; (replace K := K.trans (hb.mono K.size)); (try replace hA := hA.on hb); (try replace hM := hM.on hb); (try replace hB := hB.on hb); (try replace hL := hL.on hb); (try replace hC := hC.on hb); (try replace hD := hD.on hb); clear hb)
      | (go_at_call 9; refine (HV _ K).mono ?_; rintro e wa ⟨rfl, hb⟩; (replace K := K.trans (hb.mono K.size)); (try replace hA := hA.on hb); (try replace hM := hM.on hb); (try replace hB := hB.on hb); (try replace hL := hL.on hb); (try replace hC := hC.on hb); (try replace hD := hD.on hb); clear hb)
      | (go_at_call 10; refine (R1 _ K).mono ?_; clear R1; rintro e wa ⟨⟨u1, rfl, hM⟩, hb⟩; replace K := K.trans (hb.mono K.size); clear hb)
      | (go_at_call 10; refine (R2 _ K).mono ?_; clear R2; rintro e wa ⟨⟨u2, rfl, hL⟩, hb⟩; (try replace hM := hM.on hb); replace K := K.trans (hb.mono K.size); clear hb)
      | (go_at_call 10; refine (R3 _ K).mono ?_; clear R3; rintro e wa ⟨⟨u3, rfl, hD⟩, hb⟩; replace K := K.trans (hb.mono K.size); clear hb)
      | (go_at_call 11; refine (HI _ K).mono ?_; rintro e wa ⟨⟨u4, e4, rfl, hA, hE⟩, hb⟩; (try replace hM := hM.on hb); (try replace hL := hL.on hb); replace K := K.trans (hb.mono K.size); clear hb)
      | (go_at_call 13; refine (HO _ K).mono ?_; rintro e wa ⟨⟨u5, e5, rfl, hB, hE⟩, hb⟩; (try replace hL := hL.on hb); replace K := K.trans (hb.mono K.size); clear hb)
      | (go_at_call 14; refine (HG _ K).mono ?_; rintro e wa ⟨⟨u6, e6, rfl, hC, hE⟩, hb⟩; (try replace hD := hD.on hb); replace K := K.trans (hb.mono K.size); clear hb)
      | (go_at_call 12; refine (same.ints_eq rfl hA hM).mono ?_; rintro e wa ⟨rfl, hb⟩; clear hA hM; (replace K := K.trans (hb.mono K.size)); (try replace hA := hA.on hb); (try replace hM := hM.on hb); (try replace hB := hB.on hb); (try replace hL := hL.on hb); (try replace hC := hC.on hb); (try replace hD := hD.on hb); clear hb)
      | (go_at_call 12; refine (same.ints_eq rfl hB hL).mono ?_; rintro e wa ⟨rfl, hb⟩; clear hB hL; (replace K := K.trans (hb.mono K.size)); (try replace hA := hA.on hb); (try replace hM := hM.on hb); (try replace hB := hB.on hb); (try replace hL := hL.on hb); (try replace hC := hC.on hb); (try replace hD := hD.on hb); clear hb)
      | (go_at_call 12; refine (same.ints_eq rfl hC hD).mono ?_; rintro e wa ⟨rfl, hb⟩; clear hC hD; (replace K := K.trans (hb.mono K.size)); (try replace hA := hA.on hb); (try replace hM := hM.on hb); (try replace hB := hB.on hb); (try replace hL := hL.on hb); (try replace hC := hC.on hb); (try replace hD := hD.on hb); clear hb)
      | (go_at_call 12; refine (same.ints_eq rfl hA (hp.IsInts.nil _ _)).mono ?_; rintro e wa ⟨rfl, hb⟩; clear hA; (replace K := K.trans (hb.mono K.size)); (try replace hA := hA.on hb); (try replace hM := hM.on hb); (try replace hB := hB.on hb); (try replace hL := hL.on hb); (try replace hC := hC.on hb); (try replace hD := hD.on hb); clear hb)
      | (go_at_call 12; refine (same.ints_eq rfl hB (hp.IsInts.nil _ _)).mono ?_; rintro e wa ⟨rfl, hb⟩; clear hB; (replace K := K.trans (hb.mono K.size)); (try replace hA := hA.on hb); (try replace hM := hM.on hb); (try replace hB := hB.on hb); (try replace hL := hL.on hb); (try replace hC := hC.on hb); (try replace hD := hD.on hb); clear hb)
      | (go_at_call 12; refine (same.ints_eq rfl hC (hp.IsInts.nil _ _)).mono ?_; rintro e wa ⟨rfl, hb⟩; clear hC; (replace K := K.trans (hb.mono K.size)); (try replace hA := hA.on hb); (try replace hM := hM.on hb); (try replace hB := hB.on hb); (try replace hL := hL.on hb); (try replace hC := hC.on hb); (try replace hD := hD.on hb); clear hb)))
    go_ret
    exact ⟨rfl, K⟩
  · obtain ⟨T3, t3, s3⟩ := exists_any n1 n2
    have R3 : Tells 10 #[.int .i64 n] w T3 := tells_any t3 s3 n1 n2
    have HG : Op 14 #[.int .i64 n] w T3 0 := op_any t3 s3 fun W hb => digits_any n1 n2
    clear t3 s3
    (go_enter Tryd.func3, Tryd.ntmps3; go_wp2_with (first
      | (go_at_call 4; refine (skewed_any _).mono ?_; rintro e wa ⟨rfl, hb⟩; (replace K := K.trans (hb.mono K.size)); (try replace hA := hA.on hb); (try replace hM := hM.on hb); (try replace hB := hB.on hb); (try replace hL := hL.on hb); (try replace hC := hC.on hb); (try replace hD := hD.on hb); clear hb)
      | (go_at_call 5; refine (HF _ K).mono ?_; rintro e wa ⟨rfl, hb⟩; (replace K := K.trans (hb.mono K.size)); (try replace hA := hA.on hb); (try replace hM := hM.on hb); (try replace hB := hB.on hb); (try replace hL := hL.on hb); (try replace hC := hC.on hb); (try replace hD := hD.on hb); clear hb)
      | (go_at_call 7; refine (HC _ K).mono ?_; rintro e wa ⟨rfl, hb⟩; (replace K := K.trans (hb.mono K.size)); (try replace hA := hA.on hb); (try replace hM := hM.on hb); (try replace hB := hB.on hb); (try replace hL := hL.on hb); (try replace hC := hC.on hb); (try replace hD := hD.on hb); clear hb)
      | (go_at_call 6; refine (eas.error_eq (by first | assumption | exact .inl ⟨rfl, rfl⟩ | exact .inr rfl) (hg.on K)).mono ?_; rintro e wa ⟨rfl, hb⟩; (replace K := K.trans (hb.mono K.size)); (try replace hA := hA.on hb); (try replace hM := hM.on hb); (try replace hB := hB.on hb); (try replace hL := hL.on hb); (try replace hC := hC.on hb); (try replace hD := hD.on hb); clear hb)
      | (go_at_call 8; refine (HS _ K).mono ?_; rintro e wa ⟨rfl, hb⟩; (replace K := K.trans (hb.mono K.size)); (try replace hA := hA.on hb); (try replace hM := hM.on hb); (try replace hB := hB.on hb); (try replace hL := hL.on hb); (try replace hC := hC.on hb); (try replace hD := hD.on hb); clear hb)
      | (go_at_call 9; refine (HV _ K).mono ?_; rintro e wa ⟨rfl, hb⟩; (replace K := K.trans (hb.mono K.size)); (try replace hA := hA.on hb); (try replace hM := hM.on hb); (try replace hB := hB.on hb); (try replace hL := hL.on hb); (try replace hC := hC.on hb); (try replace hD := hD.on hb); clear hb)
      | (go_at_call 10; refine (R1 _ K).mono ?_; clear R1; rintro e wa ⟨⟨u1, rfl, hM⟩, hb⟩; replace K := K.trans (hb.mono K.size); clear hb)
      | (go_at_call 10; refine (R2 _ K).mono ?_; clear R2; rintro e wa ⟨⟨u2, rfl, hL⟩, hb⟩; (try replace hM := hM.on hb); replace K := K.trans (hb.mono K.size); clear hb)
      | (go_at_call 10; refine (R3 _ K).mono ?_; clear R3; rintro e wa ⟨⟨u3, rfl, hD⟩, hb⟩; replace K := K.trans (hb.mono K.size); clear hb)
      | (go_at_call 11; refine (HI _ K).mono ?_; rintro e wa ⟨⟨u4, e4, rfl, hA, hE⟩, hb⟩; (try replace hM := hM.on hb); (try replace hL := hL.on hb); replace K := K.trans (hb.mono K.size); clear hb)
      | (go_at_call 13; refine (HO _ K).mono ?_; rintro e wa ⟨⟨u5, e5, rfl, hB, hE⟩, hb⟩; (try replace hL := hL.on hb); replace K := K.trans (hb.mono K.size); clear hb)
      | (go_at_call 14; refine (HG _ K).mono ?_; rintro e wa ⟨⟨u6, e6, rfl, hC, hE⟩, hb⟩; (try replace hD := hD.on hb); replace K := K.trans (hb.mono K.size); clear hb)
      | (go_at_call 12; refine (same.ints_eq rfl hA hM).mono ?_; rintro e wa ⟨rfl, hb⟩; clear hA hM; (replace K := K.trans (hb.mono K.size)); (try replace hA := hA.on hb); (try replace hM := hM.on hb); (try replace hB := hB.on hb); (try replace hL := hL.on hb); (try replace hC := hC.on hb); (try replace hD := hD.on hb); clear hb)
      | (go_at_call 12; refine (same.ints_eq rfl hB hL).mono ?_; rintro e wa ⟨rfl, hb⟩; clear hB hL; (replace K := K.trans (hb.mono K.size)); (try replace hA := hA.on hb); (try replace hM := hM.on hb); (try replace hB := hB.on hb); (try replace hL := hL.on hb); (try replace hC := hC.on hb); (try replace hD := hD.on hb); clear hb)
      | (go_at_call 12; refine (same.ints_eq rfl hC hD).mono ?_; rintro e wa ⟨rfl, hb⟩; clear hC hD; (replace K := K.trans (hb.mono K.size)); (try replace hA := hA.on hb); (try replace hM := hM.on hb); (try replace hB := hB.on hb); (try replace hL := hL.on hb); (try replace hC := hC.on hb); (try replace hD := hD.on hb); clear hb)
      | (go_at_call 12; refine (same.ints_eq rfl hA (hp.IsInts.nil _ _)).mono ?_; rintro e wa ⟨rfl, hb⟩; clear hA; (replace K := K.trans (hb.mono K.size)); (try replace hA := hA.on hb); (try replace hM := hM.on hb); (try replace hB := hB.on hb); (try replace hL := hL.on hb); (try replace hC := hC.on hb); (try replace hD := hD.on hb); clear hb)
      | (go_at_call 12; refine (same.ints_eq rfl hB (hp.IsInts.nil _ _)).mono ?_; rintro e wa ⟨rfl, hb⟩; clear hB; (replace K := K.trans (hb.mono K.size)); (try replace hA := hA.on hb); (try replace hM := hM.on hb); (try replace hB := hB.on hb); (try replace hL := hL.on hb); (try replace hC := hC.on hb); (try replace hD := hD.on hb); clear hb)
      | (go_at_call 12; refine (same.ints_eq rfl hC (hp.IsInts.nil _ _)).mono ?_; rintro e wa ⟨rfl, hb⟩; clear hC; (replace K := K.trans (hb.mono K.size)); (try replace hA := hA.on hb); (try replace hM := hM.on hb); (try replace hB := hB.on hb); (try replace hL := hL.on hb); (try replace hC := hC.on hb); (try replace hD := hD.on hb); clear hb)))
    go_ret
    exact ⟨rfl, K⟩

set_option maxHeartbeats 8000000 in
theorem walk_over (v : Value) (l : List Int) (n s : Int) (w : World) (h1 : 1099511627777 < s) (h2 : s ≤ 2199023255550) (hg : eas.Laid w) (K : Below w.heap.size w w)
    (HF : ∀ W, Below w.heap.size w W → Calls Tryd.prog 5 #[v] W fun e w' => e = .returned (.bool false) ∧ Below W.heap.size W w')
    (HC : ∀ W, Below w.heap.size w W → Calls Tryd.prog 7 #[v] W fun e w' => e = .returned .nilIface ∧ Below W.heap.size W w')
    (HS : ∀ W, Below w.heap.size w W → Calls Tryd.prog 8 #[v] W fun e w' => e = .returned (.int .i64 s) ∧ Below W.heap.size W w')
    (HV : ∀ W, Below w.heap.size w W → Calls Tryd.prog 9 #[v] W fun e w' => e = .returned (.tuple #[.int .i64 s, .nilIface]) ∧ Below W.heap.size W w')
    (HI : Op 11 #[v] w [] 1) (HO : Op 13 #[v] w [] 1) :
    Calls Tryd.prog 3 #[v, .int .i64 n] w fun e w' => e = .returned (.bool true) ∧ Below w.heap.size w w' := by
  rcases (by omega : n < 0 ∨ 1099511627776 < n ∨ (0 ≤ n ∧ n ≤ 1099511627776)) with hn | hn | ⟨n1, n2⟩
  · have HG : Op 14 #[.int .i64 n] w [] 1 := op_none fun W hb => digits_bad (.inl hn)
    (go_enter Tryd.func3, Tryd.ntmps3; go_wp2_with (first
      | (go_at_call 4; refine (skewed_any _).mono ?_; rintro e wa ⟨rfl, hb⟩; (replace K := K.trans (hb.mono K.size)); (try replace hA := hA.on hb); (try replace hM := hM.on hb); (try replace hB := hB.on hb); (try replace hL := hL.on hb); (try replace hC := hC.on hb); (try replace hD := hD.on hb); clear hb)
      | (go_at_call 5; refine (HF _ K).mono ?_; rintro e wa ⟨rfl, hb⟩; (replace K := K.trans (hb.mono K.size)); (try replace hA := hA.on hb); (try replace hM := hM.on hb); (try replace hB := hB.on hb); (try replace hL := hL.on hb); (try replace hC := hC.on hb); (try replace hD := hD.on hb); clear hb)
      | (go_at_call 7; refine (HC _ K).mono ?_; rintro e wa ⟨rfl, hb⟩; (replace K := K.trans (hb.mono K.size)); (try replace hA := hA.on hb); (try replace hM := hM.on hb); (try replace hB := hB.on hb); (try replace hL := hL.on hb); (try replace hC := hC.on hb); (try replace hD := hD.on hb); clear hb)
      | (go_at_call 6; refine (eas.error_eq (by first | assumption | exact .inl ⟨rfl, rfl⟩ | exact .inr rfl) (hg.on K)).mono ?_; rintro e wa ⟨rfl, hb⟩; (replace K := K.trans (hb.mono K.size)); (try replace hA := hA.on hb); (try replace hM := hM.on hb); (try replace hB := hB.on hb); (try replace hL := hL.on hb); (try replace hC := hC.on hb); (try replace hD := hD.on hb); clear hb)
      | (go_at_call 8; refine (HS _ K).mono ?_; rintro e wa ⟨rfl, hb⟩; (replace K := K.trans (hb.mono K.size)); (try replace hA := hA.on hb); (try replace hM := hM.on hb); (try replace hB := hB.on hb); (try replace hL := hL.on hb); (try replace hC := hC.on hb); (try replace hD := hD.on hb); clear hb)
      | (go_at_call 9; refine (HV _ K).mono ?_; rintro e wa ⟨rfl, hb⟩; (replace K := K.trans (hb.mono K.size)); (try replace hA := hA.on hb); (try replace hM := hM.on hb); (try replace hB := hB.on hb); (try replace hL := hL.on hb); (try replace hC := hC.on hb); (try replace hD := hD.on hb); clear hb)
      | (go_at_call 10; refine (R1 _ K).mono ?_; clear R1; rintro e wa ⟨⟨u1, rfl, hM⟩, hb⟩; replace K := K.trans (hb.mono K.size); clear hb)
      | (go_at_call 10; refine (R2 _ K).mono ?_; clear R2; rintro e wa ⟨⟨u2, rfl, hL⟩, hb⟩; (try replace hM := hM.on hb); replace K := K.trans (hb.mono K.size); clear hb)
      | (go_at_call 10; refine (R3 _ K).mono ?_; clear R3; rintro e wa ⟨⟨u3, rfl, hD⟩, hb⟩; replace K := K.trans (hb.mono K.size); clear hb)
      | (go_at_call 11; refine (HI _ K).mono ?_; rintro e wa ⟨⟨u4, e4, rfl, hA, hE⟩, hb⟩; (try replace hM := hM.on hb); (try replace hL := hL.on hb); replace K := K.trans (hb.mono K.size); clear hb)
      | (go_at_call 13; refine (HO _ K).mono ?_; rintro e wa ⟨⟨u5, e5, rfl, hB, hE⟩, hb⟩; (try replace hL := hL.on hb); replace K := K.trans (hb.mono K.size); clear hb)
      | (go_at_call 14; refine (HG _ K).mono ?_; rintro e wa ⟨⟨u6, e6, rfl, hC, hE⟩, hb⟩; (try replace hD := hD.on hb); replace K := K.trans (hb.mono K.size); clear hb)
      | (go_at_call 12; refine (same.ints_eq rfl hA hM).mono ?_; rintro e wa ⟨rfl, hb⟩; clear hA hM; (replace K := K.trans (hb.mono K.size)); (try replace hA := hA.on hb); (try replace hM := hM.on hb); (try replace hB := hB.on hb); (try replace hL := hL.on hb); (try replace hC := hC.on hb); (try replace hD := hD.on hb); clear hb)
      | (go_at_call 12; refine (same.ints_eq rfl hB hL).mono ?_; rintro e wa ⟨rfl, hb⟩; clear hB hL; (replace K := K.trans (hb.mono K.size)); (try replace hA := hA.on hb); (try replace hM := hM.on hb); (try replace hB := hB.on hb); (try replace hL := hL.on hb); (try replace hC := hC.on hb); (try replace hD := hD.on hb); clear hb)
      | (go_at_call 12; refine (same.ints_eq rfl hC hD).mono ?_; rintro e wa ⟨rfl, hb⟩; clear hC hD; (replace K := K.trans (hb.mono K.size)); (try replace hA := hA.on hb); (try replace hM := hM.on hb); (try replace hB := hB.on hb); (try replace hL := hL.on hb); (try replace hC := hC.on hb); (try replace hD := hD.on hb); clear hb)
      | (go_at_call 12; refine (same.ints_eq rfl hA (hp.IsInts.nil _ _)).mono ?_; rintro e wa ⟨rfl, hb⟩; clear hA; (replace K := K.trans (hb.mono K.size)); (try replace hA := hA.on hb); (try replace hM := hM.on hb); (try replace hB := hB.on hb); (try replace hL := hL.on hb); (try replace hC := hC.on hb); (try replace hD := hD.on hb); clear hb)
      | (go_at_call 12; refine (same.ints_eq rfl hB (hp.IsInts.nil _ _)).mono ?_; rintro e wa ⟨rfl, hb⟩; clear hB; (replace K := K.trans (hb.mono K.size)); (try replace hA := hA.on hb); (try replace hM := hM.on hb); (try replace hB := hB.on hb); (try replace hL := hL.on hb); (try replace hC := hC.on hb); (try replace hD := hD.on hb); clear hb)
      | (go_at_call 12; refine (same.ints_eq rfl hC (hp.IsInts.nil _ _)).mono ?_; rintro e wa ⟨rfl, hb⟩; clear hC; (replace K := K.trans (hb.mono K.size)); (try replace hA := hA.on hb); (try replace hM := hM.on hb); (try replace hB := hB.on hb); (try replace hL := hL.on hb); (try replace hC := hC.on hb); (try replace hD := hD.on hb); clear hb)))
    go_ret
    exact ⟨rfl, K⟩
  · have HG : Op 14 #[.int .i64 n] w [] 1 := op_none fun W hb => digits_bad (.inr hn)
    (go_enter Tryd.func3, Tryd.ntmps3; go_wp2_with (first
      | (go_at_call 4; refine (skewed_any _).mono ?_; rintro e wa ⟨rfl, hb⟩; (replace K := K.trans (hb.mono K.size)); (try replace hA := hA.on hb); (try replace hM := hM.on hb); (try replace hB := hB.on hb); (try replace hL := hL.on hb); (try replace hC := hC.on hb); (try replace hD := hD.on hb); clear hb)
      | (go_at_call 5; refine (HF _ K).mono ?_; rintro e wa ⟨rfl, hb⟩; (replace K := K.trans (hb.mono K.size)); (try replace hA := hA.on hb); (try replace hM := hM.on hb); (try replace hB := hB.on hb); (try replace hL := hL.on hb); (try replace hC := hC.on hb); (try replace hD := hD.on hb); clear hb)
      | (go_at_call 7; refine (HC _ K).mono ?_; rintro e wa ⟨rfl, hb⟩; (replace K := K.trans (hb.mono K.size)); (try replace hA := hA.on hb); (try replace hM := hM.on hb); (try replace hB := hB.on hb); (try replace hL := hL.on hb); (try replace hC := hC.on hb); (try replace hD := hD.on hb); clear hb)
      | (go_at_call 6; refine (eas.error_eq (by first | assumption | exact .inl ⟨rfl, rfl⟩ | exact .inr rfl) (hg.on K)).mono ?_; rintro e wa ⟨rfl, hb⟩; (replace K := K.trans (hb.mono K.size)); (try replace hA := hA.on hb); (try replace hM := hM.on hb); (try replace hB := hB.on hb); (try replace hL := hL.on hb); (try replace hC := hC.on hb); (try replace hD := hD.on hb); clear hb)
      | (go_at_call 8; refine (HS _ K).mono ?_; rintro e wa ⟨rfl, hb⟩; (replace K := K.trans (hb.mono K.size)); (try replace hA := hA.on hb); (try replace hM := hM.on hb); (try replace hB := hB.on hb); (try replace hL := hL.on hb); (try replace hC := hC.on hb); (try replace hD := hD.on hb); clear hb)
      | (go_at_call 9; refine (HV _ K).mono ?_; rintro e wa ⟨rfl, hb⟩; (replace K := K.trans (hb.mono K.size)); (try replace hA := hA.on hb); (try replace hM := hM.on hb); (try replace hB := hB.on hb); (try replace hL := hL.on hb); (try replace hC := hC.on hb); (try replace hD := hD.on hb); clear hb)
      | (go_at_call 10; refine (R1 _ K).mono ?_; clear R1; rintro e wa ⟨⟨u1, rfl, hM⟩, hb⟩; replace K := K.trans (hb.mono K.size); clear hb)
      | (go_at_call 10; refine (R2 _ K).mono ?_; clear R2; rintro e wa ⟨⟨u2, rfl, hL⟩, hb⟩; (try replace hM := hM.on hb); replace K := K.trans (hb.mono K.size); clear hb)
      | (go_at_call 10; refine (R3 _ K).mono ?_; clear R3; rintro e wa ⟨⟨u3, rfl, hD⟩, hb⟩; replace K := K.trans (hb.mono K.size); clear hb)
      | (go_at_call 11; refine (HI _ K).mono ?_; rintro e wa ⟨⟨u4, e4, rfl, hA, hE⟩, hb⟩; (try replace hM := hM.on hb); (try replace hL := hL.on hb); replace K := K.trans (hb.mono K.size); clear hb)
      | (go_at_call 13; refine (HO _ K).mono ?_; rintro e wa ⟨⟨u5, e5, rfl, hB, hE⟩, hb⟩; (try replace hL := hL.on hb); replace K := K.trans (hb.mono K.size); clear hb)
      | (go_at_call 14; refine (HG _ K).mono ?_; rintro e wa ⟨⟨u6, e6, rfl, hC, hE⟩, hb⟩; (try replace hD := hD.on hb); replace K := K.trans (hb.mono K.size); clear hb)
      | (go_at_call 12; refine (same.ints_eq rfl hA hM).mono ?_; rintro e wa ⟨rfl, hb⟩; clear hA hM; (replace K := K.trans (hb.mono K.size)); (try replace hA := hA.on hb); (try replace hM := hM.on hb); (try replace hB := hB.on hb); (try replace hL := hL.on hb); (try replace hC := hC.on hb); (try replace hD := hD.on hb); clear hb)
      | (go_at_call 12; refine (same.ints_eq rfl hB hL).mono ?_; rintro e wa ⟨rfl, hb⟩; clear hB hL; (replace K := K.trans (hb.mono K.size)); (try replace hA := hA.on hb); (try replace hM := hM.on hb); (try replace hB := hB.on hb); (try replace hL := hL.on hb); (try replace hC := hC.on hb); (try replace hD := hD.on hb); clear hb)
      | (go_at_call 12; refine (same.ints_eq rfl hC hD).mono ?_; rintro e wa ⟨rfl, hb⟩; clear hC hD; (replace K := K.trans (hb.mono K.size)); (try replace hA := hA.on hb); (try replace hM := hM.on hb); (try replace hB := hB.on hb); (try replace hL := hL.on hb); (try replace hC := hC.on hb); (try replace hD := hD.on hb); clear hb)
      | (go_at_call 12; refine (same.ints_eq rfl hA (hp.IsInts.nil _ _)).mono ?_; rintro e wa ⟨rfl, hb⟩; clear hA; (replace K := K.trans (hb.mono K.size)); (try replace hA := hA.on hb); (try replace hM := hM.on hb); (try replace hB := hB.on hb); (try replace hL := hL.on hb); (try replace hC := hC.on hb); (try replace hD := hD.on hb); clear hb)
      | (go_at_call 12; refine (same.ints_eq rfl hB (hp.IsInts.nil _ _)).mono ?_; rintro e wa ⟨rfl, hb⟩; clear hB; (replace K := K.trans (hb.mono K.size)); (try replace hA := hA.on hb); (try replace hM := hM.on hb); (try replace hB := hB.on hb); (try replace hL := hL.on hb); (try replace hC := hC.on hb); (try replace hD := hD.on hb); clear hb)
      | (go_at_call 12; refine (same.ints_eq rfl hC (hp.IsInts.nil _ _)).mono ?_; rintro e wa ⟨rfl, hb⟩; clear hC; (replace K := K.trans (hb.mono K.size)); (try replace hA := hA.on hb); (try replace hM := hM.on hb); (try replace hB := hB.on hb); (try replace hL := hL.on hb); (try replace hC := hC.on hb); (try replace hD := hD.on hb); clear hb)))
    go_ret
    exact ⟨rfl, K⟩
  · obtain ⟨T3, t3, s3⟩ := exists_any n1 n2
    have R3 : Tells 10 #[.int .i64 n] w T3 := tells_any t3 s3 n1 n2
    have HG : Op 14 #[.int .i64 n] w T3 0 := op_any t3 s3 fun W hb => digits_any n1 n2
    clear t3 s3
    (go_enter Tryd.func3, Tryd.ntmps3; go_wp2_with (first
      | (go_at_call 4; refine (skewed_any _).mono ?_; rintro e wa ⟨rfl, hb⟩; (replace K := K.trans (hb.mono K.size)); (try replace hA := hA.on hb); (try replace hM := hM.on hb); (try replace hB := hB.on hb); (try replace hL := hL.on hb); (try replace hC := hC.on hb); (try replace hD := hD.on hb); clear hb)
      | (go_at_call 5; refine (HF _ K).mono ?_; rintro e wa ⟨rfl, hb⟩; (replace K := K.trans (hb.mono K.size)); (try replace hA := hA.on hb); (try replace hM := hM.on hb); (try replace hB := hB.on hb); (try replace hL := hL.on hb); (try replace hC := hC.on hb); (try replace hD := hD.on hb); clear hb)
      | (go_at_call 7; refine (HC _ K).mono ?_; rintro e wa ⟨rfl, hb⟩; (replace K := K.trans (hb.mono K.size)); (try replace hA := hA.on hb); (try replace hM := hM.on hb); (try replace hB := hB.on hb); (try replace hL := hL.on hb); (try replace hC := hC.on hb); (try replace hD := hD.on hb); clear hb)
      | (go_at_call 6; refine (eas.error_eq (by first | assumption | exact .inl ⟨rfl, rfl⟩ | exact .inr rfl) (hg.on K)).mono ?_; rintro e wa ⟨rfl, hb⟩; (replace K := K.trans (hb.mono K.size)); (try replace hA := hA.on hb); (try replace hM := hM.on hb); (try replace hB := hB.on hb); (try replace hL := hL.on hb); (try replace hC := hC.on hb); (try replace hD := hD.on hb); clear hb)
      | (go_at_call 8; refine (HS _ K).mono ?_; rintro e wa ⟨rfl, hb⟩; (replace K := K.trans (hb.mono K.size)); (try replace hA := hA.on hb); (try replace hM := hM.on hb); (try replace hB := hB.on hb); (try replace hL := hL.on hb); (try replace hC := hC.on hb); (try replace hD := hD.on hb); clear hb)
      | (go_at_call 9; refine (HV _ K).mono ?_; rintro e wa ⟨rfl, hb⟩; (replace K := K.trans (hb.mono K.size)); (try replace hA := hA.on hb); (try replace hM := hM.on hb); (try replace hB := hB.on hb); (try replace hL := hL.on hb); (try replace hC := hC.on hb); (try replace hD := hD.on hb); clear hb)
      | (go_at_call 10; refine (R1 _ K).mono ?_; clear R1; rintro e wa ⟨⟨u1, rfl, hM⟩, hb⟩; replace K := K.trans (hb.mono K.size); clear hb)
      | (go_at_call 10; refine (R2 _ K).mono ?_; clear R2; rintro e wa ⟨⟨u2, rfl, hL⟩, hb⟩; (try replace hM := hM.on hb); replace K := K.trans (hb.mono K.size); clear hb)
      | (go_at_call 10; refine (R3 _ K).mono ?_; clear R3; rintro e wa ⟨⟨u3, rfl, hD⟩, hb⟩; replace K := K.trans (hb.mono K.size); clear hb)
      | (go_at_call 11; refine (HI _ K).mono ?_; rintro e wa ⟨⟨u4, e4, rfl, hA, hE⟩, hb⟩; (try replace hM := hM.on hb); (try replace hL := hL.on hb); replace K := K.trans (hb.mono K.size); clear hb)
      | (go_at_call 13; refine (HO _ K).mono ?_; rintro e wa ⟨⟨u5, e5, rfl, hB, hE⟩, hb⟩; (try replace hL := hL.on hb); replace K := K.trans (hb.mono K.size); clear hb)
      | (go_at_call 14; refine (HG _ K).mono ?_; rintro e wa ⟨⟨u6, e6, rfl, hC, hE⟩, hb⟩; (try replace hD := hD.on hb); replace K := K.trans (hb.mono K.size); clear hb)
      | (go_at_call 12; refine (same.ints_eq rfl hA hM).mono ?_; rintro e wa ⟨rfl, hb⟩; clear hA hM; (replace K := K.trans (hb.mono K.size)); (try replace hA := hA.on hb); (try replace hM := hM.on hb); (try replace hB := hB.on hb); (try replace hL := hL.on hb); (try replace hC := hC.on hb); (try replace hD := hD.on hb); clear hb)
      | (go_at_call 12; refine (same.ints_eq rfl hB hL).mono ?_; rintro e wa ⟨rfl, hb⟩; clear hB hL; (replace K := K.trans (hb.mono K.size)); (try replace hA := hA.on hb); (try replace hM := hM.on hb); (try replace hB := hB.on hb); (try replace hL := hL.on hb); (try replace hC := hC.on hb); (try replace hD := hD.on hb); clear hb)
      | (go_at_call 12; refine (same.ints_eq rfl hC hD).mono ?_; rintro e wa ⟨rfl, hb⟩; clear hC hD; (replace K := K.trans (hb.mono K.size)); (try replace hA := hA.on hb); (try replace hM := hM.on hb); (try replace hB := hB.on hb); (try replace hL := hL.on hb); (try replace hC := hC.on hb); (try replace hD := hD.on hb); clear hb)
      | (go_at_call 12; refine (same.ints_eq rfl hA (hp.IsInts.nil _ _)).mono ?_; rintro e wa ⟨rfl, hb⟩; clear hA; (replace K := K.trans (hb.mono K.size)); (try replace hA := hA.on hb); (try replace hM := hM.on hb); (try replace hB := hB.on hb); (try replace hL := hL.on hb); (try replace hC := hC.on hb); (try replace hD := hD.on hb); clear hb)
      | (go_at_call 12; refine (same.ints_eq rfl hB (hp.IsInts.nil _ _)).mono ?_; rintro e wa ⟨rfl, hb⟩; clear hB; (replace K := K.trans (hb.mono K.size)); (try replace hA := hA.on hb); (try replace hM := hM.on hb); (try replace hB := hB.on hb); (try replace hL := hL.on hb); (try replace hC := hC.on hb); (try replace hD := hD.on hb); clear hb)
      | (go_at_call 12; refine (same.ints_eq rfl hC (hp.IsInts.nil _ _)).mono ?_; rintro e wa ⟨rfl, hb⟩; clear hC; (replace K := K.trans (hb.mono K.size)); (try replace hA := hA.on hb); (try replace hM := hM.on hb); (try replace hB := hB.on hb); (try replace hL := hL.on hb); (try replace hC := hC.on hb); (try replace hD := hD.on hb); clear hb)))
    go_ret
    exact ⟨rfl, K⟩

theorem walk (v : Value) (l : List Int) (n : Int) (w : World) (hv : hp.IsInts w w.heap.size v l) (hg : eas.Laid w) :
    Calls Tryd.prog 3 #[v, .int .i64 n] w fun e w' => e = .returned (.bool true) ∧ Below w.heap.size w w' := by
  by_cases hl : Ok l
  · have K := Below.refl w.heap.size w
    have HF : ∀ W, Below w.heap.size w W → Calls Tryd.prog 5 #[v] W fun e w' => e = .returned (.bool false) ∧ Below W.heap.size W w' := fun W hb => fault_raw v l W false (hv.on hb) ⟨(fun h => by cases h), fun h => absurd hl h⟩
    have HC : ∀ W, Below w.heap.size w W → Calls Tryd.prog 7 #[v] W fun e w' => e = .returned .nilIface ∧ Below W.heap.size W w' := fun W hb => check_raw v l W .nilIface (hv.on hb) (.inl ⟨hl, rfl⟩)
    have HS : ∀ W, Below w.heap.size w W → _ := fun W hb => sumOf_any (hv.on hb) hl
    have HV : ∀ W, Below w.heap.size w W → _ := fun W hb => value_ok (hv.on hb) hl
    have s0 := hl.nonneg
    have s9 := hl.le
    have inc1 : ∀ T, Ok T → sum T = sum l + 1 → sum l + 1 ≤ 1099511627776 → Op 11 #[v] w T 0 := fun T hT hs h2 => op_any hT hs fun W hb => inc_any (hv.on hb) hl h2
    have inc2 : 1099511627776 < sum l + 1 → Op 11 #[v] w [] 1 := fun h2 => op_none fun W hb => inc_out (hv.on hb) hl h2
    have dec1 : ∀ T, Ok T → sum T = sum l + -1 → 1 ≤ sum l → sum l ≤ 1099511627777 → Op 13 #[v] w T 0 := fun T hT hs h1 h2 => op_any hT hs fun W hb => dec_any (hv.on hb) hl h1 h2
    have dec2 : sum l < 1 ∨ 1099511627777 < sum l → Op 13 #[v] w [] 1 := fun h => op_none fun W hb => dec_out (hv.on hb) hl h
    have ref : ∀ n, 0 ≤ n → n ≤ 1099511627776 → ∃ T, Ok T ∧ sum T = n ∧ Tells 10 #[.int .i64 n] w T := fun n h1 h2 => by
      obtain ⟨T, hT, hs⟩ := exists_any h1 h2
      exact ⟨T, hT, hs, tells_any hT hs h1 h2⟩
    generalize sum l = s at *
    rcases (by omega : s = 0 ∨ (1 ≤ s ∧ s < 1099511627776) ∨ (1099511627776 ≤ s ∧ s ≤ 1099511627777) ∨ 1099511627777 < s) with h | ⟨h1, h2⟩ | ⟨h1, h2⟩ | h
    · obtain ⟨T1, a1, b1, R1⟩ := ref (s + 1) (by omega) (by omega)
      exact walk_zero v l n s w h hg K HF HC HS HV T1 R1 (inc1 T1 a1 b1 (by omega)) (dec2 (by omega))
    · obtain ⟨T1, a1, b1, R1⟩ := ref (s + 1) (by omega) (by omega)
      obtain ⟨T2, a2, b2, R2⟩ := ref (s - 1) (by omega) (by omega)
      exact walk_mid v l n s w h1 h2 hg K HF HC HS HV T1 R1 (inc1 T1 a1 b1 (by omega)) T2 R2 (dec1 T2 a2 (by omega) (by omega) (by omega))
    · obtain ⟨T2, a2, b2, R2⟩ := ref (s - 1) (by omega) (by omega)
      exact walk_top v l n s w h1 h2 hg K HF HC HS HV (inc2 (by omega)) T2 R2 (dec1 T2 a2 (by omega) (by omega) (by omega))
    · exact walk_over v l n s w h s9 hg K HF HC HS HV (inc2 (by omega)) (dec2 (by omega))
  · exact walk_bad v l n w hv hl hg
end Go.Proofs.YtokfogeplifedaaDoor.skewTells
