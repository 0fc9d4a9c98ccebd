/- The walk of SplayAsks. -/
import Derived.Test.YtlaflhnnddfkkaaSplWalks
import Derived.Test.YtlaflhnnddfkkaaSplShape
import Derived.Test.YtlaflhnnddfkkaaSchInner
import Derived.Test.YtlaflhnnddfkkaaOnce
import Derived.Test.YtlaflhnnddfkkaaRelFirst
namespace Go.Proofs.Ytlaflhnnddfkkaa.spl
open Go Go.RowKit
open Go.Proofs.Ytlaflhnnddfkkaa.sch
/-- what Find leaves -/
def IsFd (w : World) (u : Value) (x : Int) (l : List Int) (b : Bool) : Prop := ∃ q, u = .tuple #[rv q l.length, .bool b] ∧ IsSetG (Near x l) w w.heap.size (rv q l.length) l
theorem IsFd.on {w w' : World} {u : Value} {x : Int} {l : List Int} {b : Bool} (h : IsFd w u x l b) (hb : Below w.heap.size w w') : IsFd w' u x l b := by
  obtain ⟨q, hu, hs⟩ := h
  exact ⟨q, hu, hs.on hb⟩
theorem find_fd {v : Value} {l : List Int} {x : Int} {w : World} {b : Bool} (hv : IsSet w w.heap.size v l) (hbd : l.length ≤ 17592186044416) (hb : Hid (b = decide (x ∈ l))) :
    Calls Try.prog 23 #[v, .int .i64 x] w fun e w' => (∃ u, e = .returned u ∧ IsFd w' u x l b) ∧ Below w.heap.size w w' := by
  rw [hb.out]
  exact (find_any hv hbd).mono fun _ _ ⟨⟨q, he, hq⟩, hb⟩ => ⟨⟨_, he, q, rfl, hq⟩, hb⟩
end Go.Proofs.Ytlaflhnnddfkkaa.spl
namespace Go.Proofs.Ytlaflhnnddfkkaa.splayAsks
open Go Go.RowKit Go.Proofs.Ytlaflhnnddfkkaa.spl Go.Proofs.Ytlaflhnnddfkkaa.sch Go.Proofs.Ytlaflhnnddfkkaa.same
set_option linter.unusedVariables false

theorem has_to {v : Value} {l : List Int} {x : Int} {w : World} {b : Bool} (hv : IsSet w w.heap.size v l) (hb : Hid (b = decide (x ∈ l))) :
    Calls Try.prog 18 #[v, .int .i64 x] w fun e w' => e = .returned (.bool b) ∧ Below w.heap.size w w' := set_has hv hb.out

set_option maxRecDepth 100000 in
set_option maxHeartbeats 16000000 in
theorem walk (v0 : Value) (l0 : List Int) (v1 : Value) (l1 : List Int) (w : World) (i0 : hp.IsInts w w.heap.size v0 l0) (i1 : hp.IsInts w w.heap.size v1 l1) (bd : l0.length + l1.length ≤ 1048576) :
    Calls Try.prog 6 #[v0, v1] w fun e w' => e = .returned (.bool true) ∧ Below w.heap.size w w' := by
  have hul := uniq_le l0
  have H9 := fun W (hW : Below w.heap.size w W) => once_any (i0.on hW) (by omega)
  have hmem : ∀ x, x ∈ uniq l0 ↔ x ∈ l0 := fun x => mem_uniq
  obtain ⟨K, hK⟩ : ∃ K, uniq l0 = K := ⟨_, rfl⟩
  rw [hK] at hul H9 hmem
  have H1 := fun W (hW : Below w.heap.size w W) => of_as hK (i0.on hW) (by omega)
  have hlK : Hid (K.length ≤ 1048576) := Lib.hid (by omega)
  have hlK2 : Hid (K.length ≤ 17592186044416) := Lib.hid (by omega)
  have hof := fun x W (hW : Below w.heap.size w W) => often_any v0 l0 x W (i0.on hW)
  have i0' := i0
  obtain ⟨a0, c0, rfl, -⟩ := i0'
  have KK := Below.refl w.heap.size w
  have i1' := i1
  obtain ⟨a1, c1, rfl, hn1, hm1, hwf1, hc1⟩ := i1'
  have hl1 : l1.length ≤ 1048576 := by omega
  have hl0 : l0.length ≤ 1048576 := by omega
  replace hmem := Lib.hid hmem
  clear bd hn1 hm1 i1 hul hK i0
  go_enter Try.func6, Try.ntmps6
  go_wp2_with (first
    | (go_at_call 9; (with_reducible refine (known_any _).mono ?_); rintro e wa ⟨rfl, hb⟩; replace KK := st KK hb; clear hb)
    | (go_at_call 22; (with_reducible refine (H1 _ KK).mono ?_); clear H1; rintro e wb ⟨⟨q1, rfl, hX⟩, hb⟩; have hA := hp.Blk.new wb [.pointer q1, .int .i64 K.length] tyH; replace KK := st KK hb; have hgb := KK.size; replace KK := st KK ((Below.refl _ _).alloc (Nat.le_refl _) (.cells #[.pointer q1, .int .i64 K.length] tyH)); replace hX := hX.on ((Below.refl _ _).alloc (Nat.le_refl _) (.cells #[.pointer q1, .int .i64 K.length] tyH)); clear hb; ((try clear cA eA); obtain ⟨cA, eA⟩ := (hA).cells2)))
  obtain ⟨γ, hγ⟩ : ∃ γ, wb.heap.size = γ := ⟨_, rfl⟩
  have hC : hp.Blk ((wb.alloc (.cells #[.pointer q1, .int .i64 K.length] tyH)).alloc (.cells #[.pointer q1, .int .i64 K.length] tyH)) (γ + 1) tyH [.pointer q1, .int .i64 K.length] := hp.Blk.newAt (by simp [hγ])
  replace hA := hA.on ((Below.refl _ _).alloc (Nat.le_refl _) (.cells #[.pointer q1, .int .i64 K.length] tyH))
  replace hX := hX.on ((Below.refl _ _).alloc (Nat.le_refl _) (.cells #[.pointer q1, .int .i64 K.length] tyH))
  replace KK := st KK ((Below.refl _ _).alloc (Nat.le_refl _) (.cells #[.pointer q1, .int .i64 K.length] tyH))
  rw [hγ] at hA hgb ⊢
  clear cA eA
  go_loopw [8] (fun i wr => ∃ (k : Nat) (q : Option Addr), i = .int .i64 k ∧ k ≤ l1.length ∧ Below w.heap.size w wr ∧ hp.Blk wr γ tyH [.pointer q1, .int .i64 K.length] ∧ hp.Blk wr (γ + 1) tyH [.pointer q, .int .i64 K.length] ∧ IsSet wr wr.heap.size (rv q1 K.length) K ∧ IsSet wr wr.heap.size (rv q K.length) K) (fun i _ => l1.length - (intOf i).toNat)
  case atStart => exact ⟨0, q1, rfl, Nat.zero_le _, KK, hA, hC, hX, hX⟩
  case round =>
    clear KK hX hA hC hγ
    obtain ⟨k, q, rfl, hk, hb, hA, hC, hX, hQ⟩ := hrel
    by_cases hlt : k < l1.length
    · obtain ⟨b, off, rfl, hbb, hce⟩ := hc1 (by omega)
      have hcx := (hb.cell (p := ⟨b, off + k, none⟩) hbb).trans (hce k hlt)
      have hwx : (Lit.int .i64 (l1.getD k 0)).wf = true := hwf1 _ (by simp [hlt])
      have hbw : b < wr.heap.size := Nat.lt_of_lt_of_le hbb hb.size
      have hcy := fun W (hW : Below w.heap.size w W) => (hW.cell (p := ⟨b, off + k, none⟩) hbb).trans (hce k hlt)
      obtain ⟨x, hx⟩ : ∃ x, l1.getD k 0 = x := ⟨_, rfl⟩
      rw [hx] at hcx hwx
      rw [hx] at hcy
      obtain ⟨bb, eb⟩ : ∃ bb, bb = decide (x ∈ K) := ⟨_, rfl⟩
      replace eb := Lib.hid eb
      have hoq : ∃ n : Nat, n ≤ 1048576 ∧ oft l0 x = n ∧ ((bb = true ∧ 0 < n) ∨ (bb = false ∧ n = 0)) := by
        refine ⟨_, Nat.le_trans (oft_le l0 x) hl0, rfl, ?_⟩
        by_cases h : x ∈ l0
        · refine .inl ⟨?_, ?_⟩
          · rw [eb.out]; simpa using (hmem.out x).2 h
          · rcases Nat.eq_zero_or_pos (oft l0 x) with h0 | h0
            · exact absurd h (oft_zero.1 h0)
            · exact h0
        · refine .inr ⟨?_, oft_zero.2 h⟩
          rw [eb.out]; simpa using fun h2 => h ((hmem.out x).1 h2)
      have hox := hof x
      obtain ⟨n, hnl, hn, hbn⟩ := hoq
      rw [hn] at hox
      have hfd := fun W (hW : Below wr.heap.size wr W) => find_fd (hQ.on hW) hlK2.out eb
      have lA := hA.lt
      have lC := hC.lt
      clear hc1 hce hwf1 hx hwx hn hof H9 hmem
      rcases hbn with ⟨rfl, hn0⟩ | ⟨rfl, rfl⟩ <;> (
      go_wp2_with fail
      apply rel.region_first (C := fun w' => Below wr.heap.size wr w') (X := fun w w' => Below w.heap.size w w') 10 8 (by kernel_rfl) (by rfl) (by intro _ _ _ h; exact h) (by kernel_rfl) (by kernel_rfl) (by kernel_rfl) ((Below.refl _ _).drew)
      ((apply rel.walk_val; (focus (intro wq hq hf; (obtain ⟨d0, d1⟩ := ((hC).below hq (hC).lt).cells2); go_wp2; refine ⟨hq, Below.refl _ _, ?_, rfl⟩; (show rel.slot _ _ = _; simp only [rel.slot_lit, List.getD_cons_succ, List.getD_cons_zero]; (first | done | exact rfl)))); (simp only [rel.put_lit, List.set_cons_succ, List.set_cons_zero])))
      (apply rel.walk_val; (focus (intro wq hq hf; go_wp2; refine ⟨hq, Below.refl _ _, ?_, rfl⟩; (show rel.slot _ _ = _; simp only [rel.slot_lit, List.getD_cons_succ, List.getD_cons_zero]; (first | done | exact rfl)))); (simp only [rel.put_lit, List.set_cons_succ, List.set_cons_zero]))
      (apply rel.walk_val; (focus (intro wq hq hf; go_wp2; refine ⟨hq, Below.refl _ _, ?_, rfl⟩; (show rel.slot _ _ = _; simp only [rel.slot_lit, List.getD_cons_succ, List.getD_cons_zero]; (first | done | exact rfl)))); (simp only [rel.put_lit, List.set_cons_succ, List.set_cons_zero]))
      (apply rel.walk_val; (focus (intro wq hq hf; go_wp2; refine ⟨hq, Below.refl _ _, ?_, rfl⟩; (show rel.slot _ _ = _; simp only [rel.slot_lit, List.getD_cons_succ, List.getD_cons_zero]; (first | done | exact rfl)))); (simp only [rel.put_lit, List.set_cons_succ, List.set_cons_zero]))
      ((apply rel.walk_val; (focus (intro wq hq hf; (have d0 := (hq.cell (p := ⟨b, off + k, none⟩) hbw).trans hcx); go_wp2; refine ⟨hq, Below.refl _ _, ?_, rfl⟩; (show rel.slot _ _ = _; simp only [rel.slot_lit, List.getD_cons_succ, List.getD_cons_zero]; (first | done | exact rfl)))); (simp only [rel.put_lit, List.set_cons_succ, List.set_cons_zero])))
      (apply rel.walk_rel (fun u w' => spl.IsFd w' u (x) (K) (_)) ⟨_, rfl⟩ (fun u w1 w2 h1 h2 => h2.on h1); (focus (intro wq hq hf; go_wp2_with (go_at_call 23; with_reducible refine (hfd _ hq).mono ?_; rintro e w'' ⟨⟨u, rfl, hu⟩, hb⟩); refine ⟨hq.trans (hb.mono hq.size), hb, ?_, rfl⟩; (show spl.IsFd _ (rel.slot _ _) _ _ _; simp only [rel.slot_lit, List.getD_cons_succ, List.getD_cons_zero]; exact hu))); (intro u wu _ hu; obtain ⟨pf, rfl, -⟩ := hu; (simp only [rel.put_lit, List.set_cons_succ, List.set_cons_zero])))
      (apply rel.walk_rel (fun u w' => spl.IsFd w' u (x) (K) (_)) ⟨_, rfl⟩ (fun u w1 w2 h1 h2 => h2.on h1); (focus (intro wq hq hf; have h0 := hf.get 0 rfl rfl; go_wp2; refine ⟨hq, Below.refl _ _, ?_, rfl⟩; (show spl.IsFd _ (rel.slot _ _) _ _ _; simp only [rel.slot_lit, List.getD_cons_succ, List.getD_cons_zero]; exact h0))); (intro u wu _ hu; obtain ⟨pm, rfl, -⟩ := hu; (simp only [rel.put_lit, List.set_cons_succ, List.set_cons_zero])))
      (apply rel.walk_rel (fun u w' => spl.IsSet w' w'.heap.size u (K)) ⟨_, rfl⟩ (fun u w1 w2 h1 h2 => h2.on h1); (focus (intro wq hq hf; (obtain ⟨q', he, h0⟩ := hf.get 0 rfl rfl); cases he; go_wp2; refine ⟨hq, Below.refl _ _, ?_, rfl⟩; (show spl.IsSet _ _ (rel.slot _ _) _; simp only [rel.slot_lit, List.getD_cons_succ, List.getD_cons_zero]; exact h0.any))); (intro u wu _ hu; obtain ⟨pe, rfl⟩ := hu.val; (simp only [rel.put_lit, List.set_cons_succ, List.set_cons_zero])))
      (apply rel.walk_val; (focus (intro wq hq hf; go_wp2; refine ⟨hq, Below.refl _ _, ?_, rfl⟩; (show rel.slot _ _ = _; simp only [rel.slot_lit, List.getD_cons_succ, List.getD_cons_zero]; (first | done | exact rfl)))); (simp only [rel.put_lit, List.set_cons_succ, List.set_cons_zero]))
      (apply rel.walk_rel (fun u w' => ∃ γ, u = .pointer (some ⟨γ, 0, none⟩) ∧ wr.heap.size ≤ γ ∧ hp.Blk w' γ tyH [.pointer none, .int .i64 0]) ⟨_, rfl⟩ (fun u w1 w2 h1 h2 => by obtain ⟨γ, he, hl, hk⟩ := h2; exact ⟨γ, he, hl, hk.on h1⟩); (focus (intro wq hq hf; go_wp2; refine ⟨hq.alloc hq.size _, (Below.refl _ _).alloc (Nat.le_refl _) _, ?_, rfl⟩; (show ∃ γ, rel.slot _ _ = _ ∧ _; simp only [rel.slot_lit, List.getD_cons_succ, List.getD_cons_zero]; exact ⟨_, rfl, hq.size, hp.Blk.new _ _ _⟩))); (intro u wu _ hu; obtain ⟨gt, rfl, -⟩ := hu; (simp only [rel.put_lit, List.set_cons_succ, List.set_cons_zero])))
      refine rel.walk_nil ?_
      intro w9 K9 hF
      obtain ⟨_, het, hgt, hT⟩ := hF _ (List.mem_cons_self ..)
      cases het
      have hu : IsSet w9 w9.heap.size (rv pe K.length) K := hF _ (List.mem_cons_of_mem _ (List.mem_cons_self ..))
      obtain ⟨d0, d1⟩ := hT.cells2
      have f0 := hT.free 0
      have f1 := hT.free 1
      clear hF hfd
      simp only [List.drop_succ_cons, List.drop_zero]
      go_wp2_with fail
      obtain ⟨W9, hW9, hT9, hU9, hB9, hKp, hsz, hot⟩ := spl.stored (k := (K.length : Int)) rfl hT (Nat.le_trans hb.size hgt) (hb.trans (K9.mono hb.size)) hu
      have hA9 := hot _ _ _ (by omega) (hA.on K9)
      have hC9 := hot _ _ _ (by omega) (hC.on K9)
      have hX9 : IsSet W9 W9.heap.size (rv q1 K.length) K := ((hX.on K9).keep hKp).mono (Nat.le_of_eq hsz.symm)
      rw [hW9]
      clear hW9 d0 d1 f0 f1 hT hu K9 hA hC hX hQ hKp hsz hot hb hcx hbw lA lC
      have hcx9 := hcy _ hB9
      have hbw9 := Nat.lt_of_lt_of_le hbb hB9.size
      have hox9 := fun W (hW : Below W9.heap.size W9 W) => hox W (st hB9 hW)
      apply rel.region (C := fun w' => Below W9.heap.size W9 w') (X := fun w w' => Below w.heap.size w w') (by kernel_rfl) (by kernel_rfl) (by kernel_rfl) ((Below.refl _ _).drew)
      (apply rel.walk_val; (focus (intro wq hq hf; go_wp2; refine ⟨hq, Below.refl _ _, ?_, rfl⟩; (show rel.slot _ _ = _; simp only [rel.slot_lit, List.getD_cons_succ, List.getD_cons_zero]; (first | done | exact rfl)))); (simp only [rel.put_lit, List.set_cons_succ, List.set_cons_zero]))
      ((apply rel.walk_val; (focus (intro wq hq hf; (obtain ⟨d0, d1⟩ := ((hA9).below hq (hA9).lt).cells2); go_wp2; refine ⟨hq, Below.refl _ _, ?_, rfl⟩; (show rel.slot _ _ = _; simp only [rel.slot_lit, List.getD_cons_succ, List.getD_cons_zero]; (first | done | exact rfl)))); (simp only [rel.put_lit, List.set_cons_succ, List.set_cons_zero])))
      (apply rel.walk_val; (focus (intro wq hq hf; go_wp2; refine ⟨hq, Below.refl _ _, ?_, rfl⟩; (show rel.slot _ _ = _; simp only [rel.slot_lit, List.getD_cons_succ, List.getD_cons_zero]; (first | done | exact rfl)))); (simp only [rel.put_lit, List.set_cons_succ, List.set_cons_zero]))
      (apply rel.walk_val; (focus (intro wq hq hf; go_wp2; refine ⟨hq, Below.refl _ _, ?_, rfl⟩; (show rel.slot _ _ = _; simp only [rel.slot_lit, List.getD_cons_succ, List.getD_cons_zero]; (first | done | exact rfl)))); (simp only [rel.put_lit, List.set_cons_succ, List.set_cons_zero]))
      (apply rel.walk_val; (focus (intro wq hq hf; go_wp2; refine ⟨hq, Below.refl _ _, ?_, rfl⟩; (show rel.slot _ _ = _; simp only [rel.slot_lit, List.getD_cons_succ, List.getD_cons_zero]; (first | done | exact rfl)))); (simp only [rel.put_lit, List.set_cons_succ, List.set_cons_zero]))
      ((apply rel.walk_val; (focus (intro wq hq hf; (have d0 := (hq.cell (p := ⟨b, off + k, none⟩) hbw9).trans hcx9); go_wp2; refine ⟨hq, Below.refl _ _, ?_, rfl⟩; (show rel.slot _ _ = _; simp only [rel.slot_lit, List.getD_cons_succ, List.getD_cons_zero]; (first | done | exact rfl)))); (simp only [rel.put_lit, List.set_cons_succ, List.set_cons_zero])))
      (apply rel.walk_val; (focus (intro wq hq hf; go_wp2_with (go_at_call 18; refine (has_to (hX9.on hq) eb).mono ?_; rintro e w'' ⟨rfl, hb⟩); refine ⟨hq.trans (hb.mono hq.size), hb, ?_, rfl⟩; (show rel.slot _ _ = _; simp only [rel.slot_lit, List.getD_cons_succ, List.getD_cons_zero]; (first | done | exact rfl)))); (simp only [rel.put_lit, List.set_cons_succ, List.set_cons_zero]))
      (apply rel.walk_val; (focus (intro wq hq hf; go_wp2; refine ⟨hq, Below.refl _ _, ?_, rfl⟩; (show rel.slot _ _ = _; simp only [rel.slot_lit, List.getD_cons_succ, List.getD_cons_zero]; (first | done | exact rfl)))); (simp only [rel.put_lit, List.set_cons_succ, List.set_cons_zero]))
      (apply rel.walk_val; (focus (intro wq hq hf; go_wp2; refine ⟨hq, Below.refl _ _, ?_, rfl⟩; (show rel.slot _ _ = _; simp only [rel.slot_lit, List.getD_cons_succ, List.getD_cons_zero]; (first | done | exact rfl)))); (simp only [rel.put_lit, List.set_cons_succ, List.set_cons_zero]))
      (apply rel.walk_val; (focus (intro wq hq hf; go_wp2; refine ⟨hq, Below.refl _ _, ?_, rfl⟩; (show rel.slot _ _ = _; simp only [rel.slot_lit, List.getD_cons_succ, List.getD_cons_zero]; (first | done | exact rfl)))); (simp only [rel.put_lit, List.set_cons_succ, List.set_cons_zero]))
      (apply rel.walk_val; (focus (intro wq hq hf; go_wp2; refine ⟨hq, Below.refl _ _, ?_, rfl⟩; (show rel.slot _ _ = _; simp only [rel.slot_lit, List.getD_cons_succ, List.getD_cons_zero]; (first | done | exact rfl)))); (simp only [rel.put_lit, List.set_cons_succ, List.set_cons_zero]))
      (apply rel.walk_val; (focus (intro wq hq hf; go_wp2; refine ⟨hq, Below.refl _ _, ?_, rfl⟩; (show rel.slot _ _ = _; simp only [rel.slot_lit, List.getD_cons_succ, List.getD_cons_zero]; (first | done | exact rfl)))); (simp only [rel.put_lit, List.set_cons_succ, List.set_cons_zero]))
      (apply rel.walk_val; (focus (intro wq hq hf; go_wp2; refine ⟨hq, Below.refl _ _, ?_, rfl⟩; (show rel.slot _ _ = _; simp only [rel.slot_lit, List.getD_cons_succ, List.getD_cons_zero]; (first | done | exact rfl)))); (simp only [rel.put_lit, List.set_cons_succ, List.set_cons_zero]))
      (apply rel.walk_val; (focus (intro wq hq hf; go_wp2; refine ⟨hq, Below.refl _ _, ?_, rfl⟩; (show rel.slot _ _ = _; simp only [rel.slot_lit, List.getD_cons_succ, List.getD_cons_zero]; (first | done | exact rfl)))); (simp only [rel.put_lit, List.set_cons_succ, List.set_cons_zero]))
      ((apply rel.walk_val; (focus (intro wq hq hf; (have d0 := (hq.cell (p := ⟨b, off + k, none⟩) hbw9).trans hcx9); go_wp2; refine ⟨hq, Below.refl _ _, ?_, rfl⟩; (show rel.slot _ _ = _; simp only [rel.slot_lit, List.getD_cons_succ, List.getD_cons_zero]; (first | done | exact rfl)))); (simp only [rel.put_lit, List.set_cons_succ, List.set_cons_zero])))
      (apply rel.walk_val; (focus (intro wq hq hf; go_wp2_with (go_at_call 19; refine (hox9 _ hq).mono ?_; rintro e w'' ⟨rfl, hb⟩); refine ⟨hq.trans (hb.mono hq.size), hb, ?_, rfl⟩; (show rel.slot _ _ = _; simp only [rel.slot_lit, List.getD_cons_succ, List.getD_cons_zero]; (first | done | exact rfl)))); (simp only [rel.put_lit, List.set_cons_succ, List.set_cons_zero]))
      (apply rel.walk_val; (focus (intro wq hq hf; go_wp2; refine ⟨hq, Below.refl _ _, ?_, rfl⟩; (show rel.slot _ _ = _; simp only [rel.slot_lit, List.getD_cons_succ, List.getD_cons_zero]; (first | done | exact rfl)))); (simp only [rel.put_lit, List.set_cons_succ, List.set_cons_zero]))
      (apply rel.walk_val; (focus (intro wq hq hf; go_wp2; refine ⟨hq, Below.refl _ _, ?_, rfl⟩; (show rel.slot _ _ = _; simp only [rel.slot_lit, List.getD_cons_succ, List.getD_cons_zero]; (first | done | exact rfl)))); (simp only [rel.put_lit, List.set_cons_succ, List.set_cons_zero]))
      (apply rel.walk_val; (focus (intro wq hq hf; go_wp2; refine ⟨hq, Below.refl _ _, ?_, rfl⟩; (show rel.slot _ _ = _; simp only [rel.slot_lit, List.getD_cons_succ, List.getD_cons_zero]; (first | done | exact rfl)))); (simp only [rel.put_lit, List.set_cons_succ, List.set_cons_zero]))
      (apply rel.walk_val; (focus (intro wq hq hf; go_wp2; refine ⟨hq, Below.refl _ _, ?_, rfl⟩; (show rel.slot _ _ = _; simp only [rel.slot_lit, List.getD_cons_succ, List.getD_cons_zero]; (first | done | exact rfl)))); (simp only [rel.put_lit, List.set_cons_succ, List.set_cons_zero]))
      ((apply rel.walk_val; (focus (intro wq hq hf; (obtain ⟨d0, d1⟩ := ((hT9).below hq (hT9).lt).cells2); go_wp2; refine ⟨hq, Below.refl _ _, ?_, rfl⟩; (show rel.slot _ _ = _; simp only [rel.slot_lit, List.getD_cons_succ, List.getD_cons_zero]; (first | done | exact rfl)))); (simp only [rel.put_lit, List.set_cons_succ, List.set_cons_zero])))
      (apply rel.walk_val; (focus (intro wq hq hf; go_wp2_with (go_at_call 17; refine (len_any _ _ _ (hU9.on hq)).mono ?_; rintro e w'' ⟨rfl, hb⟩); refine ⟨hq.trans (hb.mono hq.size), hb, ?_, rfl⟩; (show rel.slot _ _ = _; simp only [rel.slot_lit, List.getD_cons_succ, List.getD_cons_zero]; (first | done | exact rfl)))); (simp only [rel.put_lit, List.set_cons_succ, List.set_cons_zero]))
      ((apply rel.walk_val; (focus (intro wq hq hf; (obtain ⟨d0, d1⟩ := ((hA9).below hq (hA9).lt).cells2); go_wp2; refine ⟨hq, Below.refl _ _, ?_, rfl⟩; (show rel.slot _ _ = _; simp only [rel.slot_lit, List.getD_cons_succ, List.getD_cons_zero]; (first | done | exact rfl)))); (simp only [rel.put_lit, List.set_cons_succ, List.set_cons_zero])))
      (apply rel.walk_val; (focus (intro wq hq hf; go_wp2_with (go_at_call 17; refine (len_any _ _ _ (hX9.on hq)).mono ?_; rintro e w'' ⟨rfl, hb⟩); refine ⟨hq.trans (hb.mono hq.size), hb, ?_, rfl⟩; (show rel.slot _ _ = _; simp only [rel.slot_lit, List.getD_cons_succ, List.getD_cons_zero]; (first | done | exact rfl)))); (simp only [rel.put_lit, List.set_cons_succ, List.set_cons_zero]))
      (apply rel.walk_val; (focus (intro wq hq hf; go_wp2; refine ⟨hq, Below.refl _ _, ?_, rfl⟩; (show rel.slot _ _ = _; simp only [rel.slot_lit, List.getD_cons_succ, List.getD_cons_zero]; (first | done | exact rfl)))); (simp only [rel.put_lit, List.set_cons_succ, List.set_cons_zero]))
      (apply rel.walk_val; (focus (intro wq hq hf; go_wp2; refine ⟨hq, Below.refl _ _, ?_, rfl⟩; (show rel.slot _ _ = _; simp only [rel.slot_lit, List.getD_cons_succ, List.getD_cons_zero]; (first | done | exact rfl)))); (simp only [rel.put_lit, List.set_cons_succ, List.set_cons_zero]))
      refine rel.walk_nil ?_
      intro w8 K8 hF8
      clear hF8 hox9 hox hcx9 hbw9
      have hT8 := hT9.on K8
      have hA8 := hA9.on K8
      have hC8 := hC9.on K8
      have hX8 := hX9.on K8
      have hU8 := hU9.on K8
      have hB8 := st hB9 K8
      clear hT9 hA9 hC9 hX9 hU9 hB9 K8
      obtain ⟨d0, d1⟩ := hT8.cells2
      obtain ⟨e0, e1⟩ := hC8.cells2
      have f0 := hC8.free 0
      have f1 := hC8.free 1
      have lT := hT8.lt
      have lC := hC8.lt
      go_wp2_with fail
      obtain ⟨W7, hW7, hC7, hU7, hB7, hKp, hsz, hot⟩ := spl.stored (k := (K.length : Int)) rfl hC8 (by omega) hB8 hU8
      have hA7 := hot _ _ _ (by omega) hA8
      have hX7 : IsSet W7 W7.heap.size (rv q1 K.length) K := (hX8.keep hKp).mono (Nat.le_of_eq hsz.symm)
      rw [hW7]
      clear hW7 d0 d1 e0 e1 f0 f1 hC8 hA8 hX8 hU8 hB8 hT8 lT lC hKp hsz hot
      go_roundw
      (case rel => exact ⟨k + 1, pe, by go_num, by omega, hB7, hA7, hC7, hX7, hU7⟩)
      (case measure => simp [intOf]; omega)
      (focus rfl)
      (focus
        intro listed a' w' hJ hr
        obtain ⟨_, o, ho, hall⟩ := mem_ready.1 hr
        simp at ho
        subst ho
        have h6 := hall { on := 6, ground := Ground.data } (by simp) (by decide)
        have h7 := hJ.done 6 _ 24 _ (by decide) rfl rfl h6 rfl
        obtain ⟨q', hq', -⟩ := h7
        refine Or.inl ⟨rfl, fun w => ?_⟩
        have he := hq'
        rw [Array.getD_eq_getD_getElem?] at he
        simp [execOp, he, go_sem]))
    · obtain rfl : k = l1.length := by omega
      have h9 := H9
      have lA := hA.lt
      have lC := hC.lt
      clear hc1 hwf1 hof H9 hmem hk hlt
      go_wp2_with fail
      apply rel.region (C := fun w' => Below wr.heap.size wr w') (X := fun w w' => Below w.heap.size w w') (by kernel_rfl) (by kernel_rfl) (by kernel_rfl) ((Below.refl _ _).drew)
      ((apply rel.walk_val; (focus (intro wq hq hf; (obtain ⟨d0, d1⟩ := ((hC).below hq (hC).lt).cells2); go_wp2; refine ⟨hq, Below.refl _ _, ?_, rfl⟩; (show rel.slot _ _ = _; simp only [rel.slot_lit, List.getD_cons_succ, List.getD_cons_zero]; (first | done | exact rfl)))); (simp only [rel.put_lit, List.set_cons_succ, List.set_cons_zero])))
      (apply rel.walk_rel (fun u w' => hp.IsInts w' w'.heap.size u (K)) ⟨_, rfl⟩ (fun u w1 w2 h1 h2 => h2.on h1); (focus (intro wq hq hf; go_wp2_with (go_at_call 16; with_reducible refine (ints_any (hQ.on hq) hlK2.out).mono ?_; rintro e w'' ⟨⟨u, rfl, hu⟩, hb⟩); refine ⟨hq.trans (hb.mono hq.size), hb, ?_, rfl⟩; (show hp.IsInts _ _ (rel.slot _ _) _; simp only [rel.slot_lit, List.getD_cons_succ, List.getD_cons_zero]; exact hu))); (intro u wu _ hu; obtain ⟨pv, c_pv, rfl, -⟩ := hu; (simp only [rel.put_lit, List.set_cons_succ, List.set_cons_zero])))
      ((apply rel.walk_val; (focus (intro wq hq hf; (obtain ⟨d0, d1⟩ := ((hA).below hq (hA).lt).cells2); go_wp2; refine ⟨hq, Below.refl _ _, ?_, rfl⟩; (show rel.slot _ _ = _; simp only [rel.slot_lit, List.getD_cons_succ, List.getD_cons_zero]; (first | done | exact rfl)))); (simp only [rel.put_lit, List.set_cons_succ, List.set_cons_zero])))
      (apply rel.walk_rel (fun u w' => hp.IsInts w' w'.heap.size u (K)) ⟨_, rfl⟩ (fun u w1 w2 h1 h2 => h2.on h1); (focus (intro wq hq hf; go_wp2_with (go_at_call 16; with_reducible refine (ints_any (hX.on hq) hlK2.out).mono ?_; rintro e w'' ⟨⟨u, rfl, hu⟩, hb⟩); refine ⟨hq.trans (hb.mono hq.size), hb, ?_, rfl⟩; (show hp.IsInts _ _ (rel.slot _ _) _; simp only [rel.slot_lit, List.getD_cons_succ, List.getD_cons_zero]; exact hu))); (intro u wu _ hu; obtain ⟨pz, c_pz, rfl, -⟩ := hu; (simp only [rel.put_lit, List.set_cons_succ, List.set_cons_zero])))
      (apply rel.walk_val; (focus (intro wq hq hf; go_wp2_with (go_at_call 15; refine (same.ints_eq rfl (hf.get 1 rfl rfl) (hf.get 0 rfl rfl)).mono ?_; rintro e w'' ⟨rfl, hb⟩); refine ⟨hq.trans (hb.mono hq.size), hb, ?_, rfl⟩; (show rel.slot _ _ = _; simp only [rel.slot_lit, List.getD_cons_succ, List.getD_cons_zero]; (first | done | exact rfl)))); (simp only [rel.put_lit, List.set_cons_succ, List.set_cons_zero]))
      (apply rel.walk_val; (focus (intro wq hq hf; go_wp2; refine ⟨hq, Below.refl _ _, ?_, rfl⟩; (show rel.slot _ _ = _; simp only [rel.slot_lit, List.getD_cons_succ, List.getD_cons_zero]; (first | done | exact rfl)))); (simp only [rel.put_lit, List.set_cons_succ, List.set_cons_zero]))
      refine rel.walk_nil ?_
      intro w9 K9 hF
      clear hF
      have hC9 := hC.on K9
      have hQ9 := hQ.on K9
      have KW := hb.trans (K9.mono hb.size)
      obtain ⟨d0, d1⟩ := hC9.cells2
      clear hA hC hX hQ lA lC
      go_wp2_with (first
        | (go_at_call 21; (with_reducible refine (set_shape hQ9 (Nat.le_trans hlK.out (by decide))).mono ?_); rintro e wd ⟨⟨u, t, rfl, -, hkt, hnd⟩, hb1⟩; replace KW := st KW hb1; clear d0 d1 hb1 hQ9 hC9; replace h9 := h9 _ KW)
        | (go_at_call 13; (with_reducible refine h9.mono ?_); clear h9; rintro e we ⟨⟨u2, rfl, hJ⟩, hb1⟩; replace hnd := hnd.on hb1; replace KW := st KW hb1; clear hb1)
        | (go_at_call 20; (with_reducible refine (shaped_any hnd hJ hkt hlK.out).mono ?_); rintro e w5 ⟨rfl, hb1⟩; replace KW := st KW hb1; clear hb1 hnd hJ hkt))
      go_ret
      exact ⟨rfl, KW⟩
end Go.Proofs.Ytlaflhnnddfkkaa.splayAsks
