/- Package queue: its numbers, in order. -/
import Derived.Test.YtkenocamlaaajaaQueOps
import Derived.Test.YtkenocamlaaajaaCat2
namespace Go.Proofs.Ytkenocamlaaajaa.que
open Go Go.RowKit

theorem one_new (w : World) (p q : Option Addr) (n m : Int) : ∃ W0, w.alloc (.cells #[.pointer p, .int .i64 n, .pointer q, .int .i64 m] 63) = W0 ∧ Below w.heap.size w W0 ∧
    hp.Blk W0 w.heap.size 63 [.pointer p, .int .i64 n, .pointer q, .int .i64 m] := by
  refine ⟨_, rfl, ?_, hp.Blk.new w [.pointer p, .int .i64 n, .pointer q, .int .i64 m] _⟩
  ((repeat' (first | with_reducible exact Below.refl _ _ | with_reducible apply Below.setCell | with_reducible apply below_drewN | with_reducible apply Below.drew | with_reducible apply Below.alloc | with_reducible refine Below.trans ?_ (Below.mono (by assumption) ?_))) <;> (first | (simp; done) | (simp; omega) | omega))

theorem two_ints {w : World} {g : Nat} {v0 v1 : Value} {l0 l1 t : List Int} (ht : l0 ++ l1 = t) (hg : hp.Blk w g 22 [v0, v1]) (h0 : hp.IsInts w w.heap.size v0 l0) (h1 : hp.IsInts w w.heap.size v1 l1) (hbd : l0.length + l1.length ≤ 17592186044416) :
    Calls Try.prog 53 #[.slice (some ⟨g, 0, none⟩) 2 2] w fun e w' => (∃ u, e = .returned u ∧ hp.IsInts w' w'.heap.size u t) ∧ Below w.heap.size w w' := by
  subst ht
  exact (cat.concat_own g v0 v1 l0 l1 w hg h0 h1 hbd).mono fun _ _ ⟨⟨u, he, hu⟩, hb⟩ => ⟨⟨u, he, hp.IsInts.of_owns hu (by simp) (same.wf_append h0.wf h1.wf)⟩, hb⟩

/-- a slice of two slices that read as these numbers -/
def Two (u : Value) (w : World) (l0 l1 : List Int) : Prop := ∃ g v0 v1, u = .slice (some ⟨g, 0, none⟩) 2 2 ∧ hp.Blk w g 22 [v0, v1] ∧ hp.IsInts w w.heap.size v0 l0 ∧ hp.IsInts w w.heap.size v1 l1
theorem Two.on {u : Value} {w w' : World} {l0 l1 : List Int} (h : Two u w l0 l1) (hb : Below w.heap.size w w') : Two u w' l0 l1 := by
  obtain ⟨g, v0, v1, he, hB, h0, h1⟩ := h
  exact ⟨g, v0, v1, he, hB.on hb, h0.on hb, h1.on hb⟩
theorem Two.at {g : Nat} {w : World} {l0 l1 : List Int} (h : Two (.slice (some ⟨g, 0, none⟩) 2 2) w l0 l1) : ∃ v0 v1, hp.Blk w g 22 [v0, v1] ∧ hp.IsInts w w.heap.size v0 l0 ∧ hp.IsInts w w.heap.size v1 l1 := by
  obtain ⟨g', v0, v1, he, hB, h0, h1⟩ := h
  obtain rfl : g = g' := by simpa using he
  exact ⟨v0, v1, hB, h0, h1⟩
theorem Two.concat {g : Nat} {w : World} {l0 l1 t : List Int} (h : Two (.slice (some ⟨g, 0, none⟩) 2 2) w l0 l1) (ht : l0 ++ l1 = t) (hbd : l0.length + l1.length ≤ 17592186044416) :
    Calls Try.prog 53 #[.slice (some ⟨g, 0, none⟩) 2 2] w fun e w' => (∃ u, e = .returned u ∧ hp.IsInts w' w'.heap.size u t) ∧ Below w.heap.size w w' := by
  obtain ⟨v0, v1, hB, h0, h1⟩ := h.at
  exact two_ints ht hB h0 h1 hbd

set_option maxHeartbeats 4000000 in
theorem ints_any {v : Value} {l : List Int} {w : World} (hv : IsQ w w.heap.size v l) (hl : l.length ≤ 17592186044416) :
    Calls Try.prog 34 #[v] w fun e w' => (∃ u, e = .returned u ∧ hp.IsInts w' w'.heap.size u l) ∧ Below w.heap.size w w' := by
  obtain ⟨p, q, F, K, rfl, h0, h1, hle, hFK, hlen⟩ := hv.split
  obtain ⟨R, hR⟩ : ∃ R, K.reverse = R := ⟨_, rfl⟩
  rw [hR] at hFK
  have hRl := Lib.hid (show R.length = K.length by rw [← hR]; simp)
  have hR := Lib.hid hR
  have hFK := Lib.hid hFK
  have hlen := Lib.hid (show F.length + K.length ≤ 17592186044416 by omega)
  clear hv hle hl
  go_enter Try.func34, Try.ntmps34
  go_wp2_with fail
  obtain ⟨W0, hW0, hb3, hA⟩ := one_new w p q F.length K.length
  have h0 := h0.on hb3
  have h1 := h1.on hb3
  rw [hW0]
  clear hW0
  apply rel.region_tail (C := fun w' => Below W0.heap.size W0 w') (X := fun w w' => Below w.heap.size w w') 9 (by kernel_rfl) (by kernel_rfl) (by kernel_rfl) (by kernel_rfl) ((Below.refl _ _).drew)
  (apply rel.walk_val; (focus (intro wq hq hf; go_wp2; refine ⟨hq, Below.refl _ _, ?_, rfl⟩; (show rel.slot _ _ = _; simp only [rel.slot_lit, List.getD_cons_succ, List.getD_cons_zero]; (first | done | exact rfl)))); (simp only [rel.put_lit, List.set_cons_succ, List.set_cons_zero]))
  ((apply rel.walk_val; (focus (intro wq hq hf; (obtain ⟨d0, d1, d2, d3⟩ := ((hA).below hq (hA).lt).cells4); go_wp2; refine ⟨hq, Below.refl _ _, ?_, rfl⟩; (show rel.slot _ _ = _; simp only [rel.slot_lit, List.getD_cons_succ, List.getD_cons_zero]; (first | done | exact rfl)))); (simp only [rel.put_lit, List.set_cons_succ, List.set_cons_zero])))
  (apply rel.walk_rel (fun u w' => hp.IsInts w' w'.heap.size u (F)) ⟨_, rfl⟩ (fun u w1 w2 h1 h2 => h2.on h1); (focus (intro wq hq hf; go_wp2_with (go_at_call 31; refine (lst.ints_any _ F _ (h0.on hq) (by have := hlen.out; omega)).mono ?_; rintro e w'' ⟨⟨u, rfl, hu⟩, hb⟩); refine ⟨hq.trans (hb.mono hq.size), hb, ?_, rfl⟩; (show hp.IsInts _ _ (rel.slot _ _) _; simp only [rel.slot_lit, List.getD_cons_succ, List.getD_cons_zero]; exact hu))); (intro u wu _ hu; obtain ⟨pu_3, cu_3, rfl, -⟩ := hu; (simp only [rel.put_lit, List.set_cons_succ, List.set_cons_zero])))
  (apply rel.walk_val; (focus (intro wq hq hf; go_wp2; refine ⟨hq, Below.refl _ _, ?_, rfl⟩; (show rel.slot _ _ = _; simp only [rel.slot_lit, List.getD_cons_succ, List.getD_cons_zero]; (first | done | exact rfl)))); (simp only [rel.put_lit, List.set_cons_succ, List.set_cons_zero]))
  ((apply rel.walk_val; (focus (intro wq hq hf; (obtain ⟨d0, d1, d2, d3⟩ := ((hA).below hq (hA).lt).cells4); go_wp2; refine ⟨hq, Below.refl _ _, ?_, rfl⟩; (show rel.slot _ _ = _; simp only [rel.slot_lit, List.getD_cons_succ, List.getD_cons_zero]; (first | done | exact rfl)))); (simp only [rel.put_lit, List.set_cons_succ, List.set_cons_zero])))
  (apply rel.walk_rel (fun u w' => lst.IsList w' w'.heap.size u (R)) ⟨_, rfl⟩ (fun u w1 w2 h1 h2 => h2.on h1); (focus (intro wq hq hf; go_wp2_with (go_at_call 54; refine (rev_to hR.out (h1.on hq) (by have := hlen.out; omega)).mono ?_; rintro e w'' ⟨⟨u, rfl, hu⟩, hb⟩); refine ⟨hq.trans (hb.mono hq.size), hb, ?_, rfl⟩; (show lst.IsList _ _ (rel.slot _ _) _; simp only [rel.slot_lit, List.getD_cons_succ, List.getD_cons_zero]; exact hu))); (intro u wu _ hu; obtain ⟨pu, rfl, -, -⟩ := hu; (simp only [rel.put_lit, List.set_cons_succ, List.set_cons_zero])))
  (apply rel.walk_rel (fun u w' => hp.IsInts w' w'.heap.size u (R)) ⟨_, rfl⟩ (fun u w1 w2 h1 h2 => h2.on h1); (focus (intro wq hq hf; go_wp2_with (go_at_call 31; refine (lst.ints_any _ R _ (hf.get 0 rfl rfl) (by have := hlen.out; have := hRl.out; omega)).mono ?_; rintro e w'' ⟨⟨u, rfl, hu⟩, hb⟩); refine ⟨hq.trans (hb.mono hq.size), hb, ?_, rfl⟩; (show hp.IsInts _ _ (rel.slot _ _) _; simp only [rel.slot_lit, List.getD_cons_succ, List.getD_cons_zero]; exact hu))); (intro u wu _ hu; obtain ⟨pu_1, cu_1, rfl, -⟩ := hu; (simp only [rel.put_lit, List.set_cons_succ, List.set_cons_zero])))
  apply rel.walk_rel (fun u w' => Two u w' F R) ⟨_, rfl⟩ (fun u w1 w2 h1 h2 => h2.on h1)
  · intro wq hq hf
    have k0 : hp.IsInts wq wq.heap.size (.slice pu_3 F.length cu_3) F := hf.get 2 rfl rfl
    have k1 : hp.IsInts wq wq.heap.size (.slice pu_1 R.length cu_1) R := hf.get 0 rfl rfl
    go_wp2
    refine ⟨hq.alloc hq.size _, (Below.refl _ _).alloc (Nat.le_refl _) _, ?_, rfl⟩
    show Two (rel.slot _ _) _ _ _
    simp only [rel.slot_lit, List.getD_cons_succ, List.getD_cons_zero]
    exact ⟨_, _, _, rfl, hp.Blk.new _ _ _, k0.on ((Below.refl _ _).alloc (Nat.le_refl _) _), k1.on ((Below.refl _ _).alloc (Nat.le_refl _) _)⟩
  intro u wu _ hu
  obtain ⟨gu, -, -, rfl, -⟩ := hu
  (simp only [rel.put_lit, List.set_cons_succ, List.set_cons_zero])
  (apply rel.walk_rel (fun u w' => hp.IsInts w' w'.heap.size u (l)) ⟨_, rfl⟩ (fun u w1 w2 h1 h2 => h2.on h1); (focus (intro wq hq hf; go_wp2_with (go_at_call 53; refine ((Two.concat (hf.get 0 rfl rfl) hFK.out (by have := hlen.out; have := hRl.out; omega))).mono ?_; rintro e w'' ⟨⟨u, rfl, hu⟩, hb⟩); refine ⟨hq.trans (hb.mono hq.size), hb, ?_, rfl⟩; (show hp.IsInts _ _ (rel.slot _ _) _; simp only [rel.slot_lit, List.getD_cons_succ, List.getD_cons_zero]; exact hu))); (intro u wu _ hu; obtain ⟨pu_2, cu_2, rfl, -⟩ := hu; (simp only [rel.put_lit, List.set_cons_succ, List.set_cons_zero])))
  refine rel.walk_nil ?_
  intro w9 K9 hF
  have hu : hp.IsInts w9 w9.heap.size _ l := hF _ (List.mem_cons_self ..)
  simp only [List.drop_succ_cons, List.drop_zero]
  clear hF
  go_wp2
  go_ret
  exact ⟨⟨_, rfl, hu⟩, hb3.trans (K9.mono hb3.size)⟩
end Go.Proofs.Ytkenocamlaaajaa.que
