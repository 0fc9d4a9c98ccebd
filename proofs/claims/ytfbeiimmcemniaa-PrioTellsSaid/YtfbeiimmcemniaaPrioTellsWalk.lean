/- The walk of PrioTells. -/
import Derived.Test.YtfbeiimmcemniaaPriWalks
import Derived.Test.YtfbeiimmcemniaaBools
namespace Go.Proofs.Ytfbeiimmcemniaa.prioTells
open Go Go.RowKit Go.Proofs.Ytfbeiimmcemniaa.rws Go.Proofs.Ytfbeiimmcemniaa.pri
set_option linter.unusedVariables false

set_option maxRecDepth 100000 in
set_option maxHeartbeats 8000000 in
theorem walk (v0 : Value) (l0 : List (Int × Int)) (v1 : Value) (n1 : Nat) (f1 : Nat → Bool) (w : World) (i0 : IsRw pr w w.heap.size v0 l0) (wi0 : ∀ x ∈ l0, WfP x) (i1 : hp.IsBools w w.heap.size v1 n1 f1) (bd0 : l0.length ≤ 8796093021952) :
    Calls Try.prog 3 #[v0, v1] w fun e w' => e = .returned (.bool true) ∧ Below w.heap.size w w' := by
  obtain ⟨a0, cap0, rfl⟩ := i0.val
  have hc0 := i0.cells
  obtain ⟨ay, cy, rfl, hn1, hcy⟩ := i1
  obtain ⟨n0, hn0⟩ : ∃ n, l0.length = n := ⟨_, rfl⟩
  have hw0 : ∀ k, k < n0 → WfP (l0.getD k (0, 0)) := fun k hk => wi0 _ (by rw [List.getD_eq_getElem?_getD, List.getElem?_eq_getElem (by omega)]; exact List.getElem_mem _)
  rw [hn0] at hc0 i0 bd0 ⊢
  clear wi0 i0
  go_enter Try.func3, Try.ntmps3
  go_wp2_with (go_at_call 7; (with_reducible refine (ranked_any _).mono ?_); rintro e wa ⟨rfl, Ka⟩)
  have hBb := hp.Blk.new wa [.pointer none] 29
  have hbb : Below w.heap.size w (wa.alloc (.cells #[.pointer none] 29)) := Ka.alloc Ka.size _
  have hwa := Ka.size
  clear Ka
  go_loopw [7, 8] (fun va i wr => ∃ (k : Nat) (p : Option Addr) (A : List (Int × Int)), i = .int .i64 k ∧ k ≤ n0 ∧ A.length ≤ k ∧ Below w.heap.size w wr ∧ hp.Blk wr wa.heap.size 29 [.pointer p] ∧ IsT wr (.agg #[.pointer p]) A ∧ wr.ownsRow w.heap.size 32 2 va A.length (rws.flat pr A)) (fun _ i _ => n0 - (intOf i).toNat)
  case atStart => exact ⟨0, none, [], rfl, by omega, by simp, hbb, hBb, IsT.nil _, World.ownsRow_nil _ _ _ _⟩
  case round =>
    clear hbb hBb
    obtain ⟨k, p, A, rfl, hk, hAk, hb, hB, hT, hO⟩ := hrel
    by_cases hlt : k < n0
    · obtain ⟨b, off, rfl, hb0, hcell⟩ := hc0 (by omega)
      have kq := fun U (K : Below w.heap.size w U) => And.intro ((K.cell (p := ⟨b, off + k * 2, none⟩) hb0).trans (hcell k hlt).1) ((K.cell (p := ⟨b, off + k * 2 + 1, none⟩) hb0).trans (hcell k hlt).2)
      obtain ⟨kp0, kp1⟩ := kq _ hb
      have hbw : b < wr.heap.size := by have := hb.size; omega
      have hw := hw0 k hlt
      obtain ⟨y, hy⟩ : ∃ y, l0.getD k (0, 0) = y := ⟨_, rfl⟩
      rw [hy] at kp0 kp1 hw kq
      obtain ⟨L, hL⟩ : ∃ L, A ++ [y] = L := ⟨_, rfl⟩
      have hLl : L.length = A.length + 1 := by rw [← hL]; simp
      have hLk : L.length ≤ k + 1 := by omega
      have H := fun V (K : Below wr.heap.size wr V) => push_any y L (hT.on K) hw hL (by omega)
      replace hL := Lib.hid hL
      have hbB : b < w.heap.size := hb0
      clear hcell hc0 hT hw0 hw hy hb0
      go_wp2_with fail
      rename_i K1 hK1
      replace hK1 := Lib.hid hK1
      apply rel.region_tail (C := fun w' => Below wr.heap.size wr w') (X := fun w w' => Below w.heap.size w w') 6 (by kernel_rfl) (by kernel_rfl) (by kernel_rfl) (by kernel_rfl) ((Below.refl _ _).drew)
      ((apply rel.walk_val; (focus (intro wq hq hf; (have d0 := (((hB).below hq (hB).lt)).cell 0; simp only [List.getElem?_cons_zero] at d0); go_wp2; refine ⟨hq, Below.refl _ _, ?_, rfl⟩; (show rel.slot _ _ = _; simp only [rel.slot_lit, List.getD_cons_succ, List.getD_cons_zero]; (first | done | exact rfl)))); (simp only [rel.put_lit, List.set_cons_succ, List.set_cons_zero])))
      (apply rel.walk_val; (focus (intro wq hq hf; go_wp2; refine ⟨hq, Below.refl _ _, ?_, rfl⟩; (show rel.slot _ _ = _; simp only [rel.slot_lit, List.getD_cons_succ, List.getD_cons_zero]; (first | done | exact rfl)))); (simp only [rel.put_lit, List.set_cons_succ, List.set_cons_zero]))
      (apply rel.walk_val; (focus (intro wq hq hf; go_wp2; refine ⟨hq, Below.refl _ _, ?_, rfl⟩; (show rel.slot _ _ = _; simp only [rel.slot_lit, List.getD_cons_succ, List.getD_cons_zero]; (first | done | exact rfl)))); (simp only [rel.put_lit, List.set_cons_succ, List.set_cons_zero]))
      (apply rel.walk_val; (focus (intro wq hq hf; go_wp2; refine ⟨hq, Below.refl _ _, ?_, rfl⟩; (show rel.slot _ _ = _; simp only [rel.slot_lit, List.getD_cons_succ, List.getD_cons_zero]; (first | done | exact rfl)))); (simp only [rel.put_lit, List.set_cons_succ, List.set_cons_zero]))
      (apply rel.walk_val; (focus (intro wq hq hf; (have d0 := (hq.cell (p := ⟨b, off + k * 2, none⟩) hbw).trans kp0; have d1 := (hq.cell (p := ⟨b, off + k * 2 + 1, none⟩) hbw).trans kp1); go_wp2; refine ⟨hq, Below.refl _ _, ?_, rfl⟩; (show rel.slot _ _ = _; simp only [rel.slot_lit, List.getD_cons_succ, List.getD_cons_zero]; (first | done | exact rfl)))); (simp only [rel.put_lit, List.set_cons_succ, List.set_cons_zero]))
      (apply rel.walk_rel (fun u w' => pri.IsT w' u (L)) ⟨_, rfl⟩ (fun u w1 w2 h1 h2 => h2.on h1); (focus (intro wq hq hf; go_wp2_with (go_at_call 8; with_reducible refine (H _ hq).mono ?_; rintro e w'' ⟨⟨u, rfl, hu⟩, hb⟩); refine ⟨hq.trans (hb.mono hq.size), hb, ?_, rfl⟩; (show pri.IsT _ (rel.slot _ _) _; simp only [rel.slot_lit, List.getD_cons_succ, List.getD_cons_zero]; exact hu))); (intro u wu _ hu; obtain ⟨q, rfl, -⟩ := hu; (simp only [rel.put_lit, List.set_cons_succ, List.set_cons_zero])))
      refine rel.walk_nil ?_
      intro w9 K9 hF
      have hu : IsT w9 (.agg #[.pointer q]) L := hF _ (List.mem_cons_self ..)
      clear hF H
      have hB9 := hB.on K9
      have d0 := hB9.cell 0
      have df := hB9.free
      simp only [List.getElem?_cons_zero] at d0
      simp only [List.drop_succ_cons, List.drop_zero]
      go_wp2_with fail
      obtain ⟨W1, hW1⟩ : ∃ W1, w9.setCell ⟨wa.heap.size, 0, none⟩ (.pointer q) = W1 := ⟨_, rfl⟩
      have hb1 : Below w.heap.size w W1 := by rw [← hW1]; exact (hb.trans (K9.mono hb.size)).setCell (p := ⟨wa.heap.size, 0, none⟩) (by simpa using hwa) _
      have hB1 : hp.Blk W1 wa.heap.size 29 [.pointer q] := by rw [← hW1]; exact hB9.set 0 _
      have hu1 : IsT W1 (.agg #[.pointer q]) L := by rw [← hW1]; exact hu.keep (keep_queue hB9 _ _)
      have hO1 := hp.row_set (o := 0) (hp.row_on hO K9) hB9 (by decide) (.pointer q)
      rw [hW1] at hO1
      obtain ⟨kp2, kp3⟩ := kq _ hb1
      have hbw1 : b < W1.heap.size := by have := hb1.size; omega
      rw [hW1]
      clear hW1 d0 df hB9 hu K9 hB hO hb kp0 kp1 hbw
      refine hK1.out _ _ ?_
      clear hK1
      go_wp2_with (at_builtin; refine append_items rfl _ _ rfl w.heap.size _ A.length A rfl (hO1.alloc _) _ [y] rfl (one_row W1 y 32) (by simp; omega) (by have := hb1.size; simp; omega) ?_; intro vb W2 own2 gr2; rename_i K2 hK2; replace hK2 := Lib.hid hK2)
      have hv1 : Below W1.heap.size W1 (W1.alloc (.cells #[.int .i64 y.1, .int .i64 y.2] 32)) := by ((repeat' (first | with_reducible exact Below.refl _ _ | with_reducible apply Below.setCell | with_reducible apply below_drewN | with_reducible apply Below.drew | with_reducible apply Below.alloc | with_reducible refine Below.trans ?_ (Below.mono (by assumption) ?_))) <;> (first | (simp; done) | (simp; omega) | omega))
      have hOa := hp.row_on hO1 hv1
      have hb2 : Below w.heap.size w W2 := (hb1.trans (hv1.mono hb1.size)).grown gr2 (Nat.le_trans hb1.size hv1.size) (fun k hk => (hOa.lt k hk).1)
      have B1 : hp.Blk W2 wa.heap.size 29 [.pointer q] := hp.Blk.grown hB1 (by decide) hO1 gr2
      have h1 : IsT W2 (.agg #[.pointer q]) L := (hu1.on hv1).keep (Keep.row hOa gr2)
      have O1 : W2.ownsRow w.heap.size 32 2 vb L.length (rws.flat pr L) := by rw [hLl, ← hL.out]; exact own2
      have hLb : L.length ≤ 17592186044416 := by omega
      have hLn : L ≠ [] := by rintro rfl; simp at hLl
      have hk1 : k + 1 ≤ n0 := hlt
      clear own2 gr2 hv1 hOa hO1 hu1 hB1 hb1 kp2 kp3 hbw1 kq hL hLl hAk hlt
      have c1 := B1.one
      have q1 := B1.lt
      have K := Below.refl W2.heap.size W2
      have hro : ∀ {U : World} {u : Value} {l : List (Int × Int)}, U.ownsRow w.heap.size 32 2 u l.length (rws.flat pr l) → IsRw pr U U.heap.size u l := fun h => IsRw.of_owns h rfl
      obtain ⟨avb, cvb, rfl⟩ := (hro O1).val
      refine hK2.out _ _ ?_
      clear hK2
      by_cases hkn : k < n1
      · obtain ⟨b1, o1, rfl, hb1, hd1⟩ := hcy (by omega)
        have hy2 := (hb2.cell (p := ⟨b1, o1 + k, none⟩) hb1).trans (hd1 k hkn)
        have hb1w : b1 < W2.heap.size := by have := hb2.size; omega
        cases hft : f1 k with
        | false =>
          rw [hft] at hy2
          go_wp2_with (first
            | (go_at_call 14; (with_reducible refine (items_any _ _ _ h1 hLb).mono ?_); rintro e w6 ⟨⟨ui, rfl, R1⟩, hb⟩; ((try (replace B1 := B1.on hb; replace c1 := B1.one; replace q1 := B1.lt; replace h1 := h1.on hb)); (try (replace B2 := B2.on hb; replace c2 := B2.one; replace q2 := B2.lt; replace h2 := h2.on hb)); (try (replace B3 := B3.on hb; replace c3 := B3.one; replace q3 := B3.lt; replace h3 := h3.on hb)); (try (replace X1 := X1.on hb; replace u1 := X1.cellsM.1; replace v1 := X1.cellsM.2; replace z1 := X1.lt)); (try (replace X2 := X2.on hb; replace u2 := X2.cellsM.1; replace v2 := X2.cellsM.2; replace z2 := X2.lt)); (try (replace X3 := X3.on hb; replace u3 := X3.cellsM.1; replace v3 := X3.cellsM.2; replace z3 := X3.lt)); (try (replace X4 := X4.on hb; replace u4 := X4.cellsM.1; replace v4 := X4.cellsM.2; replace z4 := X4.lt)); (try replace R1 := R1.on hb); (try replace R2 := R2.on hb); (try replace O1 := hp.row_on O1 hb); replace K := K.trans ((hb).mono K.size)); clear hb; have SI := items_eq rfl R1 (hro O1))
            | (go_at_call 13; (with_reducible refine SI.mono ?_); clear SI R1; rintro e w7 ⟨rfl, hb⟩; ((try (replace B1 := B1.on hb; replace c1 := B1.one; replace q1 := B1.lt; replace h1 := h1.on hb)); (try (replace B2 := B2.on hb; replace c2 := B2.one; replace q2 := B2.lt; replace h2 := h2.on hb)); (try (replace B3 := B3.on hb; replace c3 := B3.one; replace q3 := B3.lt; replace h3 := h3.on hb)); (try (replace X1 := X1.on hb; replace u1 := X1.cellsM.1; replace v1 := X1.cellsM.2; replace z1 := X1.lt)); (try (replace X2 := X2.on hb; replace u2 := X2.cellsM.1; replace v2 := X2.cellsM.2; replace z2 := X2.lt)); (try (replace X3 := X3.on hb; replace u3 := X3.cellsM.1; replace v3 := X3.cellsM.2; replace z3 := X3.lt)); (try (replace X4 := X4.on hb; replace u4 := X4.cellsM.1; replace v4 := X4.cellsM.2; replace z4 := X4.lt)); (try replace R1 := R1.on hb); (try replace R2 := R2.on hb); (try replace O1 := hp.row_on O1 hb); replace K := K.trans ((hb).mono K.size)); clear hb)
            | (go_at_call 15; (with_reducible refine (len_any h1).mono ?_); rintro e w8 ⟨rfl, hb⟩; ((try (replace B1 := B1.on hb; replace c1 := B1.one; replace q1 := B1.lt; replace h1 := h1.on hb)); (try (replace B2 := B2.on hb; replace c2 := B2.one; replace q2 := B2.lt; replace h2 := h2.on hb)); (try (replace B3 := B3.on hb; replace c3 := B3.one; replace q3 := B3.lt; replace h3 := h3.on hb)); (try (replace X1 := X1.on hb; replace u1 := X1.cellsM.1; replace v1 := X1.cellsM.2; replace z1 := X1.lt)); (try (replace X2 := X2.on hb; replace u2 := X2.cellsM.1; replace v2 := X2.cellsM.2; replace z2 := X2.lt)); (try (replace X3 := X3.on hb; replace u3 := X3.cellsM.1; replace v3 := X3.cellsM.2; replace z3 := X3.lt)); (try (replace X4 := X4.on hb; replace u4 := X4.cellsM.1; replace v4 := X4.cellsM.2; replace z4 := X4.lt)); (try replace R1 := R1.on hb); (try replace R2 := R2.on hb); (try replace O1 := hp.row_on O1 hb); replace K := K.trans ((hb).mono K.size)); clear hb))
          go_roundw
          case rel => exact ⟨k + 1, q, L, by go_num, by omega, hLk, hb2.trans (K.mono hb2.size), B1, h1, O1⟩
          case measure => simp [intOf]; omega
        | true =>
          rw [hft] at hy2
          obtain ⟨X, x, Z, hXL, hTp⟩ := Topped.exists hLn
          have hXl : X.length < L.length := by rw [hXL]; simp
          have hFd : pri.Found L X x Z true := .inl ⟨rfl, hXL.symm, hTp⟩
          obtain ⟨T, hT⟩ : ∃ T, X ++ Z = T := ⟨_, rfl⟩
          have hTl : T.length ≤ k + 1 := by have := hFd.len.1; rw [hT] at this; omega
          have hxx : L.getD X.length (0, 0) = x := by rw [hXL]; simp
          obtain ⟨br, ro, rfl, hbr, hrc⟩ := (hro O1).cells (by omega)
          replace hT := Lib.hid hT
          replace hXL := Lib.hid hXL
          replace hxx := Lib.hid hxx
          have heq := eq_item x.1 x.2 x.1 x.2
          simp only [beq_self_eq_true, Bool.and_self] at heq
          go_wp2_with (first
            | (go_at_call 9; (with_reducible refine (first_to (hro O1) hXL.out.symm hTp).mono ?_); rintro e w3 ⟨rfl, hb⟩; ((try (replace B1 := B1.on hb; replace c1 := B1.one; replace q1 := B1.lt; replace h1 := h1.on hb)); (try (replace B2 := B2.on hb; replace c2 := B2.one; replace q2 := B2.lt; replace h2 := h2.on hb)); (try (replace B3 := B3.on hb; replace c3 := B3.one; replace q3 := B3.lt; replace h3 := h3.on hb)); (try (replace X1 := X1.on hb; replace u1 := X1.cellsM.1; replace v1 := X1.cellsM.2; replace z1 := X1.lt)); (try (replace X2 := X2.on hb; replace u2 := X2.cellsM.1; replace v2 := X2.cellsM.2; replace z2 := X2.lt)); (try (replace X3 := X3.on hb; replace u3 := X3.cellsM.1; replace v3 := X3.cellsM.2; replace z3 := X3.lt)); (try (replace X4 := X4.on hb; replace u4 := X4.cellsM.1; replace v4 := X4.cellsM.2; replace z4 := X4.lt)); (try replace R1 := R1.on hb); (try replace R2 := R2.on hb); (try replace O1 := hp.row_on O1 hb); replace K := K.trans ((hb).mono K.size)); clear hb)
            | (go_at_call 10; (with_reducible refine (top_any _ h1 hFd (by omega)).mono ?_); rintro e w4 ⟨rfl, hb⟩; (((try (replace B1 := B1.on hb; replace c1 := B1.one; replace q1 := B1.lt; replace h1 := h1.on hb)); (try (replace B2 := B2.on hb; replace c2 := B2.one; replace q2 := B2.lt; replace h2 := h2.on hb)); (try (replace B3 := B3.on hb; replace c3 := B3.one; replace q3 := B3.lt; replace h3 := h3.on hb)); (try (replace X1 := X1.on hb; replace u1 := X1.cellsM.1; replace v1 := X1.cellsM.2; replace z1 := X1.lt)); (try (replace X2 := X2.on hb; replace u2 := X2.cellsM.1; replace v2 := X2.cellsM.2; replace z2 := X2.lt)); (try (replace X3 := X3.on hb; replace u3 := X3.cellsM.1; replace v3 := X3.cellsM.2; replace z3 := X3.lt)); (try (replace X4 := X4.on hb; replace u4 := X4.cellsM.1; replace v4 := X4.cellsM.2; replace z4 := X4.lt)); (try replace R1 := R1.on hb); (try replace R2 := R2.on hb); (try replace O1 := hp.row_on O1 hb); replace K := K.trans ((hb).mono K.size)); clear hb; (have hz := (Below.refl (w4).heap.size (w4)).alloc (Nat.le_refl _) (.cells #[.int .i64 x.1, .int .i64 x.2] 32); ((try (replace B1 := B1.on hz; replace c1 := B1.one; replace q1 := B1.lt; replace h1 := h1.on hz)); (try (replace B2 := B2.on hz; replace c2 := B2.one; replace q2 := B2.lt; replace h2 := h2.on hz)); (try (replace B3 := B3.on hz; replace c3 := B3.one; replace q3 := B3.lt; replace h3 := h3.on hz)); (try (replace X1 := X1.on hz; replace u1 := X1.cellsM.1; replace v1 := X1.cellsM.2; replace z1 := X1.lt)); (try (replace X2 := X2.on hz; replace u2 := X2.cellsM.1; replace v2 := X2.cellsM.2; replace z2 := X2.lt)); (try (replace X3 := X3.on hz; replace u3 := X3.cellsM.1; replace v3 := X3.cellsM.2; replace z3 := X3.lt)); (try (replace X4 := X4.on hz; replace u4 := X4.cellsM.1; replace v4 := X4.cellsM.2; replace z4 := X4.lt)); (try replace R1 := R1.on hz); (try replace R2 := R2.on hz); (try replace O1 := hp.row_on O1 hz); replace K := K.trans ((hz).mono K.size)); have X1 := hp.Blk.new (w4) [.int .i64 x.1, .int .i64 x.2] 32; have u1 := X1.cellsM.1; have v1 := X1.cellsM.2; have z1 := X1.lt; clear hz)))
            | (go_at_call 11; (with_reducible refine (pop_any _ h1 hFd (by omega) T hT.out).mono ?_); rintro e w5 ⟨⟨qq, rfl, hqq⟩, hb⟩; (((try (replace B1 := B1.on hb; replace c1 := B1.one; replace q1 := B1.lt; replace h1 := h1.on hb)); (try (replace B2 := B2.on hb; replace c2 := B2.one; replace q2 := B2.lt; replace h2 := h2.on hb)); (try (replace B3 := B3.on hb; replace c3 := B3.one; replace q3 := B3.lt; replace h3 := h3.on hb)); (try (replace X1 := X1.on hb; replace u1 := X1.cellsM.1; replace v1 := X1.cellsM.2; replace z1 := X1.lt)); (try (replace X2 := X2.on hb; replace u2 := X2.cellsM.1; replace v2 := X2.cellsM.2; replace z2 := X2.lt)); (try (replace X3 := X3.on hb; replace u3 := X3.cellsM.1; replace v3 := X3.cellsM.2; replace z3 := X3.lt)); (try (replace X4 := X4.on hb; replace u4 := X4.cellsM.1; replace v4 := X4.cellsM.2; replace z4 := X4.lt)); (try replace R1 := R1.on hb); (try replace R2 := R2.on hb); (try replace O1 := hp.row_on O1 hb); replace K := K.trans ((hb).mono K.size)); clear hb; (have hz := (Below.refl (w5).heap.size (w5)).alloc (Nat.le_refl _) (.cells #[.int .i64 x.1, .int .i64 x.2] 32); ((try (replace B1 := B1.on hz; replace c1 := B1.one; replace q1 := B1.lt; replace h1 := h1.on hz)); (try (replace B2 := B2.on hz; replace c2 := B2.one; replace q2 := B2.lt; replace h2 := h2.on hz)); (try (replace B3 := B3.on hz; replace c3 := B3.one; replace q3 := B3.lt; replace h3 := h3.on hz)); (try (replace X1 := X1.on hz; replace u1 := X1.cellsM.1; replace v1 := X1.cellsM.2; replace z1 := X1.lt)); (try (replace X2 := X2.on hz; replace u2 := X2.cellsM.1; replace v2 := X2.cellsM.2; replace z2 := X2.lt)); (try (replace X3 := X3.on hz; replace u3 := X3.cellsM.1; replace v3 := X3.cellsM.2; replace z3 := X3.lt)); (try (replace X4 := X4.on hz; replace u4 := X4.cellsM.1; replace v4 := X4.cellsM.2; replace z4 := X4.lt)); (try replace R1 := R1.on hz); (try replace R2 := R2.on hz); (try replace O1 := hp.row_on O1 hz); replace K := K.trans ((hz).mono K.size)); have X2 := hp.Blk.new (w5) [.int .i64 x.1, .int .i64 x.2] 32; have u2 := X2.cellsM.1; have v2 := X2.cellsM.2; have z2 := X2.lt; clear hz))))
          have hv5 : Below (w5.alloc (.cells #[.int .i64 x.1, .int .i64 x.2] 32)).heap.size (w5.alloc (.cells #[.int .i64 x.1, .int .i64 x.2] 32)) ((w5.alloc (.cells #[.int .i64 x.1, .int .i64 x.2] 32)).alloc (.cells #[.pointer qq] 29)) := (Below.refl _ _).alloc (Nat.le_refl _) _
          have h2 := (hqq.on ((Below.refl _ _).alloc (Nat.le_refl _) (.cells #[.int .i64 x.1, .int .i64 x.2] 32))).on hv5
          ((try (replace B1 := B1.on hv5; replace c1 := B1.one; replace q1 := B1.lt; replace h1 := h1.on hv5)); (try (replace B2 := B2.on hv5; replace c2 := B2.one; replace q2 := B2.lt; replace h2 := h2.on hv5)); (try (replace B3 := B3.on hv5; replace c3 := B3.one; replace q3 := B3.lt; replace h3 := h3.on hv5)); (try (replace X1 := X1.on hv5; replace u1 := X1.cellsM.1; replace v1 := X1.cellsM.2; replace z1 := X1.lt)); (try (replace X2 := X2.on hv5; replace u2 := X2.cellsM.1; replace v2 := X2.cellsM.2; replace z2 := X2.lt)); (try (replace X3 := X3.on hv5; replace u3 := X3.cellsM.1; replace v3 := X3.cellsM.2; replace z3 := X3.lt)); (try (replace X4 := X4.on hv5; replace u4 := X4.cellsM.1; replace v4 := X4.cellsM.2; replace z4 := X4.lt)); (try replace R1 := R1.on hv5); (try replace R2 := R2.on hv5); (try replace O1 := hp.row_on O1 hv5); replace K := K.trans ((hv5).mono K.size))
          have B2 : hp.Blk ((w5.alloc (.cells #[.int .i64 x.1, .int .i64 x.2] 32)).alloc (.cells #[.pointer qq] 29)) (w5.heap.size + 1) 29 [.pointer qq] := hp.Blk.newAt (by simp)
          obtain ⟨V, hV⟩ : ∃ V, (w5.alloc (.cells #[.int .i64 x.1, .int .i64 x.2] 32)).alloc (.cells #[.pointer qq] 29) = V := ⟨_, rfl⟩
          clear c1 q1 u1 v1 z1 u2 v2 z2 hv5 hqq hy2 hd1 hb1 hb1w
          rw [hV] at B1 h1 O1 X1 X2 B2 h2 K ⊢
          clear hV
          generalize w4.heap.size = g4 at *
          generalize w5.heap.size = g5 at *
          obtain ⟨u1, v1⟩ := X1.cellsM
          obtain ⟨u2, v2⟩ := X2.cellsM
          have z1 := X1.lt
          have z2 := X2.lt
          obtain ⟨r0, r1⟩ := hrc X.length hXl
          rw [hxx.out] at r0 r1
          have r2 := (K.cell (p := ⟨br, ro + X.length * 2, none⟩) hbr).trans r0
          have r3 := (K.cell (p := ⟨br, ro + X.length * 2 + 1, none⟩) hbr).trans r1
          have hbrV : br < V.heap.size := by have := K.size; omega
          clear r0 r1 hrc
          go_big_region
          clear r2 r3 hbrV u1 v1 z1 u2 v2 z2 X1 X2 heq hxx
          have hdr : Below V.heap.size V V.drew := (Below.refl _ _).drew
          have hsz : w.heap.size ≤ V.heap.size := Nat.le_trans hb2.size K.size
          ((try (replace B1 := B1.on hdr; replace c1 := B1.one; replace q1 := B1.lt; replace h1 := h1.on hdr)); (try (replace B2 := B2.on hdr; replace c2 := B2.one; replace q2 := B2.lt; replace h2 := h2.on hdr)); (try (replace B3 := B3.on hdr; replace c3 := B3.one; replace q3 := B3.lt; replace h3 := h3.on hdr)); (try (replace X1 := X1.on hdr; replace u1 := X1.cellsM.1; replace v1 := X1.cellsM.2; replace z1 := X1.lt)); (try (replace X2 := X2.on hdr; replace u2 := X2.cellsM.1; replace v2 := X2.cellsM.2; replace z2 := X2.lt)); (try (replace X3 := X3.on hdr; replace u3 := X3.cellsM.1; replace v3 := X3.cellsM.2; replace z3 := X3.lt)); (try (replace X4 := X4.on hdr; replace u4 := X4.cellsM.1; replace v4 := X4.cellsM.2; replace z4 := X4.lt)); (try replace R1 := R1.on hdr); (try replace R2 := R2.on hdr); (try replace O1 := hp.row_on O1 hdr); replace K := K.trans ((hdr).mono K.size))
          go_wp2_with (go_at_call 12; (with_reducible refine (less_own (hro O1) hXL.out.symm (by omega)).mono ?_); rintro e w6 ⟨⟨uv, rfl, O2⟩, hb⟩; ((try (replace B1 := B1.on hb; replace c1 := B1.one; replace q1 := B1.lt; replace h1 := h1.on hb)); (try (replace B2 := B2.on hb; replace c2 := B2.one; replace q2 := B2.lt; replace h2 := h2.on hb)); (try (replace B3 := B3.on hb; replace c3 := B3.one; replace q3 := B3.lt; replace h3 := h3.on hb)); (try (replace X1 := X1.on hb; replace u1 := X1.cellsM.1; replace v1 := X1.cellsM.2; replace z1 := X1.lt)); (try (replace X2 := X2.on hb; replace u2 := X2.cellsM.1; replace v2 := X2.cellsM.2; replace z2 := X2.lt)); (try (replace X3 := X3.on hb; replace u3 := X3.cellsM.1; replace v3 := X3.cellsM.2; replace z3 := X3.lt)); (try (replace X4 := X4.on hb; replace u4 := X4.cellsM.1; replace v4 := X4.cellsM.2; replace z4 := X4.lt)); (try replace R1 := R1.on hb); (try replace R2 := R2.on hb); (try replace O1 := hp.row_on O1 hb); replace K := K.trans ((hb).mono K.size)); clear hb; rw [hT.out] at O2; replace O1 := row_base (b' := w.heap.size) O2 (by simpa using hsz); clear O2; have f1 := B1.free)
          obtain ⟨W7, hW7⟩ : ∃ W7, w6.setCell ⟨wa.heap.size, 0, none⟩ (.pointer qq) = W7 := ⟨_, rfl⟩
          have hb7 : Below w.heap.size w W7 := by rw [← hW7]; exact (hb2.trans (K.mono hb2.size)).setCell (p := ⟨wa.heap.size, 0, none⟩) (by simpa using hwa) _
          have B7 : hp.Blk W7 wa.heap.size 29 [.pointer qq] := by rw [← hW7]; exact B1.set 0 _
          have h7 : IsT W7 (.agg #[.pointer qq]) T := by rw [← hW7]; exact h2.keep (keep_queue B1 _ _)
          have O7 := hp.row_set (o := 0) O1 B1 (by decide) (.pointer qq)
          rw [hW7] at O7 ⊢
          clear hW7 B1 c1 q1 h1 O1 K B2 c2 q2 h2 hdr hFd hT hXL hTp hXl hLn hLk hLb f1
          have B1 := B7
          have c1 := B1.one
          have q1 := B1.lt
          have h1 := h7
          have O1 := O7
          have hLb : T.length ≤ 17592186044416 := by omega
          have K := Below.refl W7.heap.size W7
          clear B7 h7 O7
          obtain ⟨avc, cvc, rfl⟩ := (hro O1).val
          go_wp2_with (first
            | (go_at_call 14; (with_reducible refine (items_any _ _ _ h1 hLb).mono ?_); rintro e w6 ⟨⟨ui, rfl, R1⟩, hb⟩; ((try (replace B1 := B1.on hb; replace c1 := B1.one; replace q1 := B1.lt; replace h1 := h1.on hb)); (try (replace B2 := B2.on hb; replace c2 := B2.one; replace q2 := B2.lt; replace h2 := h2.on hb)); (try (replace B3 := B3.on hb; replace c3 := B3.one; replace q3 := B3.lt; replace h3 := h3.on hb)); (try (replace X1 := X1.on hb; replace u1 := X1.cellsM.1; replace v1 := X1.cellsM.2; replace z1 := X1.lt)); (try (replace X2 := X2.on hb; replace u2 := X2.cellsM.1; replace v2 := X2.cellsM.2; replace z2 := X2.lt)); (try (replace X3 := X3.on hb; replace u3 := X3.cellsM.1; replace v3 := X3.cellsM.2; replace z3 := X3.lt)); (try (replace X4 := X4.on hb; replace u4 := X4.cellsM.1; replace v4 := X4.cellsM.2; replace z4 := X4.lt)); (try replace R1 := R1.on hb); (try replace R2 := R2.on hb); (try replace O1 := hp.row_on O1 hb); replace K := K.trans ((hb).mono K.size)); clear hb; have SI := items_eq rfl R1 (hro O1))
            | (go_at_call 13; (with_reducible refine SI.mono ?_); clear SI R1; rintro e w7 ⟨rfl, hb⟩; ((try (replace B1 := B1.on hb; replace c1 := B1.one; replace q1 := B1.lt; replace h1 := h1.on hb)); (try (replace B2 := B2.on hb; replace c2 := B2.one; replace q2 := B2.lt; replace h2 := h2.on hb)); (try (replace B3 := B3.on hb; replace c3 := B3.one; replace q3 := B3.lt; replace h3 := h3.on hb)); (try (replace X1 := X1.on hb; replace u1 := X1.cellsM.1; replace v1 := X1.cellsM.2; replace z1 := X1.lt)); (try (replace X2 := X2.on hb; replace u2 := X2.cellsM.1; replace v2 := X2.cellsM.2; replace z2 := X2.lt)); (try (replace X3 := X3.on hb; replace u3 := X3.cellsM.1; replace v3 := X3.cellsM.2; replace z3 := X3.lt)); (try (replace X4 := X4.on hb; replace u4 := X4.cellsM.1; replace v4 := X4.cellsM.2; replace z4 := X4.lt)); (try replace R1 := R1.on hb); (try replace R2 := R2.on hb); (try replace O1 := hp.row_on O1 hb); replace K := K.trans ((hb).mono K.size)); clear hb)
            | (go_at_call 15; (with_reducible refine (len_any h1).mono ?_); rintro e w8 ⟨rfl, hb⟩; ((try (replace B1 := B1.on hb; replace c1 := B1.one; replace q1 := B1.lt; replace h1 := h1.on hb)); (try (replace B2 := B2.on hb; replace c2 := B2.one; replace q2 := B2.lt; replace h2 := h2.on hb)); (try (replace B3 := B3.on hb; replace c3 := B3.one; replace q3 := B3.lt; replace h3 := h3.on hb)); (try (replace X1 := X1.on hb; replace u1 := X1.cellsM.1; replace v1 := X1.cellsM.2; replace z1 := X1.lt)); (try (replace X2 := X2.on hb; replace u2 := X2.cellsM.1; replace v2 := X2.cellsM.2; replace z2 := X2.lt)); (try (replace X3 := X3.on hb; replace u3 := X3.cellsM.1; replace v3 := X3.cellsM.2; replace z3 := X3.lt)); (try (replace X4 := X4.on hb; replace u4 := X4.cellsM.1; replace v4 := X4.cellsM.2; replace z4 := X4.lt)); (try replace R1 := R1.on hb); (try replace R2 := R2.on hb); (try replace O1 := hp.row_on O1 hb); replace K := K.trans ((hb).mono K.size)); clear hb))
          go_roundw
          case rel => exact ⟨k + 1, qq, T, by go_num, by omega, hTl, hb7.trans (K.mono hb7.size), B1, h1, O1⟩
          case measure => simp [intOf]; omega
      · go_wp2_with (first
            | (go_at_call 14; (with_reducible refine (items_any _ _ _ h1 hLb).mono ?_); rintro e w6 ⟨⟨ui, rfl, R1⟩, hb⟩; ((try (replace B1 := B1.on hb; replace c1 := B1.one; replace q1 := B1.lt; replace h1 := h1.on hb)); (try (replace B2 := B2.on hb; replace c2 := B2.one; replace q2 := B2.lt; replace h2 := h2.on hb)); (try (replace B3 := B3.on hb; replace c3 := B3.one; replace q3 := B3.lt; replace h3 := h3.on hb)); (try (replace X1 := X1.on hb; replace u1 := X1.cellsM.1; replace v1 := X1.cellsM.2; replace z1 := X1.lt)); (try (replace X2 := X2.on hb; replace u2 := X2.cellsM.1; replace v2 := X2.cellsM.2; replace z2 := X2.lt)); (try (replace X3 := X3.on hb; replace u3 := X3.cellsM.1; replace v3 := X3.cellsM.2; replace z3 := X3.lt)); (try (replace X4 := X4.on hb; replace u4 := X4.cellsM.1; replace v4 := X4.cellsM.2; replace z4 := X4.lt)); (try replace R1 := R1.on hb); (try replace R2 := R2.on hb); (try replace O1 := hp.row_on O1 hb); replace K := K.trans ((hb).mono K.size)); clear hb; have SI := items_eq rfl R1 (hro O1))
            | (go_at_call 13; (with_reducible refine SI.mono ?_); clear SI R1; rintro e w7 ⟨rfl, hb⟩; ((try (replace B1 := B1.on hb; replace c1 := B1.one; replace q1 := B1.lt; replace h1 := h1.on hb)); (try (replace B2 := B2.on hb; replace c2 := B2.one; replace q2 := B2.lt; replace h2 := h2.on hb)); (try (replace B3 := B3.on hb; replace c3 := B3.one; replace q3 := B3.lt; replace h3 := h3.on hb)); (try (replace X1 := X1.on hb; replace u1 := X1.cellsM.1; replace v1 := X1.cellsM.2; replace z1 := X1.lt)); (try (replace X2 := X2.on hb; replace u2 := X2.cellsM.1; replace v2 := X2.cellsM.2; replace z2 := X2.lt)); (try (replace X3 := X3.on hb; replace u3 := X3.cellsM.1; replace v3 := X3.cellsM.2; replace z3 := X3.lt)); (try (replace X4 := X4.on hb; replace u4 := X4.cellsM.1; replace v4 := X4.cellsM.2; replace z4 := X4.lt)); (try replace R1 := R1.on hb); (try replace R2 := R2.on hb); (try replace O1 := hp.row_on O1 hb); replace K := K.trans ((hb).mono K.size)); clear hb)
            | (go_at_call 15; (with_reducible refine (len_any h1).mono ?_); rintro e w8 ⟨rfl, hb⟩; ((try (replace B1 := B1.on hb; replace c1 := B1.one; replace q1 := B1.lt; replace h1 := h1.on hb)); (try (replace B2 := B2.on hb; replace c2 := B2.one; replace q2 := B2.lt; replace h2 := h2.on hb)); (try (replace B3 := B3.on hb; replace c3 := B3.one; replace q3 := B3.lt; replace h3 := h3.on hb)); (try (replace X1 := X1.on hb; replace u1 := X1.cellsM.1; replace v1 := X1.cellsM.2; replace z1 := X1.lt)); (try (replace X2 := X2.on hb; replace u2 := X2.cellsM.1; replace v2 := X2.cellsM.2; replace z2 := X2.lt)); (try (replace X3 := X3.on hb; replace u3 := X3.cellsM.1; replace v3 := X3.cellsM.2; replace z3 := X3.lt)); (try (replace X4 := X4.on hb; replace u4 := X4.cellsM.1; replace v4 := X4.cellsM.2; replace z4 := X4.lt)); (try replace R1 := R1.on hb); (try replace R2 := R2.on hb); (try replace O1 := hp.row_on O1 hb); replace K := K.trans ((hb).mono K.size)); clear hb))
        go_roundw
        case rel => exact ⟨k + 1, q, L, by go_num, by omega, hLk, hb2.trans (K.mono hb2.size), B1, h1, O1⟩
        case measure => simp [intOf]; omega
    · have TN : ∀ V, Calls Try.prog 10 #[.agg #[.pointer none]] V fun e w' => e = .returned (.tuple #[.agg #[.int .i64 0, .int .i64 0], .bool false]) ∧ Below V.heap.size V w' := fun V => top_any V (IsT.nil V) (.inr ⟨rfl, rfl, rfl, rfl, rfl⟩) (by decide)
      have PN : ∀ V, Calls Try.prog 11 #[.agg #[.pointer none]] V fun e w' => (∃ q, e = .returned (.tuple #[.agg #[.int .i64 0, .int .i64 0], .agg #[.pointer q], .bool false]) ∧ IsT w' (.agg #[.pointer q]) []) ∧ Below V.heap.size V w' := fun V => pop_any V (IsT.nil V) (.inr ⟨rfl, rfl, rfl, rfl, rfl⟩) (by decide) [] rfl
      have LN : ∀ V u, IsT V u [] → Calls Try.prog 15 #[u] V fun e w' => e = .returned (.int .i64 0) ∧ Below V.heap.size V w' := fun V u h => len_any h
      have heq := eq_item 0 0 0 0
      simp only [beq_self_eq_true, Bool.and_self] at heq
      have K := Below.refl wr.heap.size wr
      have hz0 : Below wr.heap.size wr (wr.alloc (.cells #[.pointer none] 29)) := by ((repeat' (first | with_reducible exact Below.refl _ _ | with_reducible apply Below.setCell | with_reducible apply below_drewN | with_reducible apply Below.drew | with_reducible apply Below.alloc | with_reducible refine Below.trans ?_ (Below.mono (by assumption) ?_))) <;> (first | (simp; done) | (simp; omega) | omega))
      replace K := K.trans hz0
      have B1 := hp.Blk.new wr [.pointer none] 29
      have c1 := B1.one
      have q1 := B1.lt
      have h1 := IsT.nil (wr.alloc (.cells #[.pointer none] 29))
      clear hc0 hcy hw0 hO hT hB hz0
      go_wp2_with (first
        | (go_at_call 10; (with_reducible refine (TN _).mono ?_); clear TN; rintro e w4 ⟨rfl, hb4⟩; (((try (replace B1 := B1.on hb4; replace c1 := B1.one; replace q1 := B1.lt; replace h1 := h1.on hb4)); (try (replace B2 := B2.on hb4; replace c2 := B2.one; replace q2 := B2.lt; replace h2 := h2.on hb4)); (try (replace B3 := B3.on hb4; replace c3 := B3.one; replace q3 := B3.lt; replace h3 := h3.on hb4)); (try (replace X1 := X1.on hb4; replace u1 := X1.cellsM.1; replace v1 := X1.cellsM.2; replace z1 := X1.lt)); (try (replace X2 := X2.on hb4; replace u2 := X2.cellsM.1; replace v2 := X2.cellsM.2; replace z2 := X2.lt)); (try (replace X3 := X3.on hb4; replace u3 := X3.cellsM.1; replace v3 := X3.cellsM.2; replace z3 := X3.lt)); (try (replace X4 := X4.on hb4; replace u4 := X4.cellsM.1; replace v4 := X4.cellsM.2; replace z4 := X4.lt)); (try replace R1 := R1.on hb4); (try replace R2 := R2.on hb4); (try replace O1 := hp.row_on O1 hb4); replace K := K.trans ((hb4).mono K.size)); clear hb4; (have hz := (Below.refl (w4).heap.size (w4)).alloc (Nat.le_refl _) (.cells #[.int .i64 0, .int .i64 0] 32); ((try (replace B1 := B1.on hz; replace c1 := B1.one; replace q1 := B1.lt; replace h1 := h1.on hz)); (try (replace B2 := B2.on hz; replace c2 := B2.one; replace q2 := B2.lt; replace h2 := h2.on hz)); (try (replace B3 := B3.on hz; replace c3 := B3.one; replace q3 := B3.lt; replace h3 := h3.on hz)); (try (replace X1 := X1.on hz; replace u1 := X1.cellsM.1; replace v1 := X1.cellsM.2; replace z1 := X1.lt)); (try (replace X2 := X2.on hz; replace u2 := X2.cellsM.1; replace v2 := X2.cellsM.2; replace z2 := X2.lt)); (try (replace X3 := X3.on hz; replace u3 := X3.cellsM.1; replace v3 := X3.cellsM.2; replace z3 := X3.lt)); (try (replace X4 := X4.on hz; replace u4 := X4.cellsM.1; replace v4 := X4.cellsM.2; replace z4 := X4.lt)); (try replace R1 := R1.on hz); (try replace R2 := R2.on hz); (try replace O1 := hp.row_on O1 hz); replace K := K.trans ((hz).mono K.size)); have X1 := hp.Blk.new (w4) [.int .i64 0, .int .i64 0] 32; have u1 := X1.cellsM.1; have v1 := X1.cellsM.2; have z1 := X1.lt; clear hz)))
        | (go_at_call 11; (with_reducible refine (PN _).mono ?_); clear PN; rintro e w5 ⟨⟨qq, rfl, hqq⟩, hb5⟩; (((try (replace B1 := B1.on hb5; replace c1 := B1.one; replace q1 := B1.lt; replace h1 := h1.on hb5)); (try (replace B2 := B2.on hb5; replace c2 := B2.one; replace q2 := B2.lt; replace h2 := h2.on hb5)); (try (replace B3 := B3.on hb5; replace c3 := B3.one; replace q3 := B3.lt; replace h3 := h3.on hb5)); (try (replace X1 := X1.on hb5; replace u1 := X1.cellsM.1; replace v1 := X1.cellsM.2; replace z1 := X1.lt)); (try (replace X2 := X2.on hb5; replace u2 := X2.cellsM.1; replace v2 := X2.cellsM.2; replace z2 := X2.lt)); (try (replace X3 := X3.on hb5; replace u3 := X3.cellsM.1; replace v3 := X3.cellsM.2; replace z3 := X3.lt)); (try (replace X4 := X4.on hb5; replace u4 := X4.cellsM.1; replace v4 := X4.cellsM.2; replace z4 := X4.lt)); (try replace R1 := R1.on hb5); (try replace R2 := R2.on hb5); (try replace O1 := hp.row_on O1 hb5); replace K := K.trans ((hb5).mono K.size)); clear hb5; (have hz := (Below.refl (w5).heap.size (w5)).alloc (Nat.le_refl _) (.cells #[.int .i64 0, .int .i64 0] 32); ((try (replace B1 := B1.on hz; replace c1 := B1.one; replace q1 := B1.lt; replace h1 := h1.on hz)); (try (replace B2 := B2.on hz; replace c2 := B2.one; replace q2 := B2.lt; replace h2 := h2.on hz)); (try (replace B3 := B3.on hz; replace c3 := B3.one; replace q3 := B3.lt; replace h3 := h3.on hz)); (try (replace X1 := X1.on hz; replace u1 := X1.cellsM.1; replace v1 := X1.cellsM.2; replace z1 := X1.lt)); (try (replace X2 := X2.on hz; replace u2 := X2.cellsM.1; replace v2 := X2.cellsM.2; replace z2 := X2.lt)); (try (replace X3 := X3.on hz; replace u3 := X3.cellsM.1; replace v3 := X3.cellsM.2; replace z3 := X3.lt)); (try (replace X4 := X4.on hz; replace u4 := X4.cellsM.1; replace v4 := X4.cellsM.2; replace z4 := X4.lt)); (try replace R1 := R1.on hz); (try replace R2 := R2.on hz); (try replace O1 := hp.row_on O1 hz); replace K := K.trans ((hz).mono K.size)); have X2 := hp.Blk.new (w5) [.int .i64 0, .int .i64 0] 32; have u2 := X2.cellsM.1; have v2 := X2.cellsM.2; have z2 := X2.lt; clear hz)); have hv5 : Below (w5.alloc (.cells #[.int .i64 0, .int .i64 0] 32)).heap.size (w5.alloc (.cells #[.int .i64 0, .int .i64 0] 32)) ((w5.alloc (.cells #[.int .i64 0, .int .i64 0] 32)).alloc (.cells #[.pointer qq] 29)) := (Below.refl _ _).alloc (Nat.le_refl _) _; have h2 := (hqq.on ((Below.refl _ _).alloc (Nat.le_refl _) (.cells #[.int .i64 0, .int .i64 0] 32))).on hv5; ((try (replace B1 := B1.on hv5; replace c1 := B1.one; replace q1 := B1.lt; replace h1 := h1.on hv5)); (try (replace B2 := B2.on hv5; replace c2 := B2.one; replace q2 := B2.lt; replace h2 := h2.on hv5)); (try (replace B3 := B3.on hv5; replace c3 := B3.one; replace q3 := B3.lt; replace h3 := h3.on hv5)); (try (replace X1 := X1.on hv5; replace u1 := X1.cellsM.1; replace v1 := X1.cellsM.2; replace z1 := X1.lt)); (try (replace X2 := X2.on hv5; replace u2 := X2.cellsM.1; replace v2 := X2.cellsM.2; replace z2 := X2.lt)); (try (replace X3 := X3.on hv5; replace u3 := X3.cellsM.1; replace v3 := X3.cellsM.2; replace z3 := X3.lt)); (try (replace X4 := X4.on hv5; replace u4 := X4.cellsM.1; replace v4 := X4.cellsM.2; replace z4 := X4.lt)); (try replace R1 := R1.on hv5); (try replace R2 := R2.on hv5); (try replace O1 := hp.row_on O1 hv5); replace K := K.trans ((hv5).mono K.size)); have B2 : hp.Blk ((w5.alloc (.cells #[.int .i64 0, .int .i64 0] 32)).alloc (.cells #[.pointer qq] 29)) (w5.heap.size + 1) 29 [.pointer qq] := hp.Blk.newAt (by simp); have c2 := B2.one; have q2 := B2.lt)
        | (go_at_call 15; (with_reducible refine (LN _ _ h2).mono ?_); rintro e w8 ⟨rfl, hb8⟩))
      go_ret
      exact ⟨rfl, hb.trans ((K.trans (hb8.mono K.size)).mono hb.size)⟩
end Go.Proofs.Ytfbeiimmcemniaa.prioTells
