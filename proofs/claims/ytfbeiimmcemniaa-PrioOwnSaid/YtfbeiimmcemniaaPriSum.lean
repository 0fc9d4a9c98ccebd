/- Package measured: sum, over, deep, few. -/
import Derived.Test.YtfbeiimmcemniaaPriFns
namespace Go.Proofs.Ytfbeiimmcemniaa.pri
open Go Go.RowKit

set_option maxRecDepth 100000 in
set_option maxHeartbeats 4000000 in
attribute [-go_sem] sliced in
theorem sum_any {Q : Nat → Prop} (v : Value) (ns : List Nd) (w : World) (h : Row Q w v ns) (hne : 1 ≤ ns.length) (hmx : ns.length ≤ 16) (L : List (Int × Int)) (hL : flat ns = L) (hbd : L.length ≤ 4611686018427387904) :
    Calls Try.prog 46 #[v] w fun e w' => e = .returned (mvOf L.length L) ∧ Below w.heap.size w w' := by
  obtain ⟨a, cap, rfl, -, hcap, hc⟩ := h.cells
  obtain ⟨b, off, rfl, -, hb, hcell⟩ := hc hne
  obtain ⟨m, hm⟩ : ∃ m, ns.length = m + 1 := ⟨ns.length - 1, by omega⟩
  rw [hm] at hcap hmx ⊢
  have hM := methodJoin
  obtain ⟨n0, r0, rfl⟩ : ∃ x r, ns = x :: r := by
    cases ns with
    | nil => simp at hne
    | cons x r => exact ⟨x, r, rfl⟩
  obtain ⟨p0, k0, h0⟩ := hcell 0 _ rfl
  obtain ⟨g, x, u, rfl, hg, hk, -⟩ := h0.blk
  obtain ⟨L0, hL0⟩ : ∃ L0, n0.nums = L0 := ⟨_, rfl⟩
  rw [hL0] at hk
  obtain ⟨c0, c1⟩ := hk.first
  rw [Nat.add_zero] at k0
  have hR := hp.Blk.new w [.int .i64 0, .int .i64 0] 50
  clear hc h0 hk
  have hF := h.from (i := 1) (by rw [hm]; omega)
  rw [hm] at hF
  obtain ⟨a', cap', es, -, -, hc'⟩ := hF.cells
  rw [List.drop_succ_cons, List.drop_zero] at es hc'
  have hrl : r0.length = m := by simpa using hm
  rw [hrl] at es hc'
  replace hrl := Lib.hid hrl
  clear hF h
  go_enter Try.func46, Try.ntmps46
  go_wp2_with fail
  go_loopw [5, 15] (fun _ i wr => ∃ j : Nat, ∃ T, i = .int .i64 j ∧ j ≤ m ∧ Below w.heap.size w wr ∧ hp.Blk wr w.heap.size 50 [.int .i64 0, .int .i64 0] ∧ Hid (flat (n0 :: r0.take j) = T) ∧ hp.Blk wr (w.heap.size + 1) 50 [.int .i64 (T.length : Nat), .int .i64 (topOf T)]) (fun _ i _ => m - (intOf i).toNat)
  case atStart => exact ⟨0, L0, rfl, by omega, by ((repeat' (first | with_reducible exact Below.refl _ _ | with_reducible apply Below.setCell | with_reducible apply below_drewN | with_reducible apply Below.drew | with_reducible apply Below.alloc | with_reducible refine Below.trans ?_ (Below.mono (by assumption) ?_))) <;> (first | (simp; done) | (simp; omega) | omega)), hR.alloc _, by show _ = _; rw [← hL0]; simp [flat], hp.Blk.newAt (by simp)⟩
  case round =>
    clear hR c0 c1 k0
    obtain ⟨j, T, rfl, hj, hb2, hkR, hT, hkB⟩ := hrel
    by_cases hlt : j < m
    · obtain ⟨b', off', rfl, -, hb', hcell'⟩ := hc' (by omega)
      obtain ⟨n, hn⟩ : ∃ n, r0[j]? = some n := ⟨_, List.getElem?_eq_some_iff.2 ⟨by rw [hrl.out]; omega, rfl⟩⟩
      obtain ⟨p, kp, hnod⟩ := hcell' j n hn
      obtain ⟨g', x', u', rfl, hg', hk', -⟩ := (hnod.on hb2).blk
      have kp2 := (hb2.cell (p := ⟨b', off' + j, none⟩) hb').trans kp
      have hbw : b' < wr.heap.size := by have := hb2.size; omega
      obtain ⟨N, hN⟩ : ∃ N, n.nums = N := ⟨_, rfl⟩
      obtain ⟨T', hT'⟩ : ∃ T', T ++ N = T' := ⟨_, rfl⟩
      have hnext : flat (n0 :: r0.take (j + 1)) = T' := by
        rw [List.take_add_one, hn, ← hT', ← hT.out, ← hN]
        simp [flat]
      have hlen : T.length + N.length ≤ 9223372036854775807 := by
        have e : flat (n0 :: r0) = flat (n0 :: r0.take (j + 1)) ++ flat (r0.drop (j + 1)) := by rw [← flat_append, List.cons_append, List.take_append_drop]
        have : T'.length ≤ L.length := by rw [← hL, e, hnext]; simp
        rw [← hT', List.length_append] at this
        omega
      rw [hN] at hk'
      have hJ := fun W => mjoin_any T N T' W hT' hlen
      replace hnext := Lib.hid hnext
      clear hT hcell' hnod hN hT' hlen hn hc' kp hcell es
      go_wp2_with fail
      apply rel.region_tail (C := fun w' => Below wr.heap.size wr w') (X := fun w w' => Below w.heap.size w w') 7 (by kernel_rfl) (by kernel_rfl) (by kernel_rfl) (by kernel_rfl) ((Below.refl _ _).drew)
      ((apply rel.walk_val; (focus (intro wq hq hf; (obtain ⟨d0, d1⟩ := ((hkB).below hq (hkB).lt).cellsM); go_wp2; refine ⟨hq, Below.refl _ _, ?_, rfl⟩; (show rel.slot _ _ = _; simp only [rel.slot_lit, List.getD_cons_succ, List.getD_cons_zero]; (first | done | exact rfl)))); (simp only [rel.put_lit, List.set_cons_succ, List.set_cons_zero])))
      (apply rel.walk_val; (focus (intro wq hq hf; go_wp2; refine ⟨hq, Below.refl _ _, ?_, rfl⟩; (show rel.slot _ _ = _; simp only [rel.slot_lit, List.getD_cons_succ, List.getD_cons_zero]; (first | done | exact rfl)))); (simp only [rel.put_lit, List.set_cons_succ, List.set_cons_zero]))
      (apply rel.walk_val; (focus (intro wq hq hf; go_wp2; refine ⟨hq, Below.refl _ _, ?_, rfl⟩; (show rel.slot _ _ = _; simp only [rel.slot_lit, List.getD_cons_succ, List.getD_cons_zero]; (first | done | exact rfl)))); (simp only [rel.put_lit, List.set_cons_succ, List.set_cons_zero]))
      (apply rel.walk_val; (focus (intro wq hq hf; go_wp2; refine ⟨hq, Below.refl _ _, ?_, rfl⟩; (show rel.slot _ _ = _; simp only [rel.slot_lit, List.getD_cons_succ, List.getD_cons_zero]; (first | done | exact rfl)))); (simp only [rel.put_lit, List.set_cons_succ, List.set_cons_zero]))
      (apply rel.walk_val; (focus (intro wq hq hf; go_wp2; refine ⟨hq, Below.refl _ _, ?_, rfl⟩; (show rel.slot _ _ = _; simp only [rel.slot_lit, List.getD_cons_succ, List.getD_cons_zero]; (first | done | exact rfl)))); (simp only [rel.put_lit, List.set_cons_succ, List.set_cons_zero]))
      ((apply rel.walk_val; (focus (intro wq hq hf; (obtain ⟨d0, d1⟩ := ((hk').below hq (hk').lt).cellsM); go_wp2; refine ⟨hq, Below.refl _ _, ?_, rfl⟩; (show rel.slot _ _ = _; simp only [rel.slot_lit, List.getD_cons_succ, List.getD_cons_zero]; (first | done | exact rfl)))); (simp only [rel.put_lit, List.set_cons_succ, List.set_cons_zero])))
      (apply rel.walk_val; (focus (intro wq hq hf; go_wp2_with (go_at_call 67; refine (hJ _).mono ?_; rintro e w'' ⟨rfl, hb⟩); refine ⟨hq.trans (hb.mono hq.size), hb, ?_, rfl⟩; (show rel.slot _ _ = _; simp only [rel.slot_lit, List.getD_cons_succ, List.getD_cons_zero]; (first | done | exact rfl)))); (simp only [rel.put_lit, List.set_cons_succ, List.set_cons_zero]))
      refine rel.walk_nil ?_
      intro w9 K9 hF
      clear hF
      have hkB9 := hkB.on K9
      have hkR9 := hkR.on K9
      obtain ⟨d0, d1⟩ := hkB9.cellsM
      have df := hkB9.free
      go_wp2_with fail
      go_roundw
      case rel =>
        refine ⟨j + 1, T', by go_num, by omega, ?_, ?_, hnext, ?_⟩
        · refine hb2.trans ((K9.mono hb2.size).trans ?_)
          ((repeat' (first | with_reducible exact Below.refl _ _ | with_reducible apply Below.setCell | with_reducible apply below_drewN | with_reducible apply Below.drew | with_reducible apply Below.alloc | with_reducible refine Below.trans ?_ (Below.mono (by assumption) ?_))) <;> (first | (simp; done) | (simp; omega) | omega))
        · (repeat (first | with_reducible exact hkR9 | with_reducible apply hp.Blk.drewN | (with_reducible refine hp.Blk.other ?_ (by simp) _)))
        · exact hkB9.setM _ _
      case measure => simp [intOf]; omega
    · obtain rfl : j = m := by omega
      rw [← hrl.out, List.take_length, hL] at hT
      obtain rfl : L = T := hT.out
      obtain ⟨e0, e1⟩ := hkB.cellsM
      obtain ⟨d0, d1⟩ := hkR.cellsM
      have df := hkR.free
      obtain ⟨f0, f1⟩ := (hkR.setM (.int .i64 (L.length : Nat)) (.int .i64 (topOf L))).cellsM
      go_wp2_with fail
      refine bodyPost_ret (v := pri.mvOf L.length L) (by simp [results, Try.results46, go_sem, f0, f1]) rfl ⟨rfl, ?_⟩
      ((repeat' (first | with_reducible exact Below.refl _ _ | with_reducible apply Below.setCell | with_reducible apply below_drewN | with_reducible apply Below.drew | with_reducible apply Below.alloc | with_reducible refine Below.trans ?_ (Below.mono (by assumption) ?_))) <;> (first | (simp; done) | (simp; omega) | omega))

/-- a node of these -/
theorem Nd.of {k : Nat} {ns : List Nd} (hk : Hts k ns) (h2 : 2 ≤ ns.length) (h3 : ns.length ≤ 3) : ∃ n : Nd, n.parts = ns ∧ Nd.Ht (k + 1) n := by
  rcases ns with _ | ⟨a, _ | ⟨b, _ | ⟨c, _ | ⟨d, r⟩⟩⟩⟩
  · simp at h2
  · simp at h2
  · exact ⟨.two a b, rfl, hk a (by simp), hk b (by simp)⟩
  · exact ⟨.tri a b c, rfl, hk a (by simp), hk b (by simp), hk c (by simp)⟩
  · simp at h3
theorem Nod.mk {Q : Nat → Prop} {W : World} {k g : Nat} {v : Value} : ∀ {n : Nd}, Nd.Ht (k + 1) n → Q g → hp.Blk W g 69 (ncs n.nums (0, 0) v) → Row Q W v n.parts → Nod Q W n (some ⟨g, 0, none⟩)
  | .leaf _, h, _, _, _ => h.elim
  | .two a b, _, hq, hB, ⟨ps, hp, hs⟩ => by
    rcases ps with _ | ⟨pa, _ | ⟨pb, _ | ⟨pc, r⟩⟩⟩
    · exact hs.elim
    · exact hs.2.elim
    · exact ⟨g, v, pa, pb, rfl, hq, hB, hp, hs.1, hs.2.1⟩
    · exact hs.2.2.elim
  | .tri a b c, _, hq, hB, ⟨ps, hp, hs⟩ => by
    rcases ps with _ | ⟨pa, _ | ⟨pb, _ | ⟨pc, _ | ⟨pd, r⟩⟩⟩⟩
    · exact hs.elim
    · exact hs.2.elim
    · exact hs.2.2.elim
    · exact ⟨g, v, pa, pb, pc, rfl, hq, hB, hp, hs.1, hs.2.1, hs.2.2.1⟩
    · exact hs.2.2.2.elim

set_option maxRecDepth 100000 in
theorem over_raw {Q : Nat → Prop} (v : Value) (ns : List Nd) (w : World) (h : Row Q w v ns) (h2 : 2 ≤ ns.length) (h3 : ns.length ≤ 3) (L : List (Int × Int)) (hL : flat ns = L) (hbd : L.length ≤ 4611686018427387904) :
    Calls Try.prog 34 #[v] w fun e w' => (∃ g, e = .returned (.pointer (some ⟨g, 0, none⟩)) ∧ w.heap.size ≤ g ∧ hp.Blk w' g 69 (ncs L (0, 0) v)) ∧ Below w.heap.size w w' := by
  have H1 := fun W (K : Below w.heap.size w W) => sum_any v ns W (h.on K) (by omega) (by omega) L hL hbd
  have K := Below.refl w.heap.size w
  obtain ⟨a, cap, rfl, -⟩ := h.cells
  generalize ns.length = c at *
  clear h h2 h3 hL hbd
  go_enter Try.func34, Try.ntmps34
  go_wp2_with (go_at_call 46; (with_reducible refine (H1 _ K).mono ?_); clear H1; rintro e w1 ⟨rfl, hb⟩; (replace K := K.trans ((hb).mono K.size); clear hb))
  go_ret
  exact ⟨⟨_, rfl, K.size, hp.Blk.new _ _ _⟩, K.alloc K.size _⟩
theorem over_any {Q : Nat → Prop} (v : Value) (ns : List Nd) (k : Nat) (w : World) (hQ : ∀ b, w.heap.size ≤ b → Q b) (h : Row Q w v ns) (hk : Hts k ns) (h2 : 2 ≤ ns.length) (h3 : ns.length ≤ 3) (L : List (Int × Int)) (hL : flat ns = L) (hbd : L.length ≤ 4611686018427387904) :
    Calls Try.prog 34 #[v] w fun e w' => (∃ u, e = .returned u ∧ IsN Q w' u (k + 1) L) ∧ Below w.heap.size w w' := by
  refine (over_raw v ns w h h2 h3 L hL hbd).mono fun e w' ⟨⟨g, he, hg, hB⟩, hb⟩ => ⟨⟨_, he, ?_⟩, hb⟩
  obtain ⟨n, hp, hn⟩ := Nd.of hk h2 h3
  have e1 : n.nums = L := by rw [← hn.parts.2.1, hp, hL]
  exact ⟨_, n, rfl, Nod.mk hn (hQ _ hg) (by rw [e1]; exact hB) (by rw [hp]; exact h.on hb), hn, e1⟩

set_option maxRecDepth 100000 in
theorem deep_any {Q : Nat → Prop} (u v : Value) (l r : List Nd) (i : Lv) (q : Option Addr) (w : World) (hQ : ∀ b, w.heap.size ≤ b → Q b) (hl : Row Q w u l) (hr : Row Q w v r) (hi : Lev Q w i q)
    (h1 : 1 ≤ l.length) (h2 : l.length ≤ 8) (h3 : 1 ≤ r.length) (h4 : r.length ≤ 8) (hbd : (flat l ++ i.nums ++ flat r).length ≤ 4611686018427387904) :
    Calls Try.prog 43 #[u, .pointer q, v] w fun e w' => (∃ p, e = .returned (.pointer p) ∧ Lev Q w' (.deep l i r) p) ∧ Below w.heap.size w w' := by
  obtain ⟨A, hA⟩ : ∃ A, flat l = A := ⟨_, rfl⟩
  obtain ⟨B, hB⟩ : ∃ B, i.nums = B := ⟨_, rfl⟩
  obtain ⟨C, hC⟩ : ∃ C, flat r = C := ⟨_, rfl⟩
  obtain ⟨AB, hAB⟩ : ∃ AB, A ++ B = AB := ⟨_, rfl⟩
  obtain ⟨T, hT⟩ : ∃ T, AB ++ C = T := ⟨_, rfl⟩
  have hn : flat l ++ i.nums ++ flat r = T := by rw [hA, hB, hC, hAB, hT]
  rw [hn] at hbd
  have n1 : A.length + B.length = AB.length := by rw [← hAB, List.length_append]
  have n2 : AB.length + C.length = T.length := by rw [← hT, List.length_append]
  have H1 := fun W (K : Below w.heap.size w W) => sum_any u l W (hl.on K) h1 (by omega) A hA (by omega)
  have H2 := fun W (K : Below w.heap.size w W) => total_any i q W (hi.on K) B hB
  have H3 := fun W => mjoin_any A B AB W hAB (by omega)
  have H4 := fun W (K : Below w.heap.size w W) => sum_any v r W (hr.on K) h3 (by omega) C hC (by omega)
  have H5 := fun W => mjoin_any AB C T W hT (by omega)
  have hdone : ∀ (W : World) (g : Nat), Below w.heap.size w W → w.heap.size ≤ g → hp.Blk W g 74 (lcs T u v q) → Lev Q W (.deep l i r) (some ⟨g, 0, none⟩) :=
    fun W g hb hg hB => ⟨g, u, v, q, rfl, hQ _ hg, by rw [hn]; exact hB, hl.on hb, hr.on hb, hi.on hb⟩
  replace hdone := Lib.hid hdone
  have K := Below.refl w.heap.size w
  have hM := methodJoin
  obtain ⟨a, cap, rfl, -⟩ := hl.cells
  obtain ⟨a', cap', rfl, -⟩ := hr.cells
  clear hl hr hi h1 h2 h3 h4 hA hB hC hAB hT hn n1 n2 hQ hbd
  go_enter Try.func43, Try.ntmps43
  go_wp2_with (first
    | (go_at_call 46; (with_reducible refine (H1 _ K).mono ?_); clear H1; rintro e w1 ⟨rfl, hb⟩; (replace K := K.trans ((hb).mono K.size); clear hb))
    | (go_at_call 31; (with_reducible refine (H2 _ K).mono ?_); clear H2; rintro e w1 ⟨rfl, hb⟩; (replace K := K.trans ((hb).mono K.size); clear hb))
    | (go_at_call 67; (with_reducible refine (H3 _).mono ?_); clear H3; rintro e w1 ⟨rfl, hb⟩; (replace K := K.trans ((hb).mono K.size); clear hb))
    | (go_at_call 46; (with_reducible refine (H4 _ K).mono ?_); clear H4; rintro e w1 ⟨rfl, hb⟩; (replace K := K.trans ((hb).mono K.size); clear hb))
    | (go_at_call 67; (with_reducible refine (H5 _).mono ?_); clear H5; rintro e w1 ⟨rfl, hb⟩; (replace K := K.trans ((hb).mono K.size); clear hb)))
  go_ret
  have hW := (K.alloc K.size (.cells #[.int .i64 (T.length : Nat), .int .i64 (topOf T)] 50))
  exact ⟨⟨_, rfl, hdone.out _ _ (hW.alloc hW.size _) (by have := hW.size; simpa using this) (hp.Blk.newAt (by simp))⟩, hW.alloc hW.size _⟩

set_option maxRecDepth 100000 in
attribute [-go_sem] sliced in
theorem few_any {Q : Nat → Prop} (v : Value) (ns : List Nd) (k : Nat) (w : World) (hQ : ∀ b, w.heap.size ≤ b → Q b) (h : Row Q w v ns) (hk : Hts k ns) (h8 : ns.length ≤ 8) (L : List (Int × Int)) (hL : flat ns = L) (hbd : L.length ≤ 4611686018427387904) :
    Calls Try.prog 48 #[v] w fun e w' => (∃ u, e = .returned u ∧ IsL Q w' u k L) ∧ Below w.heap.size w w' := by
  by_cases h0 : ns.length = 0
  · obtain rfl := List.eq_nil_of_length_eq_zero h0
    obtain ⟨a, cap, rfl, -⟩ := h.cells
    obtain rfl : [] = L := hL
    clear h hk
    go_enter Try.func48, Try.ntmps48
    go_wp2_with fail
    go_ret
    exact ⟨⟨_, rfl, IsL.nil Q w k⟩, Below.refl _ _⟩
  by_cases h1 : ns.length = 1
  · obtain ⟨x, rfl⟩ := List.length_eq_one_iff.1 h1
    obtain ⟨a, cap, rfl, -, hcap, hc⟩ := h.cells
    obtain ⟨b, off, rfl, -, hb, hcell⟩ := hc (by simp)
    obtain ⟨p, kp, hn⟩ := hcell 0 x rfl
    have H := single_any x p w hQ hn
    rw [flat_one] at hL
    subst hL
    rw [Nat.add_zero] at kp
    have hx := hk x (by simp)
    clear hc hcell h hk hn
    go_enter Try.func48, Try.ntmps48
    go_wp2_with (go_at_call 32; (with_reducible refine H.mono ?_); clear H; rintro e w1 ⟨⟨q, rfl, hq⟩, hb1⟩)
    go_ret
    exact ⟨⟨_, rfl, _, _, rfl, hq, hx, rfl⟩, hb1⟩
  · obtain ⟨a, cap, rfl, hn, hcap, -⟩ := h.cells
    obtain ⟨n, hn⟩ : ∃ n, ns.length = n := ⟨_, rfl⟩
    obtain ⟨j, hj⟩ : ∃ j, j = n / 2 := ⟨_, rfl⟩
    have e1 : (n : Int).tdiv 2 = j := by rw [Int.tdiv_eq_ediv_of_nonneg (by omega)]; omega
    have e2 : ((n : Int) == 0) = false := beq_false_of_ne (by omega)
    have e3 : ((n : Int) == 1) = false := beq_false_of_ne (by omega)
    have g1 := h.to (j := j) (by omega)
    have g2 := h.from (i := j) (by omega)
    rw [hn] at g2 hcap h8 ⊢
    have l1 : (ns.take j).length = j := by simp; omega
    have l2 : (ns.drop j).length = n - j := by simp; omega
    have eL : flat (ns.take j) ++ Lv.nil.nums ++ flat (ns.drop j) = L := by rw [show Lv.nil.nums = [] from rfl, List.append_nil, ← flat_append, List.take_append_drop, hL]
    have hdone : ∀ W p, Lev Q W (.deep (ns.take j) .nil (ns.drop j)) p → IsL Q W (.pointer p) k L := fun W p h => ⟨p, _, rfl, h, ⟨⟨by omega, by omega, hk.take⟩, ⟨by omega, by omega, hk.drop⟩, trivial⟩, eL⟩
    have D := fun W (K : Below w.heap.size w W) => (deep_any _ _ (ns.take j) (ns.drop j) .nil none W (fun b hb => hQ b (Nat.le_trans K.size hb)) (g1.on K) (g2.on K) rfl (by omega) (by omega) (by omega) (by omega) (by rw [eL]; exact hbd)).mono fun e w' (h : (∃ p, e = .returned (.pointer p) ∧ Lev Q w' _ p) ∧ _) =>
      (⟨let ⟨p, e1, e2⟩ := h.1; ⟨_, e1, hdone _ _ e2⟩, h.2⟩ : (∃ u, e = .returned u ∧ IsL Q w' u k L) ∧ Below W.heap.size W w')
    have hjn : j ≤ n := by omega
    have hjc : j ≤ cap := by omega
    replace hj := Lib.hid hj
    clear g1 g2 l1 l2 eL hL h hk h0 h1 hn hbd hdone
    go_enter Try.func48, Try.ntmps48
    go_wp2_with fail
    apply rel.region (C := fun w' => Below w.heap.size w w') (X := fun w w' => Below w.heap.size w w') (by kernel_rfl) (by kernel_rfl) (by kernel_rfl) ((Below.refl _ _).drew)
    (apply rel.walk_val; (focus (intro wq hq hf; go_wp2; refine ⟨hq, Below.refl _ _, ?_, rfl⟩; (show rel.slot _ _ = _; simp only [rel.slot_lit, List.getD_cons_succ, List.getD_cons_zero]; (first | done | exact rfl)))); (simp only [rel.put_lit, List.set_cons_succ, List.set_cons_zero]))
    (apply rel.walk_val; (focus (intro wq hq hf; go_wp2; refine ⟨hq, Below.refl _ _, ?_, rfl⟩; (show rel.slot _ _ = _; simp only [rel.slot_lit, List.getD_cons_succ, List.getD_cons_zero]; (first | done | exact rfl)))); (simp only [rel.put_lit, List.set_cons_succ, List.set_cons_zero]))
    (apply rel.walk_val; (focus (intro wq hq hf; go_wp2; refine ⟨hq, Below.refl _ _, ?_, rfl⟩; (show rel.slot _ _ = _; simp only [rel.slot_lit, List.getD_cons_succ, List.getD_cons_zero]; (first | done | exact rfl)))); (simp only [rel.put_lit, List.set_cons_succ, List.set_cons_zero]))
    (apply rel.walk_val; (focus (intro wq hq hf; go_wp2; refine ⟨hq, Below.refl _ _, ?_, rfl⟩; (show rel.slot _ _ = _; simp only [rel.slot_lit, List.getD_cons_succ, List.getD_cons_zero]; (first | done | exact rfl)))); (simp only [rel.put_lit, List.set_cons_succ, List.set_cons_zero]))
    (apply rel.walk_val; (focus (intro wq hq hf; go_wp2; refine ⟨hq, Below.refl _ _, ?_, rfl⟩; (show rel.slot _ _ = _; simp only [rel.slot_lit, List.getD_cons_succ, List.getD_cons_zero]; (first | done | exact rfl)))); (simp only [rel.put_lit, List.set_cons_succ, List.set_cons_zero]))
    (apply rel.walk_val; (focus (intro wq hq hf; go_wp2; refine ⟨hq, Below.refl _ _, ?_, rfl⟩; (show rel.slot _ _ = _; simp only [rel.slot_lit, List.getD_cons_succ, List.getD_cons_zero]; (first | done | exact rfl)))); (simp only [rel.put_lit, List.set_cons_succ, List.set_cons_zero]))
    (apply rel.walk_rel (fun u w' => pri.IsL Q w' u (k) (L)) ⟨_, rfl⟩ (fun u w1 w2 h1 h2 => h2.on h1); (focus (intro wq hq hf; go_wp2_with (go_at_call 43; with_reducible refine (D _ hq).mono ?_; rintro e w'' ⟨⟨u, rfl, hu⟩, hb⟩); refine ⟨hq.trans (hb.mono hq.size), hb, ?_, rfl⟩; (show pri.IsL _ _ (rel.slot _ _) _ _; simp only [rel.slot_lit, List.getD_cons_succ, List.getD_cons_zero]; exact hu))); (intro u wu _ hu; obtain ⟨pu, t_pu, rfl, -⟩ := hu; (simp only [rel.put_lit, List.set_cons_succ, List.set_cons_zero])))
    (apply rel.walk_rel (fun u w' => pri.IsL Q w' u (k) (L)) ⟨_, rfl⟩ (fun u w1 w2 h1 h2 => h2.on h1); (focus (intro wq hq hf; have h0 := hf.get 0 rfl rfl; go_wp2; refine ⟨hq, Below.refl _ _, ?_, rfl⟩; (show pri.IsL _ _ (rel.slot _ _) _ _; simp only [rel.slot_lit, List.getD_cons_succ, List.getD_cons_zero]; exact h0))); (intro u wu _ hu; obtain ⟨pz, t_pz, rfl, -⟩ := hu; (simp only [rel.put_lit, List.set_cons_succ, List.set_cons_zero])))
    (refine rel.walk_nil ?_; intro w9 K9 hF; have hu9 := hF _ (List.mem_cons_self ..); clear hF)
    go_wp2
    go_ret
    exact ⟨⟨_, rfl, hu9⟩, K9⟩
end Go.Proofs.Ytfbeiimmcemniaa.pri
