/- The walk of TopLists. -/
import Derived.Test.YtkenocamlaaajaaSeqWalks
import Derived.Test.YtkenocamlaaajaaLstOf
import Derived.Test.YtkenocamlaaajaaLstInts
import Derived.Test.YtkenocamlaaajaaRalOf
import Derived.Test.YtkenocamlaaajaaRalAt
import Derived.Test.YtkenocamlaaajaaRalInts
import Derived.Test.YtkenocamlaaajaaQueIntsT
import Derived.Lib.MinMax
namespace Go.Proofs.Ytkenocamlaaajaa.topLists
open Go Go.RowKit Go.Proofs.Ytkenocamlaaajaa.fin Go.Proofs.Ytkenocamlaaajaa.mono
set_option linter.unusedVariables false

/-- a variable of type Queue in block g, which reads as these numbers -/
def QAt (w : World) (g : Nat) (l : List Int) : Prop := ∃ p n q m, hp.Blk w g 63 [.pointer p, .int .i64 n, .pointer q, .int .i64 m] ∧ que.IsQ w w.heap.size (que.qv p n q m) l
theorem QAt.on {w w' : World} {g : Nat} {l : List Int} (h : QAt w g l) (hb : Below w.heap.size w w') : QAt w' g l := by
  obtain ⟨p, n, q, m, hB, hQ⟩ := h
  exact ⟨p, n, q, m, hB.on hb, hQ.on hb⟩

/-- the three others -/
def St (ga gb gc : Nat) (pa pb pc : Option Addr) (n : Int) (l : List Int) (W : World) : Prop :=
  hp.Blk W ga 56 [.pointer pa, .int .i64 n] ∧ lst.IsList W W.heap.size (lst.lv pa n) l ∧ hp.Blk W gb 60 [.pointer pb] ∧ ral.IsRal W W.heap.size (ral.rv pb) l ∧ hp.Blk W gc 30 [.pointer pc] ∧ IsT W (.agg #[.pointer pc]) l
section
variable {ga gb gc : Nat} {pa pb pc : Option Addr} {n : Int} {l : List Int} {W W' : World}
theorem St.on (h : St ga gb gc pa pb pc n l W) (hb : Below W.heap.size W W') : St ga gb gc pa pb pc n l W' :=
  let ⟨h1, h2, h3, h4, h5, h6⟩ := h; ⟨h1.on hb, h2.on hb, h3.on hb, h4.on hb, h5.on hb, h6.on hb⟩
theorem St.ba (h : St ga gb gc pa pb pc n l W) : hp.Blk W ga 56 [.pointer pa, .int .i64 n] := h.1
theorem St.la (h : St ga gb gc pa pb pc n l W) : lst.IsList W W.heap.size (lst.lv pa n) l := h.2.1
theorem St.bb (h : St ga gb gc pa pb pc n l W) : hp.Blk W gb 60 [.pointer pb] := h.2.2.1
theorem St.rb (h : St ga gb gc pa pb pc n l W) : ral.IsRal W W.heap.size (ral.rv pb) l := h.2.2.2.1
theorem St.tc (h : St ga gb gc pa pb pc n l W) : IsT W (.agg #[.pointer pc]) l := h.2.2.2.2.2
theorem St.setq (h : St ga gb gc pa pb pc n l W) {g o : Nat} {cs : List Value} (hg : hp.Blk W g 63 cs) (v : Value) : St ga gb gc pa pb pc n l (W.setCell ⟨g, o, none⟩ v) := by
  obtain ⟨h1, h2, h3, h4, h5, h6⟩ := h
  refine ⟨h1.other (blk_ne h1 hg (by decide)) _, (h2.set hg v).mono (by simp), h3.other (blk_ne h3 hg (by decide)) _, (h4.keep (ral.Keep.of_set hg (by decide) (by decide) v)).mono (by simp), h5.other (blk_ne h5 hg (by decide)) _, h6.keep (Keep.of_set hg (by decide) (by decide) (by decide) v)⟩
theorem St.setq4 (h : St ga gb gc pa pb pc n l W) {g : Nat} {a b c d : Value} (hg : hp.Blk W g 63 [a, b, c, d]) (u0 u1 u2 u3 : Value) :
    St ga gb gc pa pb pc n l ((((W.setCell ⟨g, 0, none⟩ u0).setCell ⟨g, 1, none⟩ u1).setCell ⟨g, 2, none⟩ u2).setCell ⟨g, 3, none⟩ u3) :=
  (((h.setq hg u0).setq (hg.set 0 u0) u1).setq ((hg.set 0 u0).set 1 u1) u2).setq (((hg.set 0 u0).set 1 u1).set 2 u2) u3
theorem St.cells (h : St ga gb gc pa pb pc n l W) : (W.cell? ⟨ga, 0, none⟩ = some (.pointer pa) ∧ W.cell? ⟨ga, 1, none⟩ = some (.int .i64 n)) ∧ W.cell? ⟨gb, 0, none⟩ = some (.pointer pb) ∧ W.cell? ⟨gc, 0, none⟩ = some (.pointer pc) ∧ ga < W.heap.size ∧ gb < W.heap.size ∧ gc < W.heap.size :=
  let ⟨h1, _, h3, _, h5, _⟩ := h; ⟨h1.cells2, h3.one, h5.one, h1.lt, h3.lt, h5.lt⟩
end

set_option maxRecDepth 100000 in
set_option maxHeartbeats 16000000 in
theorem walk_of (v0 : Value) (l0 XL : List Int) (x i y : Int) (c : Bool) (w : World) (i0 : hp.IsInts w w.heap.size v0 l0) (hxw : (Lit.int .i64 x).wf = true) (bd0 : l0.length ≤ 17592186043904) (hXL : x :: l0 = XL)
    (A1 : ∀ W u, lst.IsList W W.heap.size u l0 → Calls Try.prog 35 #[u, .int .i64 i] W fun e w' => e = .returned (.tuple #[.int .i64 y, .bool c]) ∧ Below W.heap.size W w')
    (A2 : ∀ W u, ral.IsRal W W.heap.size u l0 → Calls Try.prog 36 #[u, .int .i64 i] W fun e w' => e = .returned (.tuple #[.int .i64 y, .bool c]) ∧ Below W.heap.size W w')
    (A3 : ∀ W u, IsT W u l0 → Calls Try.prog 11 #[u, .int .i64 i] W fun e w' => e = .returned (.tuple #[.int .i64 y, .bool c]) ∧ Below W.heap.size W w') :
    Calls Try.prog 8 #[v0, .int .i64 x, .int .i64 i] w fun e w' => e = .returned (.bool true) ∧ Below w.heap.size w w' := by
  have hwf0 := i0.wf
  have hXn : XL.length = l0.length + 1 := by rw [← hXL]; rfl
  have O1 := fun W (K : Below w.heap.size w W) => lst.of_any v0 l0 W (i0.on K) (by omega)
  have O2 := fun W (K : Below w.heap.size w W) => ral.of_any v0 l0 W (i0.on K) (by omega)
  have O3 := fun W (K : Below w.heap.size w W) => sOf v0 l0 W (i0.on K) (by omega)
  have S0 := fun W v (K : Below w.heap.size w W) (h : hp.IsInts W W.heap.size v l0) => same.ints_eq rfl h (i0.on K)
  have P1 := fun W u (h : lst.IsList W W.heap.size u l0) => lst.push_any u l0 x W h hxw (by omega)
  have P2 := fun W u (h : ral.IsRal W W.heap.size u l0) => ral.push_any u l0 x W h hxw (by omega)
  have P3 : ∀ W u, IsT W u l0 → Calls Try.prog 19 #[u, .int .i64 0, .int .i64 x] W fun e w' => (∃ q, e = .returned (.tuple #[.agg #[.pointer q], .bool true]) ∧ IsT w' (.agg #[.pointer q]) XL) ∧ Below W.heap.size W w' := fun W u h => ins_yes (k := 0) (X := []) (Y := l0) h rfl rfl hXL hxw (by omega)
  rw [hXL] at P1 P2
  have I1 := fun W u (h : lst.IsList W W.heap.size u XL) => lst.ints_any u XL W h (by omega)
  have I2 := fun W u (h : ral.IsRal W W.heap.size u XL) => ral.ints_any u XL W h (by omega)
  have I3 := fun W u (h : IsT W u XL) => sInts h (by omega)
  have L3 := fun W u (h : IsT W u XL) => sLen h
  have I4 := fun W u (h : que.IsQ W W.heap.size u l0) => que.ints_any h (by omega)
  rw [hXn] at L3
  simp only [Int.natCast_add, Int.natCast_one] at L3
  have i0' := i0
  obtain ⟨az, cz, rfl, -, -, -, hcz⟩ := i0'
  have K := Below.refl w.heap.size w
  clear hXL hXn i0
  go_enter Try.func8, Try.ntmps8
  go_wp2_with (first
    | (go_at_call 27; (with_reducible refine (O1 _ K).mono ?_); clear O1; rintro e w1 ⟨⟨u, rfl, ha⟩, hb⟩; have ha' := ha; (obtain ⟨pa, rfl, -, -⟩ := ha'); replace K := (K.trans (hb.mono K.size)).alloc (K.trans (hb.mono K.size)).size (.cells #[.pointer pa, .int .i64 l0.length] 56); replace ha := ha.on ((Below.refl _ _).alloc (Nat.le_refl _) (.cells #[.pointer pa, .int .i64 l0.length] 56)); have Ba := hp.Blk.new w1 [.pointer pa, .int .i64 l0.length] 56)
    | (go_at_call 28; (with_reducible refine (O2 _ K).mono ?_); clear O2; rintro e w2 ⟨⟨pb, rfl, hr⟩, hb⟩; replace hb := hb.alloc hb.size (.cells #[.pointer pb] 60); replace K := K.trans (hb.mono K.size); replace ha := ha.on hb; replace Ba := Ba.on hb; replace hr := hr.on ((Below.refl _ _).alloc (Nat.le_refl _) (.cells #[.pointer pb] 60)); have Bb := hp.Blk.new w2 [.pointer pb] 60)
    | (go_at_call 10; (with_reducible refine (O3 _ K).mono ?_); clear O3; rintro e w3 ⟨⟨u, rfl, hs⟩, hb⟩; (obtain ⟨pc, rfl⟩ := hs.val); replace hb := hb.alloc hb.size (.cells #[.pointer pc] 30); replace K := K.trans (hb.mono K.size); replace ha := ha.on hb; replace Ba := Ba.on hb; replace hr := hr.on hb; replace Bb := Bb.on hb; replace hs := hs.on ((Below.refl _ _).alloc (Nat.le_refl _) (.cells #[.pointer pc] 30)); have Bc := hp.Blk.new w3 [.pointer pc] 30))
  have hQ0 := hp.Blk.new (w3.alloc (.cells #[.pointer pc] 30)) [.pointer none, .int .i64 0, .pointer none, .int .i64 0] 63
  have hz := (Below.refl _ (w3.alloc (.cells #[.pointer pc] 30))).alloc (Nat.le_refl _) (.cells #[.pointer none, .int .i64 0, .pointer none, .int .i64 0] 63)
  have hS : St w1.heap.size w2.heap.size w3.heap.size pa pb pc (l0.length : Nat) l0 ((w3.alloc (.cells #[.pointer pc] 30)).alloc (.cells #[.pointer none, .int .i64 0, .pointer none, .int .i64 0] 63)) := ⟨Ba.on hz, ha.on hz, Bb.on hz, hr.on hz, Bc.on hz, hs.on hz⟩
  have hQA : QAt ((w3.alloc (.cells #[.pointer pc] 30)).alloc (.cells #[.pointer none, .int .i64 0, .pointer none, .int .i64 0] 63)) (w3.alloc (.cells #[.pointer pc] 30)).heap.size [] := ⟨none, 0, none, 0, hQ0, que.IsQ.nil _ _⟩
  have hgq : w.heap.size ≤ (w3.alloc (.cells #[.pointer pc] 30)).heap.size := K.size
  replace K := K.trans (hz.mono K.size)
  clear hQ0 hz Ba ha Bb hr Bc hs
  generalize hga : w1.heap.size = ga at *
  generalize hgb : w2.heap.size = gb at *
  generalize hgc : w3.heap.size = gc at *
  have hgs : (w3.alloc (.cells #[.pointer pc] 30)).heap.size = gc + 1 := by simp [hgc]
  rw [hgs] at hQA hgq
  clear hga hgb hgc hgs
  go_loopw [11] (fun kv wr => ∃ k : Nat, kv = .int .i64 k ∧ k ≤ l0.length ∧ Below w.heap.size w wr ∧ St ga gb gc pa pb pc (l0.length : Nat) l0 wr ∧ QAt wr (gc + 1) (l0.take k)) (fun i _ => l0.length - (intOf i).toNat)
  case atStart => exact ⟨0, rfl, Nat.zero_le _, K, hS, hQA⟩
  case round =>
    clear K hS hQA
    obtain ⟨k, rfl, hk, hb, S, hg⟩ := hrel
    by_cases hlt : k < l0.length
    · (obtain ⟨b0, o0, rfl, hb0, hd0⟩ := hcz (by omega)); have hx : wr.cell? ⟨b0, o0 + k, none⟩ = some (.int .i64 (l0.getD k 0)) := (hb.cell (p := ⟨b0, o0 + k, none⟩) hb0).trans (hd0 k hlt); have hbw : b0 < wr.heap.size := (by have := hb.size; omega); have s0 := Lib.hid (same.take_snoc l0 k hlt); have hwx : (Lit.int .i64 (l0.getD k 0)).wf = true := hwf0 _ (by simp [hlt]); (obtain ⟨x, hx0⟩ : ∃ x, x = l0.getD k 0 := ⟨_, rfl⟩); rw [← hx0] at hx s0 hwx; (obtain ⟨t, ht⟩ : ∃ t, t = l0.take k := ⟨_, rfl⟩); have htl : t.length < 35184372088832 := (by rw [ht, List.length_take]; omega); (obtain ⟨t', ht'⟩ : ∃ t', t' = l0.take (k + 1) := ⟨_, rfl⟩); rw [← ht, ← ht'] at s0; rw [← ht] at hg; replace ht' := Lib.hid ht'; clear hx0 ht hd0
      obtain ⟨p, nn, q, m, hQB, hQ⟩ := hg
      go_wp2_with fail
      apply rel.region_tail (C := fun w' => Below wr.heap.size wr w') (X := fun w w' => Below w.heap.size w w') 6 (by kernel_rfl) (by kernel_rfl) (by kernel_rfl) (by kernel_rfl) ((Below.refl _ _).drew)
      ((apply rel.walk_val; (focus (intro wq hq hf; (obtain ⟨d0, d1, d2, d3⟩ := ((hQB).below hq (hQB).lt).cells4); go_wp2; refine ⟨hq, Below.refl _ _, ?_, rfl⟩; (show rel.slot _ _ = _; simp only [rel.slot_lit, List.getD_cons_succ, List.getD_cons_zero]; (first | done | exact rfl)))); (simp only [rel.put_lit, List.set_cons_succ, List.set_cons_zero])))
      (apply rel.walk_val; (focus (intro wq hq hf; go_wp2; refine ⟨hq, Below.refl _ _, ?_, rfl⟩; (show rel.slot _ _ = _; simp only [rel.slot_lit, List.getD_cons_succ, List.getD_cons_zero]; (first | done | exact rfl)))); (simp only [rel.put_lit, List.set_cons_succ, List.set_cons_zero]))
      (apply rel.walk_val; (focus (intro wq hq hf; go_wp2; refine ⟨hq, Below.refl _ _, ?_, rfl⟩; (show rel.slot _ _ = _; simp only [rel.slot_lit, List.getD_cons_succ, List.getD_cons_zero]; (first | done | exact rfl)))); (simp only [rel.put_lit, List.set_cons_succ, List.set_cons_zero]))
      (apply rel.walk_val; (focus (intro wq hq hf; go_wp2; refine ⟨hq, Below.refl _ _, ?_, rfl⟩; (show rel.slot _ _ = _; simp only [rel.slot_lit, List.getD_cons_succ, List.getD_cons_zero]; (first | done | exact rfl)))); (simp only [rel.put_lit, List.set_cons_succ, List.set_cons_zero]))
      (apply rel.walk_val; (focus (intro wq hq hf; (have d0 := (hq.cell (p := ⟨b0, o0 + k, none⟩) hbw).trans hx); go_wp2; refine ⟨hq, Below.refl _ _, ?_, rfl⟩; (show rel.slot _ _ = _; simp only [rel.slot_lit, List.getD_cons_succ, List.getD_cons_zero]; (first | done | exact rfl)))); (simp only [rel.put_lit, List.set_cons_succ, List.set_cons_zero]))
      (apply rel.walk_rel (fun u w' => que.IsQ w' w'.heap.size u (t')) ⟨_, rfl⟩ (fun u w1 w2 h1 h2 => h2.on h1); (focus (intro wq hq hf; go_wp2_with (go_at_call 29; refine (que.push_to s0.out.symm (hQ.on hq) hwx htl).mono ?_; rintro e w'' ⟨⟨u, rfl, hu⟩, hb⟩); refine ⟨hq.trans (hb.mono hq.size), hb, ?_, rfl⟩; (show que.IsQ _ _ (rel.slot _ _) _; simp only [rel.slot_lit, List.getD_cons_succ, List.getD_cons_zero]; exact hu))); (intro u wu _ hu; obtain ⟨pu, qu, Fu, Ku, rfl, -, -, -, -⟩ := hu; (simp only [rel.put_lit, List.set_cons_succ, List.set_cons_zero])))
      refine rel.walk_nil ?_
      intro w9 K9 hF
      have hu : que.IsQ w9 w9.heap.size _ t' := hF _ (List.mem_cons_self ..)
      have hR9 := hQB.on K9
      have hg0 : gc + 1 < w9.heap.size := hR9.lt
      obtain ⟨c0, c1, c2, c3⟩ := hR9.cells4
      have cf := hR9.free
      simp only [List.drop_succ_cons, List.drop_zero]
      clear hF
      go_wp2_with fail
      go_roundw
      case rel =>
        refine ⟨k + 1, by go_num, by omega, ?_, (S.on K9).setq4 hR9 _ _ _ _, ?_⟩
        · exact ((((hb.trans (K9.mono hb.size)).setCell (by simpa using hgq) _).setCell (by simpa using hgq) _).setCell (by simpa using hgq) _).setCell (by simpa using hgq) _
        · rw [← ht'.out]
          exact ⟨_, _, _, _, hR9.set4 _ _ _ _, (que.IsQ.set4 hu hR9 _ _ _ _).mono (by simp)⟩
      case measure => simp [intOf]; omega
    · obtain rfl : k = l0.length := by omega
      rw [List.take_length] at hg
      obtain ⟨p, nn, q, m, hQB, hQ⟩ := hg
      clear hk hlt hwf0 hcz
      have K := hb
      clear hb
      obtain ⟨⟨sa0, sa1⟩, sb0, sc0, sla, slb, slc⟩ := S.cells
      go_wp2_with (go_at_call 19; (with_reducible refine (P3 _ _ S.tc).mono ?_); clear P3; rintro e w5 ⟨⟨pd, rfl, hd⟩, hb⟩; replace hb := hb.alloc hb.size (.cells #[.pointer pd] 30); replace K := K.trans (hb.mono K.size); replace S := S.on hb; replace hQB := hQB.on hb; replace hQ := hQ.on hb; replace hd := hd.on ((Below.refl _ _).alloc (Nat.le_refl _) (.cells #[.pointer pd] 30)); have Bd := hp.Blk.new w5 [.pointer pd] 30)
      generalize w5.heap.size = gd at *
      generalize w5.alloc (.cells #[.pointer pd] 30) = W at *
      clear hb sa0 sa1 sb0 sc0 sla slb slc
      apply rel.region (C := fun w' => Below W.heap.size W w') (X := fun w w' => Below w.heap.size w w') (by kernel_rfl) (by kernel_rfl) (by kernel_rfl) ((Below.refl _ _).drew)
      ((apply rel.walk_val; (focus (intro wq hq hf; (obtain ⟨d0, d1⟩ := ((S.ba).below hq (S.ba).lt).cells2); go_wp2; refine ⟨hq, Below.refl _ _, ?_, rfl⟩; (show rel.slot _ _ = _; simp only [rel.slot_lit, List.getD_cons_succ, List.getD_cons_zero]; (first | done | exact rfl)))); (simp only [rel.put_lit, List.set_cons_succ, List.set_cons_zero])))
      (apply rel.walk_val; (focus (intro wq hq hf; go_wp2; refine ⟨hq, Below.refl _ _, ?_, rfl⟩; (show rel.slot _ _ = _; simp only [rel.slot_lit, List.getD_cons_succ, List.getD_cons_zero]; (first | done | exact rfl)))); (simp only [rel.put_lit, List.set_cons_succ, List.set_cons_zero]))
      (apply rel.walk_rel (fun u w' => lst.IsList w' w'.heap.size u (XL)) ⟨_, rfl⟩ (fun u w1 w2 h1 h2 => h2.on h1); (focus (intro wq hq hf; go_wp2_with (go_at_call 30; refine (P1 _ _ (S.la.on hq)).mono ?_; rintro e w'' ⟨⟨u, rfl, hu⟩, hb⟩); refine ⟨hq.trans (hb.mono hq.size), hb, ?_, rfl⟩; (show lst.IsList _ _ (rel.slot _ _) _; simp only [rel.slot_lit, List.getD_cons_succ, List.getD_cons_zero]; exact hu))); (intro u wu _ hu; obtain ⟨pu, rfl, -, -⟩ := hu; (simp only [rel.put_lit, List.set_cons_succ, List.set_cons_zero])))
      (apply rel.walk_rel (fun u w' => hp.IsInts w' w'.heap.size u (XL)) ⟨_, rfl⟩ (fun u w1 w2 h1 h2 => h2.on h1); (focus (intro wq hq hf; go_wp2_with (go_at_call 31; refine (I1 _ _ (hf.get 0 rfl rfl)).mono ?_; rintro e w'' ⟨⟨u, rfl, hu⟩, hb⟩); refine ⟨hq.trans (hb.mono hq.size), hb, ?_, rfl⟩; (show hp.IsInts _ _ (rel.slot _ _) _; simp only [rel.slot_lit, List.getD_cons_succ, List.getD_cons_zero]; exact hu))); (intro u wu _ hu; obtain ⟨pu, cu, rfl, -⟩ := hu; (simp only [rel.put_lit, List.set_cons_succ, List.set_cons_zero])))
      ((apply rel.walk_val; (focus (intro wq hq hf; (have d0 := (((S.bb).below hq (S.bb).lt)).cell 0; simp only [List.getElem?_cons_zero] at d0); go_wp2; refine ⟨hq, Below.refl _ _, ?_, rfl⟩; (show rel.slot _ _ = _; simp only [rel.slot_lit, List.getD_cons_succ, List.getD_cons_zero]; (first | done | exact rfl)))); (simp only [rel.put_lit, List.set_cons_succ, List.set_cons_zero])))
      (apply rel.walk_val; (focus (intro wq hq hf; go_wp2; refine ⟨hq, Below.refl _ _, ?_, rfl⟩; (show rel.slot _ _ = _; simp only [rel.slot_lit, List.getD_cons_succ, List.getD_cons_zero]; (first | done | exact rfl)))); (simp only [rel.put_lit, List.set_cons_succ, List.set_cons_zero]))
      (apply rel.walk_rel (fun u w' => ral.IsRal w' w'.heap.size u (XL)) ⟨_, rfl⟩ (fun u w1 w2 h1 h2 => h2.on h1); (focus (intro wq hq hf; go_wp2_with (go_at_call 32; refine (P2 _ _ (S.rb.on hq)).mono ?_; rintro e w'' ⟨⟨u, rfl, hu⟩, hb⟩); refine ⟨hq.trans (hb.mono hq.size), hb, ?_, rfl⟩; (show ral.IsRal _ _ (rel.slot _ _) _; simp only [rel.slot_lit, List.getD_cons_succ, List.getD_cons_zero]; exact hu))); (intro u wu _ hu; obtain ⟨pr, tu, rfl, -⟩ := hu; (simp only [rel.put_lit, List.set_cons_succ, List.set_cons_zero])))
      (apply rel.walk_rel (fun u w' => hp.IsInts w' w'.heap.size u (XL)) ⟨_, rfl⟩ (fun u w1 w2 h1 h2 => h2.on h1); (focus (intro wq hq hf; go_wp2_with (go_at_call 33; refine (I2 _ _ (hf.get 0 rfl rfl)).mono ?_; rintro e w'' ⟨⟨u, rfl, hu⟩, hb⟩); refine ⟨hq.trans (hb.mono hq.size), hb, ?_, rfl⟩; (show hp.IsInts _ _ (rel.slot _ _) _; simp only [rel.slot_lit, List.getD_cons_succ, List.getD_cons_zero]; exact hu))); (intro u wu _ hu; obtain ⟨pu_1, cu_1, rfl, -⟩ := hu; (simp only [rel.put_lit, List.set_cons_succ, List.set_cons_zero])))
      (apply rel.walk_val; (focus (intro wq hq hf; go_wp2_with (go_at_call 16; refine (same.ints_eq rfl (hf.get 2 rfl rfl) (hf.get 0 rfl rfl)).mono ?_; rintro e w'' ⟨rfl, hb⟩); refine ⟨hq.trans (hb.mono hq.size), hb, ?_, rfl⟩; (show rel.slot _ _ = _; simp only [rel.slot_lit, List.getD_cons_succ, List.getD_cons_zero]; (first | done | exact rfl)))); (simp only [rel.put_lit, List.set_cons_succ, List.set_cons_zero]))
      (apply rel.walk_val; (focus (intro wq hq hf; go_wp2; refine ⟨hq, Below.refl _ _, ?_, rfl⟩; (show rel.slot _ _ = _; simp only [rel.slot_lit, List.getD_cons_succ, List.getD_cons_zero]; (first | done | exact rfl)))); (simp only [rel.put_lit, List.set_cons_succ, List.set_cons_zero]))
      refine rel.walk_nil ?_
      intro w9 K9 hF
      clear hF
      replace K := K.trans (K9.mono K.size); replace S := S.on K9; replace hQB := hQB.on K9; replace hQ := hQ.on K9; replace hd := hd.on K9; replace Bd := Bd.on K9
      clear K9
      go_wp2_with fail
      apply rel.region (C := fun w' => Below w9.heap.size w9 w') (X := fun w w' => Below w.heap.size w w') (by kernel_rfl) (by kernel_rfl) (by kernel_rfl) ((Below.refl _ _).drew)
      ((apply rel.walk_val; (focus (intro wq hq hf; (have d0 := (((S.bb).below hq (S.bb).lt)).cell 0; simp only [List.getElem?_cons_zero] at d0); go_wp2; refine ⟨hq, Below.refl _ _, ?_, rfl⟩; (show rel.slot _ _ = _; simp only [rel.slot_lit, List.getD_cons_succ, List.getD_cons_zero]; (first | done | exact rfl)))); (simp only [rel.put_lit, List.set_cons_succ, List.set_cons_zero])))
      (apply rel.walk_val; (focus (intro wq hq hf; go_wp2; refine ⟨hq, Below.refl _ _, ?_, rfl⟩; (show rel.slot _ _ = _; simp only [rel.slot_lit, List.getD_cons_succ, List.getD_cons_zero]; (first | done | exact rfl)))); (simp only [rel.put_lit, List.set_cons_succ, List.set_cons_zero]))
      (apply rel.walk_rel (fun u w' => ral.IsRal w' w'.heap.size u (XL)) ⟨_, rfl⟩ (fun u w1 w2 h1 h2 => h2.on h1); (focus (intro wq hq hf; go_wp2_with (go_at_call 32; refine (P2 _ _ (S.rb.on hq)).mono ?_; rintro e w'' ⟨⟨u, rfl, hu⟩, hb⟩); refine ⟨hq.trans (hb.mono hq.size), hb, ?_, rfl⟩; (show ral.IsRal _ _ (rel.slot _ _) _; simp only [rel.slot_lit, List.getD_cons_succ, List.getD_cons_zero]; exact hu))); (intro u wu _ hu; obtain ⟨pr2, tu, rfl, -⟩ := hu; (simp only [rel.put_lit, List.set_cons_succ, List.set_cons_zero])))
      (apply rel.walk_rel (fun u w' => hp.IsInts w' w'.heap.size u (XL)) ⟨_, rfl⟩ (fun u w1 w2 h1 h2 => h2.on h1); (focus (intro wq hq hf; go_wp2_with (go_at_call 33; refine (I2 _ _ (hf.get 0 rfl rfl)).mono ?_; rintro e w'' ⟨⟨u, rfl, hu⟩, hb⟩); refine ⟨hq.trans (hb.mono hq.size), hb, ?_, rfl⟩; (show hp.IsInts _ _ (rel.slot _ _) _; simp only [rel.slot_lit, List.getD_cons_succ, List.getD_cons_zero]; exact hu))); (intro u wu _ hu; obtain ⟨pu, cu, rfl, -⟩ := hu; (simp only [rel.put_lit, List.set_cons_succ, List.set_cons_zero])))
      ((apply rel.walk_val; (focus (intro wq hq hf; (have d0 := (((Bd).below hq (Bd).lt)).cell 0; simp only [List.getElem?_cons_zero] at d0); go_wp2; refine ⟨hq, Below.refl _ _, ?_, rfl⟩; (show rel.slot _ _ = _; simp only [rel.slot_lit, List.getD_cons_succ, List.getD_cons_zero]; (first | done | exact rfl)))); (simp only [rel.put_lit, List.set_cons_succ, List.set_cons_zero])))
      (apply rel.walk_rel (fun u w' => hp.IsInts w' w'.heap.size u (XL)) ⟨_, rfl⟩ (fun u w1 w2 h1 h2 => h2.on h1); (focus (intro wq hq hf; go_wp2_with (go_at_call 17; refine (I3 _ _ (hd.on hq)).mono ?_; rintro e w'' ⟨⟨u, rfl, hu⟩, hb⟩); refine ⟨hq.trans (hb.mono hq.size), hb, ?_, rfl⟩; (show hp.IsInts _ _ (rel.slot _ _) _; simp only [rel.slot_lit, List.getD_cons_succ, List.getD_cons_zero]; exact hu))); (intro u wu _ hu; obtain ⟨pu_1, cu_1, rfl, -⟩ := hu; (simp only [rel.put_lit, List.set_cons_succ, List.set_cons_zero])))
      (apply rel.walk_val; (focus (intro wq hq hf; go_wp2_with (go_at_call 16; refine (same.ints_eq rfl (hf.get 1 rfl rfl) (hf.get 0 rfl rfl)).mono ?_; rintro e w'' ⟨rfl, hb⟩); refine ⟨hq.trans (hb.mono hq.size), hb, ?_, rfl⟩; (show rel.slot _ _ = _; simp only [rel.slot_lit, List.getD_cons_succ, List.getD_cons_zero]; (first | done | exact rfl)))); (simp only [rel.put_lit, List.set_cons_succ, List.set_cons_zero]))
      (apply rel.walk_val; (focus (intro wq hq hf; go_wp2; refine ⟨hq, Below.refl _ _, ?_, rfl⟩; (show rel.slot _ _ = _; simp only [rel.slot_lit, List.getD_cons_succ, List.getD_cons_zero]; (first | done | exact rfl)))); (simp only [rel.put_lit, List.set_cons_succ, List.set_cons_zero]))
      refine rel.walk_nil ?_
      intro w10 K9 hF
      clear hF
      replace K := K.trans (K9.mono K.size); replace S := S.on K9; replace hQB := hQB.on K9; replace hQ := hQ.on K9; replace hd := hd.on K9; replace Bd := Bd.on K9
      clear K9
      obtain ⟨c0, c1, c2, c3⟩ := hQB.cells4
      have lq := hQB.lt
      go_wp2_with (first
        | (go_at_call 34; (with_reducible refine (I4 _ _ hQ).mono ?_); clear I4 c0 c1 c2 c3; rintro e w11 ⟨⟨u, rfl, hi⟩, hb⟩; replace K := K.trans (hb.mono K.size); replace S := S.on hb; replace hd := hd.on hb; replace Bd := Bd.on hb; clear hb)
        | (go_at_call 16; (with_reducible refine (S0 _ _ K hi).mono ?_); clear hi; rintro e w12 ⟨rfl, hb⟩; replace K := K.trans (hb.mono K.size); replace S := S.on hb; replace hd := hd.on hb; replace Bd := Bd.on hb; clear hb; obtain ⟨⟨sa0, sa1⟩, sb0, sc0, sla, slb, slc⟩ := S.cells)
        | (go_at_call 35; (with_reducible refine (A1 _ _ S.la).mono ?_); clear A1; rintro e w13 ⟨rfl, hb⟩; replace K := K.trans (hb.mono K.size); replace S := S.on hb; replace hd := hd.on hb; replace Bd := Bd.on hb; clear hb; obtain ⟨⟨sa0, sa1⟩, sb0, sc0, sla, slb, slc⟩ := S.cells)
        | (go_at_call 36; (with_reducible refine (A2 _ _ S.rb).mono ?_); clear A2; rintro e w14 ⟨rfl, hb⟩; replace K := K.trans (hb.mono K.size); replace S := S.on hb; replace hd := hd.on hb; replace Bd := Bd.on hb; clear hb; obtain ⟨⟨sa0, sa1⟩, sb0, sc0, sla, slb, slc⟩ := S.cells)
        | (go_at_call 11; (with_reducible refine (A3 _ _ S.tc).mono ?_); clear A3; rintro e w15 ⟨rfl, hb⟩; replace K := K.trans (hb.mono K.size); replace S := S.on hb; replace hd := hd.on hb; replace Bd := Bd.on hb; clear hb; have sd0 := Bd.one; have sld := Bd.lt)
        | (go_at_call 23; (with_reducible refine (L3 _ _ hd).mono ?_); clear L3; rintro e w16 ⟨rfl, hb⟩; replace K := K.trans (hb.mono K.size); clear hb))
      go_ret
      exact ⟨rfl, K⟩

theorem walk (v0 : Value) (l0 : List Int) (x i : Int) (w : World) (i0 : hp.IsInts w w.heap.size v0 l0) (w1 : (Lit.int .i64 x).wf = true) (w2 : (Lit.int .i64 i).wf = true) (bd : l0.length ≤ 17592186043904) :
    Calls Try.prog 8 #[v0, .int .i64 x, .int .i64 i] w fun e w' => e = .returned (.bool true) ∧ Below w.heap.size w w' := by
  by_cases hi : 0 ≤ i ∧ i < l0.length
  · obtain ⟨k, rfl⟩ := Int.eq_ofNat_of_zero_le hi.1
    have hk : k < l0.length := by omega
    exact walk_of v0 l0 _ x k (l0.getD k 0) true w i0 w1 bd rfl (fun W u h => lst.at_in u l0 k W h hk (by omega)) (fun W u h => ral.at_in h hk (by omega) rfl) (fun W u h => at_yes h hk (by omega))
  · have hn : i < 0 ∨ (l0.length : Int) ≤ i := by omega
    exact walk_of v0 l0 _ x i 0 false w i0 w1 bd rfl (fun W u h => lst.at_out u l0 i W h hn) (fun W u h => ral.at_out h hn (by omega)) (fun W u h => at_no h hn)
end Go.Proofs.Ytkenocamlaaajaa.topLists
