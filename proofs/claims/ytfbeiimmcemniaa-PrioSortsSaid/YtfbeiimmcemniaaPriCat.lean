/- slices.Grow of nil, slices.Concat, append: of nodes. -/
import Derived.Test.YtfbeiimmcemniaaPriSum
import Derived.OwnWalk
namespace Go.Proofs.Ytfbeiimmcemniaa.pri
open Go Go.RowKit

theorem infoNode : (Try.prog.info? 61).map (fun i => (i.zero, i.size, i.bytes)) = some (some (.pointer none), 1, 8) := by kernel_rfl

/-- append(nil, make([]T, n)...) -/
theorem run_append_zeros {P : Program} (w : World) (t tn ty e : TypeId) (k : IntKind) (i : TypeInfo) (z : Value) (ht : P.underlying t = some (.slice e)) (htn : P.underlying tn = some (.int k)) (hi : P.info? e = some i) (hz : i.zero = some z) (hz1 : z.cells.size = 1) (hs : i.size = 1) (hby : i.bytes = 8)
    (n : Nat) (h0 : 0 < n) (hbd : n ≤ 35184372088832) :
    ∃ cur : Array Value, (Builtin.append_ #[t, tn] ty #[.slice none 0 0, .int .i64 n]).run P w = .ok (.slice (some ⟨w.heap.size, 0, none⟩) n (grownCap w n 0 e)) (w.drew.alloc (.cells cur e)) ∧ cur.size = grownCap w n 0 e := by
  have hn : n ≠ 0 := by omega
  have wl : IntKind.i64.wrap (n : Int) = n := by rw [IntKind.wrap_i64]; omega
  have n1 : ¬ ((n : Int) < 0) := by omega
  have n2 : ¬ (281474976710656 < (n : Int) * 8) := by omega
  have h63' : ¬ (9223372036854775807 < (n : Int)) := by omega
  have h48' : ¬ (281474976710656 < Builtin.nextslicecap n 0 * 8) := by rw [nextslicecap_zero h0]; omega
  have hge := grownCap_ge w n 0 e
  refine ⟨Builtin.zeroCells z.cells n ++ Builtin.zeroCells z.cells (grownCap w n 0 e - n), ?_, ?_⟩
  · simp [Builtin.append_, run_underlying ht, run_underlying htn, asInt, asIntOf, sizeOf, typeInfo, zeroValue, hi, hz, hs, hby, wl, n1, n2, hn, h63', h48', Question.forced, run_firstCells_none, newRow, grownCap]
  · simp [size_zeroCells, hz1]
    omega

theorem wpList_append_zeros {P : Program} {w : World} {ops : Array Oper} {rest : List Oper} {o : Oper} {a : Act} {Q : Exit → Act → World → Prop} (hgd : o.guard = none) (s x : Operand) (t tn : TypeId)
    (ho : o.op = .call { callee := .builtin .append, args := #[s, x], argTypes := #[t, tn] })
    (base : Nat) (e : TypeId) (k : IntKind) (ht : P.underlying t = some (.slice e)) (htn : P.underlying tn = some (.int k)) (hinfo : (P.info? e).map (fun i => (i.zero, i.size, i.bytes)) = some (some (.pointer none), 1, 8))
    (hs : a.eval s = .slice none 0 0) (n : Nat) (hx : a.eval x = .int .i64 n) (h0 : 0 < n) (hbd : n ≤ 35184372088832) (hbase : base ≤ w.heap.size)
    (h : ∀ cap w', n ≤ cap → w'.ownsRow base e 1 (.slice (some ⟨w.heap.size, 0, none⟩) 0 cap) 0 [] → Below w.heap.size w w' → wpList P ops Q rest (a.put o.dst (.slice (some ⟨w.heap.size, 0, none⟩) n cap)) w') : wpList P ops Q (o :: rest) a w := by
  obtain ⟨i, hi, hz, hsz, hby⟩ := info_parts hinfo
  refine wpList_plain hgd fun K hK => ?_
  obtain ⟨cur, hrun, hcs⟩ := run_append_zeros (P := P) w t tn o.type e k i (.pointer none) ht htn hi hz rfl hsz hby n h0 hbd
  have hge := grownCap_ge w n 0 e
  have hle := grownCap_le_maxLen w n 0 e (by simp [maxLen]; omega)
  unfold Oper.wp
  simp [execOp, ho, resolve, invoke, builtin, hs, hx, hrun, Result.andThen]
  refine hK _ _ (h _ _ hge ?_ ?_)
  · have := World.ownsRow_made (e := e) (size := 1) (base := base) w.drew cur (grownCap w n 0 e) hbase hle (by rw [hcs]; omega)
    simpa using this
  · exact (Below.refl _ _).drew.alloc (Nat.le_refl _) _


set_option maxHeartbeats 4000000 in
theorem grow_nil (n : Nat) (w : World) (hn : n ≤ 35184372088832) :
    Calls Try.prog 45 #[.slice none 0 0, .int .i64 n] w fun e w' => (∃ u, e = .returned u ∧ w'.ownsRow w.heap.size 61 1 u 0 []) ∧ Below w.heap.size w w' := by
  go_enter Try.func45, Try.ntmps45
  by_cases h0 : 0 < n
  · go_wp2_with (at_builtin; refine wpList_append_zeros rfl _ _ 67 3 rfl w.heap.size 61 .i64 Try.underlying67 Try.underlying3 infoNode rfl n rfl h0 hn (Nat.le_refl _) ?_; intro cap w1 hcap hown hb1)
    go_ret
    exact ⟨⟨_, rfl, hown⟩, hb1⟩
  · obtain rfl : n = 0 := by omega
    go_wp2_with fail
    go_ret
    exact ⟨⟨_, rfl, World.ownsRow_nil _ _ _ _⟩, Below.refl _ _⟩

theorem ps_oneCell (ps : List (Option Addr)) : ∀ u ∈ ps.map Value.pointer, u.oneCell' = true := by
  intro u hu
  obtain ⟨_, _, rfl⟩ := List.mem_map.1 hu
  rfl
/-- append, to a row that the call owns, of what reads as pointers -/
theorem append_ps {Q : Nat → Prop} {P : Program} {w : World} {ops : Array Oper} {rest : List Oper} {o : Oper} {a : Act} {R : Exit → Act → World → Prop} (hgd : o.guard = none) (s x : Operand) (t : TypeId)
    (ho : o.op = .call { callee := .builtin .append, args := #[s, x], argTypes := #[t, t] })
    (base : Nat) (e : TypeId) (ht : P.underlying t = some (.slice e)) (hinfo : (P.info? e).map (fun i => (i.zero, i.size, i.bytes)) = some (some (.pointer none), 1, 8))
    (u : Value) (n : Nat) (xs : List (Option Addr)) (hs : a.eval s = u) (hown : w.ownsRow base e 1 u n (xs.map Value.pointer)) (v : Value) (l : List (Option Addr)) (hx : a.eval x = v) (hv : IsPs Q w v l)
    (hbytes : n + l.length ≤ 17592186044416) (hbase : base ≤ w.heap.size)
    (h : ∀ u' w', w'.ownsRow base e 1 u' (n + l.length) ((xs ++ l).map Value.pointer) → w.grownBy w' u.ownBlock → wpList P ops R rest (a.put o.dst u') w') : wpList P ops R (o :: rest) a w := by
  obtain ⟨i, hi, hz, hsz, hby⟩ := info_parts hinfo
  obtain ⟨ad, cap, rfl, hn, hc⟩ := hv
  cases ad with
  | none =>
    obtain rfl := hn.1 rfl
    have hl : l = [] := by
      cases l with
      | nil => rfl
      | cons y l => obtain ⟨_, _, h, _⟩ := hc (by simp); cases h
    subst hl
    exact wpList_append_own_none hgd s x t ho base e i 1 ht hi u n _ hs hown hx (h _ _ (by simpa using hown) (World.grownBy.refl _ _))
  | some ad =>
    refine wpList_append_own (w := w) hgd s x t ho base e i (.pointer none) 1 8 ht hi hz hsz hby rfl (by decide) u n _ hs hown ad l.length cap (l.map Value.pointer) hx (by simp) ?_ (ps_oneCell _) ?_ (by omega) hbase ?_
    · intro j y hj
      have hjl : j < l.length := by simpa using (List.getElem?_eq_some_iff.1 hj).1
      obtain ⟨b, off, he, -, hb, hcell⟩ := hc (by omega)
      obtain rfl := Option.some.inj he
      rw [Addr.add_lit, hcell j hjl]
      rw [← hj]
      simp [List.getD, hjl]
    · simp [maxLen]; omega
    · intro u' w' h1 h2 _
      exact h u' w' (by simpa using h1) h2
/-- a row that the call owns, as a slice of pointers -/
theorem IsPs.of_owns {Q : Nat → Prop} {w : World} {base n : Nat} {v : Value} {ps : List (Option Addr)} (h : w.ownsRow base 61 1 v n (ps.map Value.pointer)) (hn : n = ps.length) (hQ : ∀ b, base ≤ b → Q b) : IsPs Q w v ps := by
  obtain ⟨hl, h⟩ := h
  rcases h with ⟨rfl, h0⟩ | ⟨g, cap, cur, rfl, hb, hg, hnc, hcm, hcs, htk⟩
  · have : ps = [] := List.eq_nil_of_length_eq_zero (by omega)
    subst this
    exact IsPs.nil _ _
  · subst hn
    refine ⟨_, cap, rfl, ⟨(fun h => by cases h), hnc⟩, fun _ => ⟨g, 0, rfl, ⟨hQ _ hb, cur.toList, by unfold hp.Blk; simpa using hg⟩, lt_of_block hg, fun k hk => ?_⟩⟩
    have h1 : (cur.toList.take (ps.length * 1))[k]? = (ps.map Value.pointer)[k]? := by rw [htk]
    rw [List.getElem?_take, if_pos (by omega)] at h1
    simp [World.cell?, hg]
    simpa [List.getD, hk] using h1

theorem grow_to {k : Int} (n : Nat) (hk : k = (n : Int)) (w : World) (hn : n ≤ 35184372088832) :
    Calls Try.prog 45 #[.slice none 0 0, .int .i64 k] w fun e w' => (∃ u, e = .returned u ∧ w'.ownsRow w.heap.size 61 1 u 0 (([] : List (Option Addr)).map Value.pointer)) ∧ Below w.heap.size w w' := by
  subst hk
  exact grow_nil n w hn

set_option maxRecDepth 100000 in
set_option maxHeartbeats 4000000 in
theorem concat_own (g n : Nat) (vs : List Value) (pss : List (List (Option Addr))) (w : World) (hg : hp.Blk w g 67 vs) (hn : vs.length = n) (hl : pss.length = n) (hv : ∀ (k : Nat) v ps, vs[k]? = some v → pss[k]? = some ps → IsPs Any w v ps)
    (hbd : pss.flatten.length ≤ 100) (hn3 : n ≤ 3) :
    Calls Try.prog 33 #[.slice (some ⟨g, 0, none⟩) n n] w fun e w' => (∃ u, e = .returned u ∧ w'.ownsRow w.heap.size 61 1 u pss.flatten.length (pss.flatten.map Value.pointer)) ∧ Below w.heap.size w w' := by
  have hstep : ∀ k, k < n → ∃ v ps a cap, vs[k]? = some v ∧ v = .slice a ps.length cap ∧ IsPs Any w v ps ∧ (pss.take (k + 1)).flatten = (pss.take k).flatten ++ ps := by
    intro k hk
    obtain ⟨v, hv1⟩ : ∃ v, vs[k]? = some v := ⟨_, List.getElem?_eq_some_iff.2 ⟨by omega, rfl⟩⟩
    obtain ⟨ps, hp1⟩ : ∃ v, pss[k]? = some v := ⟨_, List.getElem?_eq_some_iff.2 ⟨by omega, rfl⟩⟩
    have h1 := hv k v ps hv1 hp1
    obtain ⟨a, cap, e, -⟩ := h1
    exact ⟨v, ps, a, cap, hv1, e, hv k v ps hv1 hp1, by rw [List.take_add_one, hp1]; simp⟩
  have hle : ∀ k, (pss.take k).flatten.length ≤ pss.flatten.length := by
    intro k
    have e : pss.flatten = (pss.take k).flatten ++ (pss.drop k).flatten := by rw [← List.flatten_append, List.take_append_drop]
    rw [e, List.length_append]; omega
  have hall : pss.take n = pss := by rw [← hl, List.take_length]
  obtain ⟨T, hT⟩ : ∃ T, pss.flatten = T := ⟨_, rfl⟩
  have hT0 : Hid ((pss.take n).flatten = T) := Lib.hid (by rw [hall, hT])
  rw [hT] at hbd hle ⊢
  have hP0 : Hid ((pss.take 0).flatten = []) := Lib.hid (by simp)
  generalize hfP : (fun k => (pss.take k).flatten) = P at *
  have hfp : ∀ k, (pss.take k).flatten = P k := fun k => congrFun hfP k
  simp only [hfp] at hstep hle hT0 hP0
  have hlt := hg.lt
  clear hfP hfp hall hT hv
  go_enter Try.func33, Try.ntmps33
  go_wp2_with fail
  go_loop [3, 5, 11] (fun sz _ i => ∃ k : Nat, k ≤ n ∧ i = .int .i64 k ∧ sz = .int .i64 ((P k).length : Nat)) (fun _ _ i => n - (intOf i).toNat)
  case atStart => exact ⟨0, by omega, rfl, by rw [hP0.out]; rfl⟩
  case round =>
    obtain ⟨k, hk, rfl, rfl⟩ := hrel
    by_cases hlt : k < n
    · obtain ⟨v, ps, a, cap, hv1, rfl, -, hnx⟩ := hstep k hlt
      have c0 := (hg.cell k).trans hv1
      have hle' := hle (k + 1)
      have hnx' : ((P (k + 1)).length : Nat) = (P k).length + ps.length := by rw [hnx, List.length_append]
      replace hnx' := Lib.hid hnx'
      have hb1 : (P k).length + ps.length ≤ 100 := by have := hnx'.out; omega
      obtain ⟨s, hs⟩ : ∃ s, (P k).length = s := ⟨_, rfl⟩
      obtain ⟨t, ht⟩ : ∃ s, ps.length = s := ⟨_, rfl⟩
      rw [hs] at hnx' hb1 ⊢
      rw [ht] at hnx' hb1 c0
      clear hnx hle' hstep hle hs ht hv1
      go_wp2_with fail
      go_round
      case rel => exact ⟨k + 1, by omega, by go_num, by rw [hnx'.out]; go_num⟩
      case measure => simp [intOf]; omega
    · obtain rfl : k = n := by omega
      have hT1 := congrArg List.length hT0.out
      replace hT1 := Lib.hid hT1
      go_wp2_with (go_at_call 45; refine (grow_to T.length (by rw [hT1.out]) _ (by omega)).mono ?_; rintro e wg ⟨⟨u0, rfl, hu0⟩, hbg⟩)
      go_loopw [6, 8, 27] (fun u _ i W => Below w.heap.size w W ∧ ∃ j : Nat, j ≤ k ∧ i = .int .i64 j ∧ W.ownsRow w.heap.size 61 1 u (P j).length ((P j).map Value.pointer)) (fun _ _ i _ => k - (intOf i).toNat)
      case atStart => exact ⟨hbg, 0, by omega, rfl, by rw [hP0.out]; exact hu0⟩
      case round =>
        rename World => W
        obtain ⟨hb, j, hj, rfl, hr⟩ := hrel
        by_cases hlt : j < k
        · obtain ⟨v, ps, a, cap, hv1, rfl, hps, hnx⟩ := hstep j hlt
          have c0 := ((hg.on hb).cell j).trans hv1
          have hgl := (hg.on hb).lt
          have hle' := hle (j + 1)
          have hnx' : ((P (j + 1)).length : Nat) = (P j).length + ps.length := by rw [hnx, List.length_append]
          have hb1 : (P j).length + ps.length ≤ 100 := by omega
          replace hnx := Lib.hid hnx
          replace hnx' := Lib.hid hnx'
          have hps' := hps.on hb
          obtain ⟨L, hL⟩ : ∃ L, P j = L := ⟨_, rfl⟩
          rw [hL] at hr hb1
          obtain ⟨M, hM⟩ : ∃ M, P (j + 1) = M := ⟨_, rfl⟩
          rw [hM, hL] at hnx hnx'
          have hrw : ∀ u W, World.ownsRow W w.heap.size 61 1 u (L.length + ps.length) ((L ++ ps).map Value.pointer) → World.ownsRow W w.heap.size 61 1 u M.length (M.map Value.pointer) := by
            intro u W h
            rw [hnx'.out, hnx.out]; exact h
          replace hrw := Lib.hid hrw
          replace hM := Lib.hid hM
          obtain ⟨t, ht⟩ : ∃ s, ps.length = s := ⟨_, rfl⟩
          obtain ⟨s, hs⟩ : ∃ s, L.length = s := ⟨_, rfl⟩
          rw [ht] at c0 hps' hb1 hrw
          rw [hs] at hr hb1 hrw
          clear hps hle' hle hstep hv1 hL hs hnx' hnx
          replace ht := Lib.hid ht
          go_wp2_with (at_builtin; refine append_ps rfl _ _ 67 rfl w.heap.size 61 Try.underlying67 infoNode _ _ L rfl hr _ ps rfl hps' (by rw [ht.out]; omega) hb.size ?_; intro u1 w1 own1 gr1)
          go_roundw
          case rel => exact ⟨hb.grown gr1 hb.size (fun k hk => (hr.lt k hk).1), j + 1, by omega, by go_num, by rw [hM.out]; exact hrw.out _ _ (by rw [← ht.out]; exact own1)⟩
          case measure => simp [intOf]; omega
        · obtain rfl : j = k := by omega
          go_wp2_with fail
          go_ret
          exact ⟨⟨_, rfl, by rw [← hT0.out]; exact hr⟩, hb⟩

theorem Row.of_owns {Q : Nat → Prop} {w : World} {base n : Nat} {v : Value} {ps : List (Option Addr)} {l : List Nd} (h : w.ownsRow base 61 1 v n (ps.map Value.pointer)) (hn : n = ps.length) (hQ : ∀ b, base ≤ b → Q b) (hs : Nods Q w l ps) : Row Q w v l :=
  ⟨ps, IsPs.of_owns h hn hQ, hs⟩
theorem concat2_any {Q : Nat → Prop} (g : Nat) (u v : Value) (l r : List Nd) (w : World) (hQ : ∀ b, w.heap.size ≤ b → Q b) (hg : hp.Blk w g 67 [u, v]) (hl : Row Q w u l) (hr : Row Q w v r) (hb : l.length + r.length ≤ 100) :
    Calls Try.prog 33 #[.slice (some ⟨g, 0, none⟩) 2 2] w fun e w' => (∃ x, e = .returned x ∧ Row Q w' x (l ++ r)) ∧ Below w.heap.size w w' := by
  obtain ⟨ps, h1, s1⟩ := hl
  obtain ⟨qs, h2, s2⟩ := hr
  have l1 := s1.len
  have l2 := s2.len
  refine (concat_own g 2 [u, v] [ps, qs] w hg rfl rfl ?_ (by simp; omega) (by omega)).mono fun e w' ⟨⟨x, he, hx⟩, hbw⟩ => ⟨⟨x, he, ?_⟩, hbw⟩
  · intro k a b ha hb
    match k, ha, hb with
    | 0, ha, hb => cases ha; cases hb; exact h1.imp fun _ _ => trivial
    | 1, ha, hb => cases ha; cases hb; exact h2.imp fun _ _ => trivial
    | k + 2, ha, _ => simp at ha
  · have e1 : [ps, qs].flatten = ps ++ qs := by simp
    rw [e1] at hx
    exact Row.of_owns hx rfl hQ ((s1.map (Nod.on hbw)).append (s2.map (Nod.on hbw)))
theorem concat3_any {Q : Nat → Prop} (g : Nat) (u v z : Value) (l m r : List Nd) (w : World) (hQ : ∀ b, w.heap.size ≤ b → Q b) (hg : hp.Blk w g 67 [u, v, z]) (hl : Row Q w u l) (hm : Row Q w v m) (hr : Row Q w z r) (hb : l.length + m.length + r.length ≤ 100) :
    Calls Try.prog 33 #[.slice (some ⟨g, 0, none⟩) 3 3] w fun e w' => (∃ x, e = .returned x ∧ Row Q w' x (l ++ m ++ r)) ∧ Below w.heap.size w w' := by
  obtain ⟨ps, h1, s1⟩ := hl
  obtain ⟨qs, h2, s2⟩ := hm
  obtain ⟨rs, h3, s3⟩ := hr
  have l1 := s1.len
  have l2 := s2.len
  have l3 := s3.len
  refine (concat_own g 3 [u, v, z] [ps, qs, rs] w hg rfl rfl ?_ (by simp; omega) (by omega)).mono fun e w' ⟨⟨x, he, hx⟩, hbw⟩ => ⟨⟨x, he, ?_⟩, hbw⟩
  · intro k a b ha hb
    match k, ha, hb with
    | 0, ha, hb => cases ha; cases hb; exact h1.imp fun _ _ => trivial
    | 1, ha, hb => cases ha; cases hb; exact h2.imp fun _ _ => trivial
    | 2, ha, hb => cases ha; cases hb; exact h3.imp fun _ _ => trivial
    | k + 3, ha, _ => simp at ha
  · have e1 : [ps, qs, rs].flatten = ps ++ qs ++ rs := by simp
    rw [e1] at hx
    exact Row.of_owns hx rfl hQ (((s1.map (Nod.on hbw)).append (s2.map (Nod.on hbw))).append (s3.map (Nod.on hbw)))

/-- a node over others that lay in w -/
def Grp (Q : Nat → Prop) (w W : World) (n : Nd) (p : Option Addr) : Prop := ∃ g v k, p = some ⟨g, 0, none⟩ ∧ Q g ∧ Nd.Ht (k + 1) n ∧ hp.Blk W g 69 (ncs n.nums (0, 0) v) ∧ Row Q w v n.parts
def Grps (Q : Nat → Prop) (w W : World) : List Nd → List (Option Addr) → Prop
  | [], [] => True
  | n :: l, p :: ps => Grp Q w W n p ∧ Grps Q w W l ps
  | _, _ => False
section
variable {Q : Nat → Prop} {w W W' : World}
theorem Grps.map (f : ∀ g cs, hp.Blk W g 69 cs → hp.Blk W' g 69 cs) : ∀ {l : List Nd} {ps : List (Option Addr)}, Grps Q w W l ps → Grps Q w W' l ps
  | [], [], _ => trivial
  | _ :: _, _ :: _, ⟨⟨g, v, k, e, hq, ht, hB, hr⟩, hs⟩ => ⟨⟨g, v, k, e, hq, ht, f _ _ hB, hr⟩, Grps.map f hs⟩
  | [], _ :: _, h => h.elim
  | _ :: _, [], h => h.elim
theorem Grps.nods (hb : Below w.heap.size w W) : ∀ {l : List Nd} {ps : List (Option Addr)}, Grps Q w W l ps → Nods Q W l ps
  | [], [], _ => trivial
  | _ :: _, _ :: _, ⟨⟨g, v, k, e, hq, ht, hB, hr⟩, hs⟩ => ⟨by rw [e]; exact Nod.mk ht hq hB (hr.on hb), Grps.nods hb hs⟩
  | [], _ :: _, h => h.elim
  | _ :: _, [], h => h.elim
theorem Grps.snoc {n : Nd} {p : Option Addr} (h : Grp Q w W n p) : ∀ {l : List Nd} {ps : List (Option Addr)}, Grps Q w W l ps → Grps Q w W (l ++ [n]) (ps ++ [p])
  | [], [], _ => ⟨h, trivial⟩
  | _ :: _, _ :: _, ⟨h1, hs⟩ => ⟨h1, Grps.snoc h hs⟩
  | [], _ :: _, h' => h'.elim
  | _ :: _, [], h' => h'.elim
theorem Grps.len : ∀ {l : List Nd} {ps : List (Option Addr)}, Grps Q w W l ps → ps.length = l.length
  | [], [], _ => rfl
  | _ :: _, _ :: _, ⟨_, hs⟩ => by simp [Grps.len hs]
  | [], _ :: _, h => h.elim
  | _ :: _, [], h => h.elim
end
theorem ps_one (w : World) (p : Option Addr) : IsPs Any (w.alloc (.cells #[.pointer p] 61)) (.slice (some ⟨w.heap.size, 0, none⟩) 1 1) [p] := by
  refine ⟨_, 1, rfl, ⟨(fun h => by cases h), by simp⟩, fun _ => ⟨_, 0, rfl, ⟨trivial, _, hp.Blk.new _ _ _⟩, by simp, fun k hk => ?_⟩⟩
  obtain rfl : k = 0 := by simpa using hk
  simp
theorem row_len {W : World} {base n m size : Nat} {e : TypeId} {a : Option Addr} {c : Nat} {xs : List Value} (h : W.ownsRow base e size (.slice a m c) n xs) : m = n := by
  rcases h.2 with ⟨e, h0⟩ | ⟨g, cap, cur, e, _⟩
  · cases e; omega
  · cases e; rfl

set_option maxRecDepth 100000 in
set_option maxHeartbeats 4000000 in
attribute [-go_sem] sliced in
theorem grouped_any {Q : Nat → Prop} (v : Value) (ns : List Nd) (k : Nat) (w : World) (hQ : ∀ b, w.heap.size ≤ b → Q b) (h : Row Q w v ns) (hk : Hts k ns) (h2 : 2 ≤ ns.length) (h12 : ns.length ≤ 12) (L : List (Int × Int)) (hL : flat ns = L) (hbd : L.length ≤ 4611686018427387904) :
    Calls Try.prog 42 #[v] w fun e w' => (∃ u, e = .returned u ∧ ∃ gs, Row Q w' u gs ∧ Hts (k + 1) gs ∧ 1 ≤ gs.length ∧ gs.length ≤ 4 ∧ flat gs = L) ∧ Below w.heap.size w w' := by
  have own0 : w.ownsRow w.heap.size 61 1 (.slice none 0 0) 0 (([] : List (Option Addr)).map Value.pointer) := World.ownsRow_nil _ _ _ _
  obtain ⟨a0, c0, e0, -⟩ := h.cells
  go_enter Try.func42, Try.ntmps42
  go_wp2_with fail
  go_loopw [0, 3, 4] (fun x u _ W => ∃ (rest gs : List Nd) (ps : List (Option Addr)) (j : Nat), Row Q w x rest ∧ Hts k rest ∧ rest.length ≠ 1 ∧ Below w.heap.size w W ∧ W.ownsRow w.heap.size 61 1 u j (ps.map Value.pointer) ∧ j = ps.length ∧ Grps Q w W gs ps ∧ Hts (k + 1) gs ∧ gs.length + (rest.length + 2) / 3 ≤ 4 ∧ 1 ≤ gs.length + rest.length ∧ Hid (flat gs ++ flat rest = L)) (fun x _ _ _ => match x with | .slice _ n _ => n | _ => 0)
  case atStart => exact ⟨ns, [], [], 0, h, hk, by omega, Below.refl _ _, own0, rfl, trivial, Hts.nil _, by simp; omega, by simp; omega, by show _ = _; rw [flat_nil, List.nil_append, hL]⟩
  case round =>
    clear own0 h hk h2 h12 hL
    obtain ⟨rest, gs, ps, j, hr, hk, hne, hb, hrow, hj, hg, hgk, hct, hpos, hfl⟩ := hrel
    obtain ⟨a, cap, rfl, -, hcap, -⟩ := hr.cells
    obtain ⟨r, hrl⟩ : ∃ r, rest.length = r := ⟨_, rfl⟩
    rw [hrl] at hcap hne hct hpos ⊢
    by_cases h0 : r = 0
    · subst h0
      obtain rfl := List.eq_nil_of_length_eq_zero hrl
      go_wp2_with fail
      go_ret
      refine ⟨⟨_, rfl, gs, Row.of_owns hrow hj hQ (hg.nods hb), hgk, by omega, by omega, ?_⟩, hb⟩
      have := hfl.out
      simpa [flat_nil] using this
    · obtain ⟨s, hs2, hs3, hsr, hs1, hs4⟩ : ∃ s, 2 ≤ s ∧ s ≤ 3 ∧ s ≤ r ∧ r - s ≠ 1 ∧ (s = if r = 2 ∨ r = 4 then 2 else 3) := by
        by_cases c : r = 2 ∨ r = 4
        · exact ⟨2, by omega, by omega, by omega, by omega, by rw [if_pos c]⟩
        · exact ⟨3, by omega, by omega, by omega, by omega, by rw [if_neg c]⟩
      have g1 := hr.to (j := s) (by omega)
      have g2 := hr.from (i := s) (by omega)
      rw [hrl] at g2
      have l1 : (rest.take s).length = s := by simp; omega
      have l2 : (rest.drop s).length = r - s := by simp; omega
      obtain ⟨A, hA⟩ : ∃ A, flat (rest.take s) = A := ⟨_, rfl⟩
      have efl : flat gs ++ A ++ flat (rest.drop s) = L := by rw [← hA, List.append_assoc, ← flat_append, List.take_append_drop]; exact hfl.out
      have lA : A.length ≤ 4611686018427387904 := by
        have := congrArg List.length efl
        simp at this
        omega
      have H := fun W (K : Below w.heap.size w W) => over_raw _ (rest.take s) W (g1.on K) (by omega) (by omega) A hA lA
      obtain ⟨n, hnp, hnh⟩ := Nd.of (k := k) (ns := rest.take s) hk.take (by omega) (by omega)
      have hnn : n.nums = A := by rw [← hnh.parts.2.1, hnp, hA]
      have hgr : ∀ W (g : Nat), w.heap.size ≤ g → hp.Blk W g 69 (ncs A (0, 0) (sliced a 0 s cap 1)) → Grp Q w W n (some ⟨g, 0, none⟩) :=
        fun W g hg hB => ⟨g, _, k, rfl, hQ _ hg, hnh, by rw [hnn]; exact hB, by rw [hnp]; exact g1⟩
      obtain ⟨a2, c2, e2, -⟩ := g2.cells
      rw [l2] at e2
      have hend : Row Q w (.slice a2 (r - s) c2) (rest.drop s) ∧ Hts k (rest.drop s) ∧ flat (gs ++ [n]) ++ flat (rest.drop s) = L ∧ Hts (k + 1) (gs ++ [n]) ∧ (rest.drop s).length = r - s := ⟨e2 ▸ g2, hk.drop, by rw [flat_append, flat_one, hnn]; exact efl, hgk.append (Hts.one hnh), l2⟩
      have hpl := hg.len
      have hsc : s ≤ cap := by omega
      replace hend := Lib.hid hend
      replace hgr := Lib.hid hgr
      replace hj := Lib.hid hj
      replace hpl := Lib.hid hpl
      replace hs4 := Lib.hid hs4
      clear hr hk hfl g1 g2 l1 l2 hA efl lA hnp hnh hnn hgk hrl e0
      obtain ⟨d, hd⟩ : ∃ d, r - s = d := ⟨_, rfl⟩
      rw [hd] at e2 hend
      replace hd := Lib.hid hd
      by_cases c4 : r = 2 ∨ r = 4
      · obtain rfl : s = 2 := by rw [hs4.out, if_pos c4]
        rcases c4 with rfl | rfl
        · (go_wp2_with (first | (go_at_call 34; (with_reducible refine (H _ hb).mono ?_); clear H; rintro e w1 ⟨⟨g, rfl, hg1, hgB⟩, hb1⟩; have hrow1 := hp.row_on hrow hb1; have hbw1 := hb.trans (hb1.mono hb.size); clear hrow) | (at_builtin; refine append_ps (Q := Any) rfl _ _ 67 rfl w.heap.size 61 Try.underlying67 infoNode _ _ ps rfl (hrow1.alloc _) _ [some ⟨g, 0, none⟩] rfl (ps_one _ _) (by have := hj.out; have := hpl.out; simp; omega) (by have := hbw1.size; simp; omega) ?_; intro u1 w2 own1 gr1)); go_roundw; (case rel => (refine ⟨rest.drop _, gs ++ [n], ps ++ [some ⟨g, 0, none⟩], j + 1, hend.out.1, hend.out.2.1, by rw [hend.out.2.2.2.2]; have := hd.out; omega, (hbw1.alloc hbw1.size _).grown gr1 (by have := hbw1.size; simp; omega) (fun k hk => (hrow1.lt k hk).1), own1, by rw [List.length_append, hj.out]; rfl, Grps.snoc (hgr.out _ _ (by have := hb.size; omega) (hp.Blk.grown hgB (by decide) hrow1 gr1)) (hg.map (fun g cs h => hp.Blk.grown (h.on hb1) (by decide) hrow1 gr1)), hend.out.2.2.2.1, by rw [hend.out.2.2.2.2, List.length_append, List.length_singleton]; have := hd.out; omega, by rw [List.length_append, List.length_singleton]; omega, hend.out.2.2.1⟩)); (case measure => have := hd.out; simp; omega))
        · (go_wp2_with (first | (go_at_call 34; (with_reducible refine (H _ hb).mono ?_); clear H; rintro e w1 ⟨⟨g, rfl, hg1, hgB⟩, hb1⟩; have hrow1 := hp.row_on hrow hb1; have hbw1 := hb.trans (hb1.mono hb.size); clear hrow) | (at_builtin; refine append_ps (Q := Any) rfl _ _ 67 rfl w.heap.size 61 Try.underlying67 infoNode _ _ ps rfl (hrow1.alloc _) _ [some ⟨g, 0, none⟩] rfl (ps_one _ _) (by have := hj.out; have := hpl.out; simp; omega) (by have := hbw1.size; simp; omega) ?_; intro u1 w2 own1 gr1)); go_roundw; (case rel => (refine ⟨rest.drop _, gs ++ [n], ps ++ [some ⟨g, 0, none⟩], j + 1, hend.out.1, hend.out.2.1, by rw [hend.out.2.2.2.2]; have := hd.out; omega, (hbw1.alloc hbw1.size _).grown gr1 (by have := hbw1.size; simp; omega) (fun k hk => (hrow1.lt k hk).1), own1, by rw [List.length_append, hj.out]; rfl, Grps.snoc (hgr.out _ _ (by have := hb.size; omega) (hp.Blk.grown hgB (by decide) hrow1 gr1)) (hg.map (fun g cs h => hp.Blk.grown (h.on hb1) (by decide) hrow1 gr1)), hend.out.2.2.2.1, by rw [hend.out.2.2.2.2, List.length_append, List.length_singleton]; have := hd.out; omega, by rw [List.length_append, List.length_singleton]; omega, hend.out.2.2.1⟩)); (case measure => have := hd.out; simp; omega))
      · have e3 : ((r : Int) == 2) = false := beq_false_of_ne (by omega)
        have e4 : ((r : Int) == 4) = false := beq_false_of_ne (by omega)
        obtain rfl : s = 3 := by rw [hs4.out, if_neg c4]
        have hrp : 0 < r := by omega
        (go_wp2_with (first | (go_at_call 34; (with_reducible refine (H _ hb).mono ?_); clear H; rintro e w1 ⟨⟨g, rfl, hg1, hgB⟩, hb1⟩; have hrow1 := hp.row_on hrow hb1; have hbw1 := hb.trans (hb1.mono hb.size); clear hrow) | (at_builtin; refine append_ps (Q := Any) rfl _ _ 67 rfl w.heap.size 61 Try.underlying67 infoNode _ _ ps rfl (hrow1.alloc _) _ [some ⟨g, 0, none⟩] rfl (ps_one _ _) (by have := hj.out; have := hpl.out; simp; omega) (by have := hbw1.size; simp; omega) ?_; intro u1 w2 own1 gr1)); go_roundw; (case rel => (refine ⟨rest.drop _, gs ++ [n], ps ++ [some ⟨g, 0, none⟩], j + 1, hend.out.1, hend.out.2.1, by rw [hend.out.2.2.2.2]; have := hd.out; omega, (hbw1.alloc hbw1.size _).grown gr1 (by have := hbw1.size; simp; omega) (fun k hk => (hrow1.lt k hk).1), own1, by rw [List.length_append, hj.out]; rfl, Grps.snoc (hgr.out _ _ (by have := hb.size; omega) (hp.Blk.grown hgB (by decide) hrow1 gr1)) (hg.map (fun g cs h => hp.Blk.grown (h.on hb1) (by decide) hrow1 gr1)), hend.out.2.2.2.1, by rw [hend.out.2.2.2.2, List.length_append, List.length_singleton]; have := hd.out; omega, by rw [List.length_append, List.length_singleton]; omega, hend.out.2.2.1⟩)); (case measure => have := hd.out; simp; omega))
end Go.Proofs.Ytfbeiimmcemniaa.pri
