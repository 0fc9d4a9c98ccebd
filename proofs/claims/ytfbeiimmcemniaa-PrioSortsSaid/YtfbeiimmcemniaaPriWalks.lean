/- What the laws of priority queues ask first: items appended, one taken away, the first greatest one, ranked. -/
import Derived.Test.YtfbeiimmcemniaaPriTop
import Derived.Test.YtfbeiimmcemniaaPriItems
namespace Go.Proofs.Ytfbeiimmcemniaa.pri
open Go Go.RowKit Go.Proofs.Ytfbeiimmcemniaa.rws

theorem _root_.Go.Proofs.Ytfbeiimmcemniaa.hp.Blk.one {w : World} {g : Nat} {t : TypeId} {a : Value} (h : hp.Blk w g t [a]) : w.cell? ⟨g, 0, none⟩ = some a := h.cell 0
theorem append_items {w : World} {B : Nat} {ops : Array Oper} {rest : List Oper} {o : Oper} {a : Act} {Q : Exit → Act → World → Prop} (hgd : o.guard = none) (s x : Operand)
    (ho : o.op = .call { callee := .builtin .append, args := #[s, x], argTypes := #[22, 22] })
    (base : Nat) (u : Value) (n : Nat) (xs : List (Int × Int)) (hs : a.eval s = u) (hown : w.ownsRow base 32 2 u n (rws.flat pr xs)) (v : Value) (l : List (Int × Int)) (hx : a.eval x = v) (hv : IsRw pr w B v l)
    (hbytes : n + l.length ≤ 8796093022208) (hbase : base ≤ w.heap.size)
    (h : ∀ u' w', w'.ownsRow base 32 2 u' (n + l.length) (rws.flat pr (xs ++ l)) → w.grownBy w' u.ownBlock → wpList Try.prog ops Q rest (a.put o.dst u') w') : wpList Try.prog ops Q (o :: rest) a w :=
  append_rws (Λ := pr) hgd s x 22 ho base 32 (.agg #[.int .i64 0, .int .i64 0]) Try.underlying22 infoItem rfl u n xs hs hown v l hx hv (by omega) (show (n + l.length) * 16 ≤ _ by omega) hbase h

theorem one_row (w : World) (x : Int × Int) (t : TypeId) : IsRw pr (w.alloc (.cells #[.int .i64 x.1, .int .i64 x.2] t)) (w.alloc (.cells #[.int .i64 x.1, .int .i64 x.2] t)).heap.size (.slice (some ⟨w.heap.size, 0, none⟩) 1 1) [x] := by
  refine ⟨_, 1, rfl, ⟨(fun h => by cases h), by simp⟩, by simp, fun _ => ⟨w.heap.size, 0, rfl, by simp, fun j u hj => ?_⟩⟩
  rw [Nat.zero_add]
  exact ((hp.Blk.new w [.int .i64 x.1, .int .i64 x.2] t).cell j).trans hj
theorem row_base {w : World} {b b' size n : Nat} {e : TypeId} {v : Value} {xs : List Value} (h : w.ownsRow b e size v n xs) (hb : b' ≤ b) : w.ownsRow b' e size v n xs := by
  obtain ⟨hl, h⟩ := h
  refine ⟨hl, ?_⟩
  rcases h with h | ⟨g, cap, cur, e1, h2, h3⟩
  · exact .inl h
  · exact .inr ⟨g, cap, cur, e1, Nat.le_trans hb h2, h3⟩
theorem Keep.row {w w' : World} {base size k : Nat} {v : Value} {xs : List Value} (hr : w.ownsRow base 32 size v k xs) (hg : w.grownBy w' v.ownBlock) : Keep w w' := by
  intro b t cs ht hk
  refine (hg.block b hk.lt (hk.not_row ?_ hr)).trans hk
  rcases ht with rfl | rfl | rfl <;> decide

theorem row_empty (w : World) (t : TypeId) : (w.alloc (.cells #[] t)).ownsRow w.heap.size t 2 (.slice (some ⟨w.heap.size, 0, none⟩) 0 0) 0 [] :=
  ⟨by simp, .inr ⟨w.heap.size, 0, #[], rfl, Nat.le_refl _, heap_alloc_new w _, Nat.le_refl _, by simp [maxLen], by simp, by simp⟩⟩
/-- append to an empty row -/
theorem append_empty {w : World} {B : Nat} {ops : Array Oper} {rest : List Oper} {o : Oper} {a : Act} {Q : Exit → Act → World → Prop} (hgd : o.guard = none) (s x : Operand)
    (ho : o.op = .call { callee := .builtin .append, args := #[s, x], argTypes := #[22, 22] })
    (g : Nat) (hs : a.eval s = .slice (some ⟨g, 0, none⟩) 0 0) (hown : w.ownsRow g 32 2 (.slice (some ⟨g, 0, none⟩) 0 0) 0 []) (v : Value) (l : List (Int × Int)) (hx : a.eval x = v) (hv : IsRw pr w B v l)
    (hbd : l.length ≤ 17592186044416) (hg : g ≤ w.heap.size)
    (h : ∀ u' w', w'.ownsRow g 32 2 u' l.length (rws.flat pr l) → Below g w w' → wpList Try.prog ops Q rest (a.put o.dst u') w') : wpList Try.prog ops Q (o :: rest) a w := by
  by_cases h0 : l.length = 0
  · obtain rfl := List.eq_nil_of_length_eq_zero h0
    refine append_items hgd s x ho g _ 0 [] hs hown v [] hx hv (by simp) hg fun u' w' h1 h2 => h u' w' (by simpa using h1) ((Below.refl _ _).grown h2 hg fun k hk => (hown.lt k hk).1)
  · obtain ⟨i, hi, hz, hsz, hby⟩ := info_parts infoItem
    obtain ⟨ad, cap, rfl, hn, hm, hc⟩ := hv
    obtain ⟨b, off, rfl, hb, hcell⟩ := hc (by omega)
    have hle := grownCap_le_maxLen w (0 + l.length) 0 32 (by simp [maxLen]; omega)
    have hge := grownCap_ge w (0 + l.length) 0 32
    have hfl : (rws.flat pr l).length = l.length * 2 := flat_len pr l
    have hr := run_append_grow (P := Try.prog) w 22 o.type 32 i (.agg #[.int .i64 0, .int .i64 0]) Try.underlying22 hi hz ⟨g, 0, none⟩ 0 0 [] (by simp) (by simp) ⟨b, off, none⟩ l.length cap (rws.flat pr l) (by rw [hsz]; exact hfl)
      (fun j u hj => by rw [Addr.add_lit]; exact hcell j u hj) (by omega) (by omega) (by rw [Nat.zero_add, nextslicecap_zero (by omega), hby]; omega)
    refine wpList_plain hgd fun K hK' => ?_
    unfold Oper.wp
    simp [execOp, ho, resolve, invoke, builtin, hs, hx, Result.andThen]
    simp at hr
    rw [hr]
    refine hK' _ _ (h _ _ ?_ ?_)
    · simp only [Nat.zero_add] at hle hge
      refine ⟨hfl, .inr ⟨w.heap.size, grownCap w l.length 0 32, _, rfl, hg, (by simpa using heap_alloc_new w.drew _), hge, hle, ?_, ?_⟩⟩
      · simp [size_zeroCells, hfl, show (Value.agg #[.int .i64 0, .int .i64 0]).cells.size = 2 from rfl, ← Nat.add_mul]
        omega
      · simp [hfl]
    · exact ((Below.refl _ _).drew.alloc (by simpa using hg) _)

attribute [-go_sem] sliced in
set_option maxRecDepth 100000 in
set_option maxHeartbeats 4000000 in
/-- wattleworkref1.LessItem -/
theorem less_own {v : Value} {X Z L : List (Int × Int)} {x : Int × Int} {w : World} (hv : IsRw pr w w.heap.size v L) (hL : X ++ x :: Z = L) (hbd : L.length ≤ 8796093022208) :
    Calls Try.prog 12 #[v, .int .i64 (X.length : Nat)] w fun e w' => (∃ u, e = .returned u ∧ w'.ownsRow w.heap.size 32 2 u (X ++ Z).length (rws.flat pr (X ++ Z))) ∧ Below w.heap.size w w' := by
  have hi : X.length < L.length := by rw [← hL]; simp
  have s1 := fun W (hW : Below w.heap.size w W) => ((hv.below hW).mono hW.size)
  obtain ⟨a0, c0, rfl⟩ := hv.val
  have hcap := hv.cap
  have hlen := hv.len
  have t1 : (L.take X.length).drop 0 = X := by rw [← hL]; simp
  have t2 : L.drop (X.length + 1) = Z := by rw [← hL]; simp [List.drop_append]
  have s2 := fun W (hW : Below w.heap.size w W) => t1 ▸ (s1 W hW).sliced (i := 0) (j := X.length) (Nat.zero_le _) (by omega)
  have s3 := fun W (hW : Below w.heap.size w W) => t2 ▸ (s1 W hW).from (i := X.length + 1) hi
  have own0 : w.ownsRow w.heap.size 32 2 (.slice none 0 0) 0 (rws.flat pr []) := World.ownsRow_nil _ _ _ _
  have hn : X.length + Z.length ≤ 8796093022208 := by have := congrArg List.length hL; simp at this; omega
  have hcast : ((X.length + 1 : Nat) : Int) = (X.length : Int) + 1 := by omega
  clear s1 t1 t2 hv hL
  generalize L.length = N at *
  simp only [show pr.s = 2 from rfl] at s2 s3
  go_enter Try.func12, Try.ntmps12
  go_wp2_with (at_builtin; refine append_items rfl _ _ rfl w.heap.size _ 0 [] rfl own0 _ X rfl (s2 _ (Below.refl _ _)) (by omega) (Nat.le_refl _) ?_)
  intro u1 w1 own1 gr1
  have hb1 : Below w.heap.size w w1 := (Below.refl _ _).grown gr1 (Nat.le_refl _) (by simp [Value.ownBlock])
  have own1' : w1.ownsRow w.heap.size 32 2 u1 X.length (rws.flat pr X) := by simpa using own1
  go_wp2_with (at_builtin; refine append_items rfl _ _ rfl w.heap.size _ X.length X rfl own1' _ Z rfl (s3 _ hb1) (by omega) hb1.size ?_)
  intro u3 w3 own3 gr3
  have hb3 : Below w.heap.size w w3 := hb1.grown gr3 hb1.size (fun k hk => (own1'.lt k hk).1)
  go_wp2_with fail
  go_ret
  exact ⟨⟨_, rfl, by rw [List.length_append]; exact own3⟩, hb3⟩

theorem first_to {v : Value} {X Z L : List (Int × Int)} {x : Int × Int} {w : World} (hv : IsRw pr w w.heap.size v L) (hL : X ++ x :: Z = L) (hT : Topped X x Z) :
    Calls Try.prog 9 #[v] w fun e w' => e = .returned (.int .i64 (X.length : Nat)) ∧ Below w.heap.size w w' := by
  refine (first_raw hv (by rw [← hL]; simp; omega)).mono ?_
  rintro e w' ⟨⟨b, rfl, hb⟩, hk⟩
  have := hT.first
  rw [hL] at this
  rw [hb.one this]
  exact ⟨rfl, hk⟩

theorem Found.exists (L : List (Int × Int)) : ∃ X x Z fl, Found L X x Z fl ∧ fl = decide (0 < L.length) ∧ (X ++ Z).length = L.length - 1 := by
  by_cases h : L = []
  · subst h
    exact ⟨[], (0, 0), [], false, .inr ⟨rfl, rfl, rfl, rfl, rfl⟩, by simp, by simp⟩
  · obtain ⟨X, x, Z, rfl, hT⟩ := Topped.exists h
    exact ⟨X, x, Z, true, .inl ⟨rfl, rfl, hT⟩, by simp <;> omega, by simp⟩
theorem row_other {w : World} {base n size g o : Nat} {e : TypeId} {v u : Value} {xs : List Value} (h : w.ownsRow base e size v n xs) (hg : some g ≠ v.ownBlock) : (w.setCell ⟨g, o, none⟩ u).ownsRow base e size v n xs :=
  h.kept (row := some g) ⟨rfl, rfl, rfl, by simp [World.setCell], fun i _ hi => Below.heap_setCell _ _ _ i (fun e => hi (by rw [e]))⟩ (.inr hg.symm)

set_option maxRecDepth 100000 in
set_option maxHeartbeats 4000000 in
theorem ranked_any (w : World) : Calls Try.prog 7 #[] w fun e w' => e = .returned (.bool true) ∧ Below w.heap.size w w' := by
  have P1 := fun V => push_any (u := .agg #[.pointer none]) (l := []) (w := V) (1, 5) [(1, 5)] (IsT.nil V) ⟨by decide, by decide⟩ rfl (by decide)
  have P2 := fun V u (h : IsT V u [(1, 5)]) => push_any (2, 3) [(1, 5), (2, 3)] h ⟨by decide, by decide⟩ rfl (by decide)
  have P3 := fun V u (h : IsT V u [(1, 5), (2, 3)]) => top_any (X := [(1, 5)]) (x := (2, 3)) (Z := []) (fl := true) V h (.inl ⟨rfl, rfl, by simp, by simp⟩) (by decide)
  have hb : Below w.heap.size w (w.alloc (.cells #[.pointer none] 29)) := by ((repeat' (first | with_reducible exact Below.refl _ _ | with_reducible apply Below.setCell | with_reducible apply below_drewN | with_reducible apply Below.drew | with_reducible apply Below.alloc | with_reducible refine Below.trans ?_ (Below.mono (by assumption) ?_))) <;> (first | (simp; done) | (simp; omega) | omega))
  simp only at P1 P2 P3
  go_enter Try.func7, Try.ntmps7
  go_wp2_with (first
    | (go_at_call 8; (with_reducible refine (P1 _).mono ?_); clear P1; rintro e w1 ⟨⟨u1, rfl, h1⟩, K1⟩; have hb1 := hb.trans (K1.mono hb.size))
    | (go_at_call 8; (with_reducible refine (P2 _ _ h1).mono ?_); clear P2; rintro e w2 ⟨⟨u2, rfl, h2⟩, K2⟩; have hb2 := hb1.trans (K2.mono hb1.size))
    | (go_at_call 10; (with_reducible refine (P3 _ _ h2).mono ?_); clear P3; rintro e w3 ⟨rfl, K3⟩; have hb3 := hb2.trans (K3.mono hb2.size)))
  go_ret
  exact ⟨rfl, hb3.alloc hb3.size _⟩
end Go.Proofs.Ytfbeiimmcemniaa.pri
