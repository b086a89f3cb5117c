/- A part of the proof that ArrowMeasures returns true for every input: no further condition. -/
import Derived.Test.YtpdmgecbapmgdaaGreatGp2
set_option linter.unusedVariables false
set_option maxHeartbeats 8000000
set_option maxRecDepth 100000
section
namespace Go.Proofs.YtpdmgecbapmgdaaGreat
open Go.RowKit
section
variable (rs rl rw many : Int) (A : Option Addr) (n c k m : Nat) (x0 x1 : Int)
def ChkF : Nat → List Value → World → Prop
  | 0, vs, _ => vs = [stockV rs rl rw many A n c]
  | 1, vs, _ => vs = [.func (.func 56) #[stockV rs rl rw many A n c] #[]]
  | 2, vs, _ => vs = [stockV rs rl rw many A n c]
  | 3, vs, _ => vs = [.int .i64 k]
  | 4, vs, w => ∃ v, vs = [v] ∧ CheckIs v 0 w
  | 5, vs, _ => vs = [.int .i64 m]
  | 6, vs, w => ∃ v, vs = [v] ∧ CheckIs v 0 w
  | 7, vs, _ => vs = [spanV x0 x1]
  | 8, vs, w => ∃ v, vs = [v] ∧ CheckIs v (outZ x0 x1 0 9999) w
  | 9, vs, w => ∃ g : Nat, vs = [.slice (some ⟨g, 0, none⟩) 4 4] ∧ ∀ i, i < 4 → ∃ v, w.cell? ⟨g, i, none⟩ = some v ∧ CheckIs v (if i = 3 then outZ x0 x1 0 9999 else 0) w
  | 10, vs, _ => ∃ f : Int, vs = [.int .i64 f] ∧ (f = 0 ↔ outZ x0 x1 0 9999 = 0)
  | 11, vs, _ => ∃ f : Int, vs = [.int .i64 f] ∧ (f = 0 ↔ outZ x0 x1 0 9999 = 0)
  | _, _, _ => True
theorem ChkF.below {w w' : World} (hb : Below w.heap.size w w') (i : Nat) (vs : List Value) (h : ChkF rs rl rw many A n c k m x0 x1 i vs w) : ChkF rs rl rw many A n c k m x0 x1 i vs w' := by
  unfold ChkF at h ⊢
  split
  all_goals simp only at h
  all_goals first
    | exact h
    | (obtain ⟨v, h1, h2⟩ := h; exact ⟨v, h1, h2.below hb⟩)
    | (obtain ⟨g, h1, h2⟩ := h
       refine ⟨g, h1, fun i hi => ?_⟩
       obtain ⟨v, h3, h4⟩ := h2 i hi
       exact ⟨v, Below.old hb h3, h4.below hb⟩)
    | trivial
end
theorem CheckIs.shape {v : Value} {f : Int} {w : World} (h : CheckIs v f w) : ∃ (i : Nat) (x y : Array Value), v = .func (.func i) x y := by
  rcases h with ⟨i, sv, _, rfl, _⟩ | ⟨p, q, rfl, _⟩ | ⟨p, q, r, rfl, _⟩ | ⟨p, q, r, rfl, _⟩ <;> exact ⟨_, _, _, rfl⟩
def MeasOk (sh : Nat → Shaft) (k m : Nat) (x0 x1 : Int) : Prop := outZ x0 x1 0 9999 = 0 ∧ max (spanA (sh k) m) x0 ≤ min (spanB (sh k) m) x1
def HandsMeas (rs rl rw many : Int) (n : Nat) (sh : Nat → Shaft) (k m : Nat) (x0 x1 : Int) (W : World) (e : Ending) (w' : World) : Prop :=
  Below W.heap.size W w' ∧ ((∃ f : Int, f ≠ 0 ∧ ¬ MeasOk sh k m x0 x1 ∧ (outZ x0 x1 0 9999 = 0 → f = 10) ∧ e = .returned (.tuple #[stockV 0 0 0 0 none 0 0, .int .i64 f])) ∨
    (MeasOk sh k m x0 x1 ∧ ∃ (A' : Option Addr) (c' : Nat), e = .returned (.tuple #[stockV rs rl rw many A' n c', .int .i64 0]) ∧ n ≤ c' ∧ ShaftsAt w' A' n (putSh sh k m (max (spanA (sh k) m) x0) (min (spanB (sh k) m) x1))))
def ToF (s g n cap k m : Nat) : Nat → List Value → World → Prop
  | 0, vs, w => ∃ q : Nat, vs = [.slice (some ⟨q, 0, none⟩) 3 3] ∧ w.heap[q]? = some (.cells measuresV 119 (0, 0))
  | 1, vs, _ => vs = [.int .i64 m]
  | 2, vs, w => ∃ q : Nat, vs = [.pointer (some ⟨q, m * 2, none⟩)] ∧ w.heap[q]? = some (.cells measuresV 119 (0, 0))
  | 3, vs, w => ∃ q : Nat, vs = [.pointer (some ⟨q, m * 2, none⟩)] ∧ w.heap[q]? = some (.cells measuresV 119 (0, 0))
  | 4, vs, _ => vs = [.func (.func (105 + 2 * m)) #[] #[]]
  | 5, vs, _ => vs = [.pointer (some ⟨s, 4, none⟩)]
  | 6, vs, _ => vs = [.slice (some ⟨g, 0, none⟩) n cap]
  | 7, vs, _ => vs = [.int .i64 k]
  | 8, vs, _ => vs = [.pointer (some ⟨g, k * 7, none⟩)]
  | 9, vs, _ => vs = [.pointer (some ⟨g, k * 7 + (1 + 2 * m), none⟩)]
  | 10, vs, _ => vs = [.pointer (some ⟨g, k * 7 + (1 + 2 * m), none⟩)]
  | _, _, _ => True
theorem ToF.below (s g n cap k m : Nat) {w w' : World} (hb : Below w.heap.size w w') (i : Nat) (vs : List Value) (h : ToF s g n cap k m i vs w) : ToF s g n cap k m i vs w' := by
  unfold ToF at h ⊢
  split
  all_goals simp only at h
  all_goals first
    | exact h
    | (obtain ⟨q, h1, h2⟩ := h; exact ⟨q, h1, by rw [hb.block _ (Array.getElem?_eq_some_iff.1 h2).1]; exact h2⟩)
    | trivial
def comU (a b x y : Int) : Int := if max a x ≤ min b y then max a x else 0
def comV (a b x y : Int) : Int := if max a x ≤ min b y then min b y else 0
def comT (a b x y : Int) : Bool := decide (max a x ≤ min b y)
theorem SaysCommon.eq {a b x y : Int} {w w' : World} {e : Ending} (h : SaysCommon a b x y w e w') : e = .returned (.tuple #[spanV (comU a b x y) (comV a b x y), .bool (comT a b x y)]) ∧ Below w.heap.size w w' := by
  obtain ⟨hb, ⟨h, rfl⟩ | ⟨h, rfl⟩⟩ := h
  · exact ⟨by simp only [comU, comV, comT, if_pos h, decide_eq_true h], hb⟩
  · exact ⟨by simp only [comU, comV, comT, if_neg h, decide_eq_false h], hb⟩
def ComF (g P lo : Nat) (a b x y : Int) : Nat → List Value → World → Prop
  | 0, vs, _ => vs = [.pointer (some ⟨g, P, none⟩)]
  | 1, vs, _ => vs = [.pointer (some ⟨g, P, none⟩)]
  | 2, vs, _ => vs = [spanV a b]
  | 3, vs, _ => vs = [spanV x y]
  | 4, vs, _ => vs = [.tuple #[spanV (comU a b x y) (comV a b x y), .bool (comT a b x y)]]
  | 5, vs, _ => vs = [.tuple #[spanV (comU a b x y) (comV a b x y), .bool (comT a b x y)]]
  | 6, vs, _ => vs = [spanV (comU a b x y) (comV a b x y)]
  | 7, vs, _ => vs = [.bool (comT a b x y)]
  | 8, vs, w => ∃ p : Nat, vs = [.pointer (some ⟨p, 0, none⟩)] ∧ lo ≤ p ∧ ∃ u v, SpanAt w p u v
  | 9, vs, w => ∃ p : Nat, vs = [.pointer (some ⟨p, 0, none⟩)] ∧ lo ≤ p ∧ SpanAt w p (comU a b x y) (comV a b x y)
  | 10, vs, _ => vs = [.bool (comT a b x y)]
  | _, _, _ => True
theorem ComF.below (g P lo : Nat) (a b x y : Int) {w w' : World} (hb : Below w.heap.size w w') (i : Nat) (vs : List Value) (h : ComF g P lo a b x y i vs w) : ComF g P lo a b x y i vs w' := by
  unfold ComF at h ⊢
  split
  all_goals simp only at h
  all_goals first
    | exact h
    | (obtain ⟨p, h1, h2, u, v, h3⟩ := h; exact ⟨p, h1, h2, u, v, h3.below hb⟩)
    | (obtain ⟨p, h1, h2, h3⟩ := h; exact ⟨p, h1, h2, h3.below hb⟩)
    | trivial
theorem ComF.store (g P lo : Nat) (a b x y : Int) {w : World} {p : Nat} {u v : Int} (hp : SpanAt w p u v) (i : Nat) (hi : i ≠ 9) {vs : List Value} (hv : i = 8 → vs = [.pointer (some ⟨p, 0, none⟩)]) (s t : Int) (h : ComF g P lo a b x y i vs w) : ComF g P lo a b x y i vs ((w.setCell ⟨p, 0, none⟩ (.int .i64 s)).setCell ⟨p, 1, none⟩ (.int .i64 t)) := by
  unfold ComF at h ⊢
  split
  all_goals simp only at h
  all_goals first
    | exact h
    | exact absurd rfl hi
    | (obtain ⟨p', h1, h2, u, v, h3⟩ := h
       have e := hv rfl
       rw [h1] at e
       simp only [List.cons.injEq, Value.pointer.injEq, Option.some.injEq, Addr.mk.injEq, and_true] at e
       subst e
       exact ⟨p', h1, h2, s, t, hp.set s t⟩)
    | trivial
theorem Measure_any (rs rl rw many : Int) (A : Option Addr) (n c k m : Nat) (sh : Nat → Shaft) (x0 x1 : Int) (W : World) (hk : k < n) (hc : n ≤ c) (hm : m < 3) (hst : Hid (StockOk rs rl rw many n sh)) (hsh : Hid (ShaftsAt W A n sh)) :
    CallsIn Fc 0 Tryz.prog 30 #[stockV rs rl rw many A n c, .int .i64 k, .int .i64 m, spanV x0 x1] W (HandsMeas rs rl rw many n sh k m x0 x1 W) := by
  have hn := hst.out.count
  obtain ⟨b, o, rfl, _⟩ := hsh.out k hk
  gi_enter Tryz.func30, Tryz.ntmps30
  gi_wp2
  have hW4 : Hid (Below W.heap.size W ((((W.alloc (.cells #[.int .i64 rs, .int .i64 rl, .int .i64 rw, .int .i64 many, .slice (some ⟨b, o, none⟩) n c] 26)).alloc (.cells #[.int .i64 x0, .int .i64 x1] 52)).alloc (.cells #[.int .i64 0, .int .i64 0, .int .i64 0, .int .i64 0, .slice none 0 0] 26)).alloc (.cells #[.int .i64 rs, .int .i64 rl, .int .i64 rw, .int .i64 many, .slice (some ⟨b, o, none⟩) n c] 99))) := Lib.hid ((((((Below.refl _ _).alloc (Nat.le_refl _) _).alloc (by simp) _).alloc (by simp <;> omega) _).alloc (by simp <;> omega) _))
  have b0 : (((((W.alloc (.cells #[.int .i64 rs, .int .i64 rl, .int .i64 rw, .int .i64 many, .slice (some ⟨b, o, none⟩) n c] 26)).alloc (.cells #[.int .i64 x0, .int .i64 x1] 52)).alloc (.cells #[.int .i64 0, .int .i64 0, .int .i64 0, .int .i64 0, .slice none 0 0] 26)).alloc (.cells #[.int .i64 rs, .int .i64 rl, .int .i64 rw, .int .i64 many, .slice (some ⟨b, o, none⟩) n c] 99))).heap[W.heap.size]? = some (.cells #[.int .i64 rs, .int .i64 rl, .int .i64 rw, .int .i64 many, .slice (some ⟨b, o, none⟩) n c] 26 (0, 0)) := by rw [heap_alloc_old _ _ (by simp <;> omega), heap_alloc_old _ _ (by simp <;> omega), heap_alloc_old _ _ (by simp), heap_top _ _ rfl]
  have b1 : (((((W.alloc (.cells #[.int .i64 rs, .int .i64 rl, .int .i64 rw, .int .i64 many, .slice (some ⟨b, o, none⟩) n c] 26)).alloc (.cells #[.int .i64 x0, .int .i64 x1] 52)).alloc (.cells #[.int .i64 0, .int .i64 0, .int .i64 0, .int .i64 0, .slice none 0 0] 26)).alloc (.cells #[.int .i64 rs, .int .i64 rl, .int .i64 rw, .int .i64 many, .slice (some ⟨b, o, none⟩) n c] 99))).heap[W.heap.size + 1]? = some (.cells #[.int .i64 x0, .int .i64 x1] 52 (0, 0)) := by rw [heap_alloc_old _ _ (by simp <;> omega), heap_alloc_old _ _ (by simp), heap_top _ _ (by simp)]
  have b2 : (((((W.alloc (.cells #[.int .i64 rs, .int .i64 rl, .int .i64 rw, .int .i64 many, .slice (some ⟨b, o, none⟩) n c] 26)).alloc (.cells #[.int .i64 x0, .int .i64 x1] 52)).alloc (.cells #[.int .i64 0, .int .i64 0, .int .i64 0, .int .i64 0, .slice none 0 0] 26)).alloc (.cells #[.int .i64 rs, .int .i64 rl, .int .i64 rw, .int .i64 many, .slice (some ⟨b, o, none⟩) n c] 99))).heap[W.heap.size + 1 + 1]? = some (.cells #[.int .i64 0, .int .i64 0, .int .i64 0, .int .i64 0, .slice none 0 0] 26 (0, 0)) := by rw [heap_alloc_old _ _ (by simp), heap_top _ _ (by simp)]
  have b3 : (((((W.alloc (.cells #[.int .i64 rs, .int .i64 rl, .int .i64 rw, .int .i64 many, .slice (some ⟨b, o, none⟩) n c] 26)).alloc (.cells #[.int .i64 x0, .int .i64 x1] 52)).alloc (.cells #[.int .i64 0, .int .i64 0, .int .i64 0, .int .i64 0, .slice none 0 0] 26)).alloc (.cells #[.int .i64 rs, .int .i64 rl, .int .i64 rw, .int .i64 many, .slice (some ⟨b, o, none⟩) n c] 99))).heap[W.heap.size + 1 + 1 + 1]? = some (.cells #[.int .i64 rs, .int .i64 rl, .int .i64 rw, .int .i64 many, .slice (some ⟨b, o, none⟩) n c] 99 (0, 0)) := by rw [heap_top _ _ (by simp)]
  have hs4 : (((((W.alloc (.cells #[.int .i64 rs, .int .i64 rl, .int .i64 rw, .int .i64 many, .slice (some ⟨b, o, none⟩) n c] 26)).alloc (.cells #[.int .i64 x0, .int .i64 x1] 52)).alloc (.cells #[.int .i64 0, .int .i64 0, .int .i64 0, .int .i64 0, .slice none 0 0] 26)).alloc (.cells #[.int .i64 rs, .int .i64 rl, .int .i64 rw, .int .i64 many, .slice (some ⟨b, o, none⟩) n c] 99))).heap.size = W.heap.size + 4 := by simp
  generalize ((((W.alloc (.cells #[.int .i64 rs, .int .i64 rl, .int .i64 rw, .int .i64 many, .slice (some ⟨b, o, none⟩) n c] 26)).alloc (.cells #[.int .i64 x0, .int .i64 x1] 52)).alloc (.cells #[.int .i64 0, .int .i64 0, .int .i64 0, .int .i64 0, .slice none 0 0] 26)).alloc (.cells #[.int .i64 rs, .int .i64 rl, .int .i64 rw, .int .i64 many, .slice (some ⟨b, o, none⟩) n c] 99)) = W4 at *
  refine wpIn_cutR (M := fun a w => ∃ (x17 x18 x19 x20 x21 x22 x23 x24 x25 x26 x27 : Value) (f : Int), a = { tmps := #[stockV rs rl rw many (some ⟨b, o, none⟩) n c, .int .i64 k, .int .i64 m, spanV x0 x1, .pointer (some ⟨W.heap.size, 0, none⟩), undef, undef, .pointer (some ⟨W.heap.size + 1, 0, none⟩), .pointer (some ⟨W.heap.size + 1 + 1, 0, none⟩), .int .i64 0, .pointer (some ⟨W.heap.size + 1 + 1 + 1, 0, none⟩), .int .i64 f, undef, undef, undef, stockV rs rl rw many (some ⟨b, o, none⟩) n c, stockV rs rl rw many (some ⟨b, o, none⟩) n c, x17, x18, x19, x20, x21, x22, x23, x24, x25, x26, x27, undef, undef, undef, undef, undef, undef, undef, undef, undef, undef, undef, undef, undef, undef, undef, undef, undef, undef, undef, undef, undef, undef, undef, undef, undef, undef, undef, undef, undef, undef, undef, undef, undef], defers := [] } ∧ (f = 0 ↔ outZ x0 x1 0 9999 = 0) ∧ Below W4.heap.size W4 w) ?_ ?_
  · refine wpIn_region_F (sup := fun j => ([[17], [18], [19], [20], [21], [22], [23], [24], [25], [26], [27], [11]] : List (List Nat)).getD j []) (Ψ := ChkF rs rl rw many (some ⟨b, o, none⟩) n c k m x0 x1) (I := fun w => Below W4.heap.size W4 w) (z := 61) (by kernel_rfl) (by kernel_rfl) (by kernel_rfl) rfl rfl (Below.refl _ _).drew (fun listed a w j' hj hr => ?_) fun listed a w hj hall => ?_
    · have hjs' : j' < 12 := by
        obtain ⟨_, o', h3, _⟩ := mem_ready.1 hr
        exact (Array.getElem?_eq_some_iff.1 h3).1
      have hI := hj.inv
      obtain ⟨tm, df⟩ := a
      have hdf := hj.defers
      simp only at hdf
      subst hdf
      have hz' : ∀ {d : Nat}, d < 61 → d < (Act.mk tm []).tmps.size := fun h => by rw [hj.size]; exact h
      have g1 := at_slot hj.size (show Act.eval _ (.tmp 1) = .int .i64 k from (hj.old 1 (oldB_use (by kernel_rfl)))) (by omega)
      have g2 := at_slot hj.size (show Act.eval _ (.tmp 2) = .int .i64 m from (hj.old 2 (oldB_use (by kernel_rfl)))) (by omega)
      have g7 := at_slot hj.size (show Act.eval _ (.tmp 7) = .pointer (some ⟨W.heap.size + 1, 0, none⟩) from (hj.old 7 (oldB_use (by kernel_rfl)))) (by omega)
      have g10 := at_slot hj.size (show Act.eval _ (.tmp 10) = .pointer (some ⟨W.heap.size + 1 + 1 + 1, 0, none⟩) from (hj.old 10 (oldB_use (by kernel_rfl)))) (by omega)
      have y1 : w.heap[W.heap.size + 1]? = _ := (hI.block _ (by omega)).trans b1
      have y3 : w.heap[W.heap.size + 1 + 1 + 1]? = _ := (hI.block _ (by omega)).trans b3
      have E0 : w.cell? ⟨W.heap.size + 1 + 1 + 1, 0, none⟩ = some (.int .i64 rs) := by simp [World.cell?, y3]
      have E1 : w.cell? ⟨W.heap.size + 1 + 1 + 1, 1, none⟩ = some (.int .i64 rl) := by simp [World.cell?, y3]
      have E2 : w.cell? ⟨W.heap.size + 1 + 1 + 1, 2, none⟩ = some (.int .i64 rw) := by simp [World.cell?, y3]
      have E3 : w.cell? ⟨W.heap.size + 1 + 1 + 1, 3, none⟩ = some (.int .i64 many) := by simp [World.cell?, y3]
      have E4 : w.cell? ⟨W.heap.size + 1 + 1 + 1, 4, none⟩ = some (.slice (some ⟨b, o, none⟩) n c) := by simp [World.cell?, y3]
      have X0 : w.cell? ⟨W.heap.size + 1, 0, none⟩ = some (.int .i64 x0) := by simp [World.cell?, y1]
      have X1 : w.cell? ⟨W.heap.size + 1, 1, none⟩ = some (.int .i64 x1) := by simp [World.cell?, y1]
      clear y1 y3
      have hjs : j' = 0 ∨ j' = 1 ∨ j' = 2 ∨ j' = 3 ∨ j' = 4 ∨ j' = 5 ∨ j' = 6 ∨ j' = 7 ∨ j' = 8 ∨ j' = 9 ∨ j' = 10 ∨ j' = 11 := by omega
      rcases hjs with rfl | rfl | rfl | rfl | rfl | rfl | rfl | rfl | rfl | rfl | rfl | rfl
      · refine wpOpIn_step rfl fun K hK => ?_
        go_simp
        exact hK _ _ (RFNext.pure (d := 17) rfl hI (hz' (by omega)) rfl rfl)
      · have f17 := at_slot hj.size (show Act.eval _ (.tmp 17) = stockV rs rl rw many (some ⟨b, o, none⟩) n c from (List.cons.inj (hj.fact 0 (by decide) (dep hr (by kernel_rfl)))).1) (by omega)
        refine wpOpIn_step rfl fun K hK => ?_
        go_simp
        exact hK _ _ (RFNext.pure (d := 18) rfl hI (hz' (by omega)) rfl rfl)
      · refine wpOpIn_step rfl fun K hK => ?_
        go_simp
        exact hK _ _ (RFNext.pure (d := 19) rfl hI (hz' (by omega)) rfl rfl)
      · refine wpOpIn_step rfl fun K hK => ?_
        go_simp
        exact hK _ _ (RFNext.pure (d := 20) rfl hI (hz' (by omega)) rfl rfl)
      · have f19 := at_slot hj.size (show Act.eval _ (.tmp 19) = stockV rs rl rw many (some ⟨b, o, none⟩) n c from (List.cons.inj (hj.fact 2 (by decide) (dep hr (by kernel_rfl)))).1) (by omega)
        have f20 := at_slot hj.size (show Act.eval _ (.tmp 20) = .int .i64 k from (List.cons.inj (hj.fact 3 (by decide) (dep hr (by kernel_rfl)))).1) (by omega)
        refine wpOpIn_step rfl fun K hK => ?_
        go_simp
        refine (hasShaft_any rs rl rw many (some ⟨b, o, none⟩) n c k w).mono ?_
        rintro e w' ⟨sp, ip, rfl, hbox, hb'⟩
        exact hK _ _ (RFNext.grow (d := 21) (fun i vs h => ChkF.below _ _ _ _ _ _ _ _ _ _ _ hb' i vs h) rfl (hI.trans (hb'.mono hI.size)) (hz' (by omega)) rfl ⟨_, rfl, hbox.is hn hk⟩)
      · refine wpOpIn_step rfl fun K hK => ?_
        go_simp
        exact hK _ _ (RFNext.pure (d := 22) rfl hI (hz' (by omega)) rfl rfl)
      · have f22 := at_slot hj.size (show Act.eval _ (.tmp 22) = .int .i64 m from (List.cons.inj (hj.fact 5 (by decide) (dep hr (by kernel_rfl)))).1) (by omega)
        refine wpOpIn_step rfl fun K hK => ?_
        go_simp
        refine (limits_any m 0 2 w).mono ?_
        rintro e w' ⟨v, rfl, hl, hb'⟩
        exact hK _ _ (RFNext.grow (d := 23) (fun i vs h => ChkF.below _ _ _ _ _ _ _ _ _ _ _ hb' i vs h) rfl (hI.trans (hb'.mono hI.size)) (hz' (by omega)) rfl ⟨_, rfl, hl.is (by omega) (by omega)⟩)
      · refine wpOpIn_step rfl fun K hK => ?_
        go_simp
        exact hK _ _ (RFNext.pure (d := 24) rfl hI (hz' (by omega)) rfl rfl)
      · have f24 := at_slot hj.size (show Act.eval _ (.tmp 24) = spanV x0 x1 from (List.cons.inj (hj.fact 7 (by decide) (dep hr (by kernel_rfl)))).1) (by omega)
        refine wpOpIn_step rfl fun K hK => ?_
        go_simp
        refine (spanLimits_any x0 x1 0 9999 w).mono ?_
        rintro e w' ⟨v, rfl, hl, hb'⟩
        exact hK _ _ (RFNext.grow (d := 25) (fun i vs h => ChkF.below _ _ _ _ _ _ _ _ _ _ _ hb' i vs h) rfl (hI.trans (hb'.mono hI.size)) (hz' (by omega)) rfl ⟨_, rfl, hl.is⟩)
      · have f18 := at_slot hj.size (show Act.eval _ (.tmp 18) = .func (.func 56) #[stockV rs rl rw many (some ⟨b, o, none⟩) n c] #[] from (List.cons.inj (hj.fact 1 (by decide) (dep hr (by kernel_rfl)))).1) (by omega)
        obtain ⟨v21, g21, p21⟩ := hj.fact 4 (by decide) (dep hr (by kernel_rfl))
        have f21 := at_slot hj.size (show Act.eval _ (.tmp 21) = v21 from (List.cons.inj g21).1) (by omega)
        obtain ⟨v23, g23, p23⟩ := hj.fact 6 (by decide) (dep hr (by kernel_rfl))
        have f23 := at_slot hj.size (show Act.eval _ (.tmp 23) = v23 from (List.cons.inj g23).1) (by omega)
        obtain ⟨v25, g25, p25⟩ := hj.fact 8 (by decide) (dep hr (by kernel_rfl))
        have f25 := at_slot hj.size (show Act.eval _ (.tmp 25) = v25 from (List.cons.inj g25).1) (by omega)
        obtain ⟨i21, y21, z21, rfl⟩ := p21.shape
        obtain ⟨i23, y23, z23, rfl⟩ := p23.shape
        obtain ⟨i25, y25, z25, rfl⟩ := p25.shape
        refine wpOpIn_step rfl fun K hK => ?_
        go_simp
        have hb' : Below w.heap.size w (w.alloc (.cells #[.func (.func 56) #[stockV rs rl rw many (some ⟨b, o, none⟩) n c] #[], .func (.func i21) y21 z21, .func (.func i23) y23 z23, .func (.func i25) y25 z25] 101)) := (Below.refl _ _).alloc (Nat.le_refl _) _
        refine hK _ _ (RFNext.grow (d := 26) (fun i vs h => ChkF.below _ _ _ _ _ _ _ _ _ _ _ hb' i vs h) rfl (hI.trans (hb'.mono hI.size)) (hz' (by omega)) rfl ⟨w.heap.size, rfl, fun i hi => ?_⟩)
        have hi4 : i = 0 ∨ i = 1 ∨ i = 2 ∨ i = 3 := by omega
        rcases hi4 with rfl | rfl | rfl | rfl
        · exact ⟨_, by simp, .inl ⟨56, _, by simp, rfl, fun w' hw => check_ok rs rl rw many _ n c sh w' hc hst (Lib.hid (hsh.out.below ((hW4.out.trans ((hI.trans (hb'.mono hI.size)).mono hW4.out.size)).trans (hw.mono (by have := hW4.out.size; have := hI.size; simp; omega)))))⟩⟩
        · exact ⟨_, by simp, p21.below hb'⟩
        · exact ⟨_, by simp, p23.below hb'⟩
        · exact ⟨_, by simp, p25.below hb'⟩
      · obtain ⟨g, g26, hall⟩ := hj.fact 9 (by decide) (dep hr (by kernel_rfl))
        have f26 := at_slot hj.size (show Act.eval _ (.tmp 26) = .slice (some ⟨g, 0, none⟩) 4 4 from (List.cons.inj g26).1) (by omega)
        refine wpOpIn_step rfl fun K hK => ?_
        go_simp
        refine (firstFoul_any g 4 4 (fun i => if i = 3 then outZ x0 x1 0 9999 else 0) w (by omega) (Lib.hid hall)).mono ?_
        rintro e w' ⟨f, rfl, hf, hb'⟩
        have hz : f = 0 ↔ outZ x0 x1 0 9999 = 0 := by
          rw [hf]
          refine firstZ_zero.trans ⟨fun h => by simpa using h 3 (by omega), fun h i hi => ?_⟩
          split
          · exact h
          · rfl
        exact hK _ _ (RFNext.grow (d := 27) (fun i vs h => ChkF.below _ _ _ _ _ _ _ _ _ _ _ hb' i vs h) rfl (hI.trans (hb'.mono hI.size)) (hz' (by omega)) rfl ⟨f, rfl, hz⟩)
      · obtain ⟨f, g27, hf⟩ := hj.fact 10 (by decide) (dep hr (by kernel_rfl))
        have f27 := at_slot hj.size (show Act.eval _ (.tmp 27) = .int .i64 f from (List.cons.inj g27).1) (by omega)
        refine wpOpIn_step rfl fun K hK => ?_
        go_simp
        exact hK _ _ (RFNext.pure (d := 11) rfl hI (hz' (by omega)) rfl ⟨f, rfl, hf⟩)
    · obtain ⟨f, g11, hf⟩ := hall 11 (by decide)
      have e11 : a.eval (.tmp 11) = .int .i64 f := (List.cons.inj g11).1
      refine ⟨a.eval (.tmp 17), a.eval (.tmp 18), a.eval (.tmp 19), a.eval (.tmp 20), a.eval (.tmp 21), a.eval (.tmp 22), a.eval (.tmp 23), a.eval (.tmp 24), a.eval (.tmp 25), a.eval (.tmp 26), a.eval (.tmp 27), f, ?_, hf, hj.inv⟩
      have e := hj.act rfl [17, 18, 19, 20, 21, 22, 23, 24, 25, 26, 27, 11] (by kernel_rfl)
      simp only [List.map_cons, List.map_nil, List.foldl_cons, List.foldl_nil, e11] at e
      exact e.trans (by kernel_rfl)
  · rintro a w ⟨x17, x18, x19, x20, x21, x22, x23, x24, x25, x26, x27, f, rfl, hf, hb⟩
    have y0 : w.heap[W.heap.size]? = _ := (hb.block _ (by omega)).trans b0
    have y1 : w.heap[W.heap.size + 1]? = _ := (hb.block _ (by omega)).trans b1
    have y2 : w.heap[W.heap.size + 1 + 1]? = _ := (hb.block _ (by omega)).trans b2
    have ls : W.heap.size + 4 ≤ w.heap.size := hs4 ▸ hb.size
    have HB : Hid (Below W.heap.size W w) := Lib.hid (hW4.out.trans (hb.mono hW4.out.size))
    have HF := Lib.hid hf
    clear hb hf b0 b1 b2 b3 hs4 hW4
    by_cases h0 : f = 0
    · subst h0
      have HO : Hid (outZ x0 x1 0 9999 = 0) := Lib.hid (HF.out.1 rfl)
      have C4 : w.cell? ⟨W.heap.size, 4, none⟩ = some (.slice (some ⟨b, o, none⟩) n c) := by simp [World.cell?, y0]
      have Y0 := Lib.hid y0
      have Y1 := Lib.hid y1
      have Y2 := Lib.hid y2
      clear y0 y1 y2
      gi_wp2_with (gi_at_call 79; refine (Clone_any b o n c sh w hn (by omega) hc (Lib.hid (hsh.out.below HB.out))).mono ?_; rintro e w5 ⟨g, cap, rfl, hcap, hg0, hgz, hrow, hb5⟩
                   have y0 := (hb5.block _ (by omega)).trans Y0.out
                   have C4' : w5.cell? ⟨W.heap.size, 4, none⟩ = some (.slice (some ⟨b, o, none⟩) n c) := by simp [World.cell?, y0]
                   have z0 := frozen_no y0
                   have HB5 := Lib.hid hb5
                   have HR := Lib.hid hrow
                   have HZ := Lib.hid hgz
                   clear hb5 hrow hgz y0 C4)
      have hgs : W.heap.size ≠ g := by omega
      have y0 := (HB5.out.block _ (by omega)).trans Y0.out
      have y1 := (HB5.out.block _ (by omega)).trans Y1.out
      have y2 := (HB5.out.block _ (by omega)).trans Y2.out
      have ls5 := HB5.out.size
      have u0 : (w5.setCell ⟨W.heap.size, 4, none⟩ (.slice (some ⟨g, 0, none⟩) n cap)).heap[W.heap.size]? = some (.cells #[.int .i64 rs, .int .i64 rl, .int .i64 rw, .int .i64 many, .slice (some ⟨g, 0, none⟩) n cap] 26 (0, 0)) := by simp [World.setCell, Array.getElem?_modify, y0]
      have u1 : (w5.setCell ⟨W.heap.size, 4, none⟩ (.slice (some ⟨g, 0, none⟩) n cap)).heap[W.heap.size + 1]? = some (.cells #[.int .i64 x0, .int .i64 x1] 52 (0, 0)) := by simp [World.setCell, Array.getElem?_modify, y1]
      have u2 : (w5.setCell ⟨W.heap.size, 4, none⟩ (.slice (some ⟨g, 0, none⟩) n cap)).heap[W.heap.size + 1 + 1]? = some (.cells #[.int .i64 0, .int .i64 0, .int .i64 0, .int .i64 0, .slice none 0 0] 26 (0, 0)) := by simp [World.setCell, Array.getElem?_modify, y2]; intro h; omega
      have ur := shafts_far (j := 4) HR.out hgs (.slice (some ⟨g, 0, none⟩) n cap)
      have uz : ∀ j, (w5.setCell ⟨W.heap.size, 4, none⟩ (.slice (some ⟨g, 0, none⟩) n cap)).frozen? ⟨g, j, none⟩ = false := fun j => by have := HZ.out j; simpa using this
      have ub : Below W.heap.size W (w5.setCell ⟨W.heap.size, 4, none⟩ (.slice (some ⟨g, 0, none⟩) n cap)) := (HB.out.trans (HB5.out.mono HB.out.size)).setCell (Nat.le_refl _) _
      have us : W.heap.size + 4 ≤ (w5.setCell ⟨W.heap.size, 4, none⟩ (.slice (some ⟨g, 0, none⟩) n cap)).heap.size := by simp; omega
      generalize w5.setCell ⟨W.heap.size, 4, none⟩ (.slice (some ⟨g, 0, none⟩) n cap) = w6 at *
      clear y0 y1 y2 ls5 HB5 HR HZ Y0 Y1 Y2 C4' z0 HB
      have h3 : Hid (m = 0 ∨ m = 1 ∨ m = 2) := Lib.hid (by omega)
      refine wpIn_cutR (M := fun a w => ∃ x36 x38 x39 : Value, a = { tmps := #[stockV rs rl rw many (some ⟨b, o, none⟩) n c, .int .i64 k, .int .i64 m, spanV x0 x1, .pointer (some ⟨W.heap.size, 0, none⟩), undef, undef, .pointer (some ⟨W.heap.size + 1, 0, none⟩), .pointer (some ⟨W.heap.size + 1 + 1, 0, none⟩), .int .i64 0, .pointer (some ⟨W.heap.size + 1 + 1 + 1, 0, none⟩), .int .i64 0, .pointer (some ⟨g, k * 7 + (1 + 2 * m), none⟩), undef, undef, stockV rs rl rw many (some ⟨b, o, none⟩) n c, stockV rs rl rw many (some ⟨b, o, none⟩) n c, x17, x18, x19, x20, x21, x22, x23, x24, x25, x26, x27, .int .i64 0, .bool false, undef, undef, .pointer (some ⟨W.heap.size, 4, none⟩), .slice (some ⟨b, o, none⟩) n c, .slice (some ⟨g, 0, none⟩) n cap, .pointer (some ⟨W.heap.size, 4, none⟩), x36, .int .i64 m, x38, x39, .func (.func (105 + 2 * m)) #[] #[], .pointer (some ⟨W.heap.size, 4, none⟩), .slice (some ⟨g, 0, none⟩) n cap, .int .i64 k, .pointer (some ⟨g, k * 7, none⟩), .pointer (some ⟨g, k * 7 + (1 + 2 * m), none⟩), undef, undef, undef, undef, undef, undef, undef, undef, undef, undef, undef, undef, undef, undef, undef], defers := [] } ∧ Below w6.heap.size w6 w) ?_ ?_
      · refine wpIn_region_F (sup := fun j => ([[36], [37], [38], [39], [40], [41], [42], [43], [44], [45], [12]] : List (List Nat)).getD j []) (Ψ := ToF W.heap.size g n cap k m) (I := fun w => Below w6.heap.size w6 w) (z := 61) (by kernel_rfl) (by kernel_rfl) (by kernel_rfl) rfl rfl (Below.refl _ _).drew (fun listed a w j' hj hr => ?_) fun listed a w hj hall => ?_
        · have hjs' : j' < 11 := by
            obtain ⟨_, o', h3, _⟩ := mem_ready.1 hr
            exact (Array.getElem?_eq_some_iff.1 h3).1
          have hI := hj.inv
          obtain ⟨tm, df⟩ := a
          have hdf := hj.defers
          simp only at hdf
          subst hdf
          have hz' : ∀ {d : Nat}, d < 61 → d < (Act.mk tm []).tmps.size := fun h => by rw [hj.size]; exact h
          have g1 := at_slot hj.size (show Act.eval _ (.tmp 1) = .int .i64 k from (hj.old 1 (oldB_use (by kernel_rfl)))) (by omega)
          have g2 := at_slot hj.size (show Act.eval _ (.tmp 2) = .int .i64 m from (hj.old 2 (oldB_use (by kernel_rfl)))) (by omega)
          have g4 := at_slot hj.size (show Act.eval _ (.tmp 4) = .pointer (some ⟨W.heap.size, 0, none⟩) from (hj.old 4 (oldB_use (by kernel_rfl)))) (by omega)
          have y0 := (hI.block _ (by omega)).trans u0
          have E4 : w.cell? ⟨W.heap.size, 4, none⟩ = some (.slice (some ⟨g, 0, none⟩) n cap) := by simp [World.cell?, y0]
          clear y0
          have hjs : j' = 0 ∨ j' = 1 ∨ j' = 2 ∨ j' = 3 ∨ j' = 4 ∨ j' = 5 ∨ j' = 6 ∨ j' = 7 ∨ j' = 8 ∨ j' = 9 ∨ j' = 10 := by omega
          rcases hjs with rfl | rfl | rfl | rfl | rfl | rfl | rfl | rfl | rfl | rfl | rfl
          · refine wpOpIn_step rfl fun K hK => ?_
            go_simp
            refine (measures_any w).mono ?_
            rintro e w' ⟨rfl, rfl⟩
            have hb' : Below w.heap.size w (w.alloc (.cells measuresV 119)) := (Below.refl _ _).alloc (Nat.le_refl _) _
            exact hK _ _ (RFNext.grow (d := 36) (fun i vs h => ToF.below _ _ _ _ _ _ hb' i vs h) rfl (hI.trans (hb'.mono hI.size)) (hz' (by omega)) rfl ⟨w.heap.size, rfl, heap_new _ _⟩)
          · refine wpOpIn_step rfl fun K hK => ?_
            go_simp
            exact hK _ _ (RFNext.pure (d := 37) rfl hI (hz' (by omega)) rfl rfl)
          · obtain ⟨q, g36, hq⟩ := hj.fact 0 (by decide) (dep hr (by kernel_rfl))
            have f36 := at_slot hj.size (show Act.eval _ (.tmp 36) = .slice (some ⟨q, 0, none⟩) 3 3 from (List.cons.inj g36).1) (by omega)
            have f37 := at_slot hj.size (show Act.eval _ (.tmp 37) = .int .i64 m from (List.cons.inj (hj.fact 1 (by decide) (dep hr (by kernel_rfl)))).1) (by omega)
            have hmi : (m : Int) < 3 := by omega
            have hmn : (m : Int).toNat < 3 := by omega
            refine wpOpIn_step rfl fun K hK => ?_
            go_simp
            exact hK _ _ (RFNext.pure (d := 38) rfl hI (hz' (by omega)) rfl ⟨q, rfl, hq⟩)
          · obtain ⟨q, g38, hq⟩ := hj.fact 2 (by decide) (dep hr (by kernel_rfl))
            have f38 := at_slot hj.size (show Act.eval _ (.tmp 38) = .pointer (some ⟨q, m * 2, none⟩) from (List.cons.inj g38).1) (by omega)
            refine wpOpIn_step rfl fun K hK => ?_
            go_simp
            exact hK _ _ (RFNext.pure (d := 39) rfl hI (hz' (by omega)) rfl ⟨q, rfl, hq⟩)
          · obtain ⟨q, g39, hq⟩ := hj.fact 3 (by decide) (dep hr (by kernel_rfl))
            have f39 := at_slot hj.size (show Act.eval _ (.tmp 39) = .pointer (some ⟨q, m * 2, none⟩) from (List.cons.inj g39).1) (by omega)
            have hcell : w.cell? ⟨q, m * 2, none⟩ = some (.func (.func (105 + 2 * m)) #[] #[]) := by
              rcases h3.out with rfl | rfl | rfl <;> simp [World.cell?, hq, measuresV]
            refine wpOpIn_step rfl fun K hK => ?_
            go_simp
            exact hK _ _ (RFNext.pure (d := 40) rfl hI (hz' (by omega)) rfl rfl)
          · refine wpOpIn_step rfl fun K hK => ?_
            go_simp
            exact hK _ _ (RFNext.pure (d := 41) rfl hI (hz' (by omega)) rfl rfl)
          · have f41 := at_slot hj.size (show Act.eval _ (.tmp 41) = .pointer (some ⟨W.heap.size, 4, none⟩) from (List.cons.inj (hj.fact 5 (by decide) (dep hr (by kernel_rfl)))).1) (by omega)
            refine wpOpIn_step rfl fun K hK => ?_
            go_simp
            exact hK _ _ (RFNext.pure (d := 42) rfl hI (hz' (by omega)) rfl rfl)
          · refine wpOpIn_step rfl fun K hK => ?_
            go_simp
            exact hK _ _ (RFNext.pure (d := 43) rfl hI (hz' (by omega)) rfl rfl)
          · have f42 := at_slot hj.size (show Act.eval _ (.tmp 42) = .slice (some ⟨g, 0, none⟩) n cap from (List.cons.inj (hj.fact 6 (by decide) (dep hr (by kernel_rfl)))).1) (by omega)
            have f43 := at_slot hj.size (show Act.eval _ (.tmp 43) = .int .i64 k from (List.cons.inj (hj.fact 7 (by decide) (dep hr (by kernel_rfl)))).1) (by omega)
            refine wpOpIn_step rfl fun K hK => ?_
            go_simp
            exact hK _ _ (RFNext.pure (d := 44) rfl hI (hz' (by omega)) rfl rfl)
          · have f40 := at_slot hj.size (show Act.eval _ (.tmp 40) = .func (.func (105 + 2 * m)) #[] #[] from (List.cons.inj (hj.fact 4 (by decide) (dep hr (by kernel_rfl)))).1) (by omega)
            have f44 := at_slot hj.size (show Act.eval _ (.tmp 44) = .pointer (some ⟨g, k * 7, none⟩) from (List.cons.inj (hj.fact 8 (by decide) (dep hr (by kernel_rfl)))).1) (by omega)
            rcases h3.out with rfl | rfl | rfl
            · refine wpOpIn_step rfl fun K hK => ?_
              go_simp
              refine (span0_any g (k * 7) w).mono ?_
              rintro e w' ⟨rfl, rfl⟩
              exact hK _ _ (RFNext.pure (d := 45) rfl hI (hz' (by omega)) rfl rfl)
            · refine wpOpIn_step rfl fun K hK => ?_
              go_simp
              refine (span1_any g (k * 7) w).mono ?_
              rintro e w' ⟨rfl, rfl⟩
              exact hK _ _ (RFNext.pure (d := 45) rfl hI (hz' (by omega)) rfl rfl)
            · refine wpOpIn_step rfl fun K hK => ?_
              go_simp
              refine (span2_any g (k * 7) w).mono ?_
              rintro e w' ⟨rfl, rfl⟩
              exact hK _ _ (RFNext.pure (d := 45) rfl hI (hz' (by omega)) rfl rfl)
          · have f45 := at_slot hj.size (show Act.eval _ (.tmp 45) = .pointer (some ⟨g, k * 7 + (1 + 2 * m), none⟩) from (List.cons.inj (hj.fact 9 (by decide) (dep hr (by kernel_rfl)))).1) (by omega)
            refine wpOpIn_step rfl fun K hK => ?_
            go_simp
            exact hK _ _ (RFNext.pure (d := 12) rfl hI (hz' (by omega)) rfl rfl)
        · have e12 : a.eval (.tmp 12) = .pointer (some ⟨g, k * 7 + (1 + 2 * m), none⟩) := (List.cons.inj (hall 10 (by decide))).1
          have e37 : a.eval (.tmp 37) = .int .i64 m := (List.cons.inj (hall 1 (by decide))).1
          have e40 : a.eval (.tmp 40) = .func (.func (105 + 2 * m)) #[] #[] := (List.cons.inj (hall 4 (by decide))).1
          have e41 : a.eval (.tmp 41) = .pointer (some ⟨W.heap.size, 4, none⟩) := (List.cons.inj (hall 5 (by decide))).1
          have e42 : a.eval (.tmp 42) = .slice (some ⟨g, 0, none⟩) n cap := (List.cons.inj (hall 6 (by decide))).1
          have e43 : a.eval (.tmp 43) = .int .i64 k := (List.cons.inj (hall 7 (by decide))).1
          have e44 : a.eval (.tmp 44) = .pointer (some ⟨g, k * 7, none⟩) := (List.cons.inj (hall 8 (by decide))).1
          have e45 : a.eval (.tmp 45) = .pointer (some ⟨g, k * 7 + (1 + 2 * m), none⟩) := (List.cons.inj (hall 9 (by decide))).1
          refine ⟨a.eval (.tmp 36), a.eval (.tmp 38), a.eval (.tmp 39), ?_, hj.inv⟩
          have e := hj.act rfl [36, 37, 38, 39, 40, 41, 42, 43, 44, 45, 12] (by kernel_rfl)
          simp only [List.map_cons, List.map_nil, List.foldl_cons, List.foldl_nil, e12, e37, e40, e41, e42, e43, e44, e45] at e
          exact e.trans (by kernel_rfl)
      · rintro a w ⟨x36, x38, x39, rfl, hb⟩
        have hgl : g < w6.heap.size := by
          obtain ⟨g', o', e', hx⟩ := ur k hk
          cases e'
          exact hx.lt
        have v0 := (hb.block _ (by omega)).trans u0
        have v1 := (hb.block _ (by omega)).trans u1
        have v2 := (hb.block _ (by omega)).trans u2
        have vr := ur.below hb
        have vz : ∀ j, w.frozen? ⟨g, j, none⟩ = false := fun j => by
          have h := uz j
          simp only [World.frozen?] at h ⊢
          rw [hb.block _ hgl]
          exact h
        have vb := Lib.hid (ub.trans (hb.mono ub.size))
        have vs : W.heap.size + 4 ≤ w.heap.size := Nat.le_trans us hb.size
        have hgl : g < w.heap.size := Nat.lt_of_lt_of_le hgl hb.size
        clear u0 u1 u2 ur uz ub us hb
        have cP : w.cell? ⟨g, k * 7 + (1 + 2 * m), none⟩ = some (.int .i64 (spanA (sh k) m)) ∧ w.cell? ⟨g, k * 7 + (1 + 2 * m) + 1, none⟩ = some (.int .i64 (spanB (sh k) m)) := by
          obtain ⟨g', o', e', hx⟩ := vr k hk
          cases e'
          have q0 := hx.h1
          have q1 := hx.h2
          have q2 := hx.h3
          have q3 := hx.h4
          have q4 := hx.h5
          have q5 := hx.h6
          rw [Nat.zero_add] at q0 q1 q2 q3 q4 q5
          rcases h3.out with rfl | rfl | rfl
          · exact ⟨q0, q1⟩
          · exact ⟨q2, q3⟩
          · exact ⟨q4, q5⟩
        obtain ⟨cP0, cP1⟩ := cP
        obtain ⟨a1, ha1⟩ : ∃ a1, a1 = spanA (sh k) m := ⟨_, rfl⟩
        obtain ⟨b1, hb1⟩ : ∃ b1, b1 = spanB (sh k) m := ⟨_, rfl⟩
        rw [← ha1] at cP0
        rw [← hb1] at cP1
        have HA := Lib.hid ha1
        have HB := Lib.hid hb1
        clear ha1 hb1
        gi_wp2
        refine wpIn_cutR (M := fun a w' => ∃ p : Nat, a = { tmps := #[stockV rs rl rw many (some ⟨b, o, none⟩) n c, .int .i64 k, .int .i64 m, spanV x0 x1, .pointer (some ⟨W.heap.size, 0, none⟩), undef, undef, .pointer (some ⟨W.heap.size + 1, 0, none⟩), .pointer (some ⟨W.heap.size + 1 + 1, 0, none⟩), .int .i64 0, .pointer (some ⟨W.heap.size + 1 + 1 + 1, 0, none⟩), .int .i64 0, .pointer (some ⟨g, k * 7 + (1 + 2 * m), none⟩), .pointer (some ⟨p, 0, none⟩), .bool (comT a1 b1 x0 x1), stockV rs rl rw many (some ⟨b, o, none⟩) n c, stockV rs rl rw many (some ⟨b, o, none⟩) n c, x17, x18, x19, x20, x21, x22, x23, x24, x25, x26, x27, .int .i64 0, .bool false, undef, undef, .pointer (some ⟨W.heap.size, 4, none⟩), .slice (some ⟨b, o, none⟩) n c, .slice (some ⟨g, 0, none⟩) n cap, .pointer (some ⟨W.heap.size, 4, none⟩), x36, .int .i64 m, x38, x39, .func (.func (105 + 2 * m)) #[] #[], .pointer (some ⟨W.heap.size, 4, none⟩), .slice (some ⟨g, 0, none⟩) n cap, .int .i64 k, .pointer (some ⟨g, k * 7, none⟩), .pointer (some ⟨g, k * 7 + (1 + 2 * m), none⟩), .tuple #[spanV (comU a1 b1 x0 x1) (comV a1 b1 x0 x1), .bool (comT a1 b1 x0 x1)], .pointer (some ⟨g, k * 7 + (1 + 2 * m), none⟩), .pointer (some ⟨g, k * 7 + (1 + 2 * m), none⟩), spanV a1 b1, spanV x0 x1, .tuple #[spanV (comU a1 b1 x0 x1) (comV a1 b1 x0 x1), .bool (comT a1 b1 x0 x1)], spanV (comU a1 b1 x0 x1) (comV a1 b1 x0 x1), .bool (comT a1 b1 x0 x1), undef, undef, undef, undef, undef, undef, undef], defers := [] } ∧ w.heap.size ≤ p ∧ SpanAt w' p (comU a1 b1 x0 x1) (comV a1 b1 x0 x1) ∧ Below w.heap.size w w') ?_ ?_
        · refine wpIn_region_F (sup := fun j => ([[47], [48], [49], [50], [51], [46], [52], [53], [13], [13], [14]] : List (List Nat)).getD j []) (Ψ := ComF g (k * 7 + (1 + 2 * m)) w.heap.size a1 b1 x0 x1) (I := fun w' => Below w.heap.size w w') (z := 61) (by kernel_rfl) (by kernel_rfl) (by kernel_rfl) rfl rfl (Below.refl _ _).drew (fun listed a w' j' hj hr => ?_) fun listed a w' hj hall => ?_
          · have hjs' : j' < 11 := by
              obtain ⟨_, o', h3, _⟩ := mem_ready.1 hr
              exact (Array.getElem?_eq_some_iff.1 h3).1
            have hI := hj.inv
            obtain ⟨tm, df⟩ := a
            have hdf := hj.defers
            simp only at hdf
            subst hdf
            have hz' : ∀ {d : Nat}, d < 61 → d < (Act.mk tm []).tmps.size := fun h => by rw [hj.size]; exact h
            have g7 := at_slot hj.size (show Act.eval _ (.tmp 7) = .pointer (some ⟨W.heap.size + 1, 0, none⟩) from (hj.old 7 (oldB_use (by kernel_rfl)))) (by omega)
            have g12 := at_slot hj.size (show Act.eval _ (.tmp 12) = .pointer (some ⟨g, k * 7 + (1 + 2 * m), none⟩) from (hj.old 12 (oldB_use (by kernel_rfl)))) (by omega)
            have y1 := (hI.block _ (by omega)).trans v1
            have X0 : w'.cell? ⟨W.heap.size + 1, 0, none⟩ = some (.int .i64 x0) := by simp [World.cell?, y1]
            have X1 : w'.cell? ⟨W.heap.size + 1, 1, none⟩ = some (.int .i64 x1) := by simp [World.cell?, y1]
            have P0 := Below.old hI cP0
            have P1 := Below.old hI cP1
            clear y1
            have hjs : j' = 0 ∨ j' = 1 ∨ j' = 2 ∨ j' = 3 ∨ j' = 4 ∨ j' = 5 ∨ j' = 6 ∨ j' = 7 ∨ j' = 8 ∨ j' = 9 ∨ j' = 10 := by omega
            rcases hjs with rfl | rfl | rfl | rfl | rfl | rfl | rfl | rfl | rfl | rfl | rfl
            · refine wpOpIn_step rfl fun K hK => ?_
              go_simp
              exact hK _ _ (RFNext.pure (d := 47) rfl hI (hz' (by omega)) rfl rfl)
            · have f47 := at_slot hj.size (show Act.eval _ (.tmp 47) = .pointer (some ⟨g, k * 7 + (1 + 2 * m), none⟩) from (List.cons.inj (hj.fact 0 (by decide) (dep hr (by kernel_rfl)))).1) (by omega)
              refine wpOpIn_step rfl fun K hK => ?_
              go_simp
              exact hK _ _ (RFNext.pure (d := 48) rfl hI (hz' (by omega)) rfl rfl)
            · have f48 := at_slot hj.size (show Act.eval _ (.tmp 48) = .pointer (some ⟨g, k * 7 + (1 + 2 * m), none⟩) from (List.cons.inj (hj.fact 1 (by decide) (dep hr (by kernel_rfl)))).1) (by omega)
              refine wpOpIn_step rfl fun K hK => ?_
              go_simp
              exact hK _ _ (RFNext.pure (d := 49) rfl hI (hz' (by omega)) rfl rfl)
            · refine wpOpIn_step rfl fun K hK => ?_
              go_simp
              exact hK _ _ (RFNext.pure (d := 50) rfl hI (hz' (by omega)) rfl rfl)
            · have f49 := at_slot hj.size (show Act.eval _ (.tmp 49) = spanV a1 b1 from (List.cons.inj (hj.fact 2 (by decide) (dep hr (by kernel_rfl)))).1) (by omega)
              have f50 := at_slot hj.size (show Act.eval _ (.tmp 50) = spanV x0 x1 from (List.cons.inj (hj.fact 3 (by decide) (dep hr (by kernel_rfl)))).1) (by omega)
              refine wpOpIn_step rfl fun K hK => ?_
              go_simp
              refine (common_any a1 b1 x0 x1 w').mono ?_
              intro e w2 he
              obtain ⟨rfl, hb'⟩ := he.eq
              exact hK _ _ (RFNext.grow (d := 51) (fun i vs h => ComF.below _ _ _ _ _ _ _ hb' i vs h) rfl (hI.trans (hb'.mono hI.size)) (hz' (by omega)) rfl rfl)
            · have f51 := at_slot hj.size (show Act.eval _ (.tmp 51) = .tuple #[spanV (comU a1 b1 x0 x1) (comV a1 b1 x0 x1), .bool (comT a1 b1 x0 x1)] from (List.cons.inj (hj.fact 4 (by decide) (dep hr (by kernel_rfl)))).1) (by omega)
              refine wpOpIn_step rfl fun K hK => ?_
              go_simp
              exact hK _ _ (RFNext.pure (d := 46) rfl hI (hz' (by omega)) rfl rfl)
            · have f46 := at_slot hj.size (show Act.eval _ (.tmp 46) = .tuple #[spanV (comU a1 b1 x0 x1) (comV a1 b1 x0 x1), .bool (comT a1 b1 x0 x1)] from (List.cons.inj (hj.fact 5 (by decide) (dep hr (by kernel_rfl)))).1) (by omega)
              refine wpOpIn_step rfl fun K hK => ?_
              go_simp
              exact hK _ _ (RFNext.pure (d := 52) rfl hI (hz' (by omega)) rfl rfl)
            · have f46 := at_slot hj.size (show Act.eval _ (.tmp 46) = .tuple #[spanV (comU a1 b1 x0 x1) (comV a1 b1 x0 x1), .bool (comT a1 b1 x0 x1)] from (List.cons.inj (hj.fact 5 (by decide) (dep hr (by kernel_rfl)))).1) (by omega)
              refine wpOpIn_step rfl fun K hK => ?_
              go_simp
              exact hK _ _ (RFNext.pure (d := 53) rfl hI (hz' (by omega)) rfl rfl)
            · refine wpOpIn_step rfl fun K hK => ?_
              go_simp
              have hb' : Below w'.heap.size w' (w'.alloc (.cells #[.int .i64 0, .int .i64 0] 52)) := (Below.refl _ _).alloc (Nat.le_refl _) _
              exact hK _ _ (RFNext.grow (d := 13) (fun i vs h => ComF.below _ _ _ _ _ _ _ hb' i vs h) rfl (hI.trans (hb'.mono hI.size)) (hz' (by omega)) rfl ⟨w'.heap.size, rfl, hI.size, 0, 0, heap_new _ _⟩)
            · obtain ⟨p, g13, hlo, u, v, hp⟩ := hj.fact 8 (by decide) (dep hr (by kernel_rfl))
              have f13 := at_slot hj.size (show Act.eval _ (.tmp 13) = .pointer (some ⟨p, 0, none⟩) from (List.cons.inj g13).1) (by omega)
              have f52 := at_slot hj.size (show Act.eval _ (.tmp 52) = spanV (comU a1 b1 x0 x1) (comV a1 b1 x0 x1) from (List.cons.inj (hj.fact 6 (by decide) (dep hr (by kernel_rfl)))).1) (by omega)
              obtain ⟨cp, cq⟩ := hp.cell
              have fz0 := hp.frozen 0
              have fz1 := hp.frozen 1
              refine wpOpIn_step rfl fun K hK => ?_
              go_simp
              refine hK _ _ ⟨⟨undef, rfl⟩, (hI.setCell hlo _).setCell hlo _, fun i hi hne hl h => ComF.store _ _ _ _ _ _ _ hp i hne (fun e => by subst e; exact g13) _ _ h, p, g13, hlo, hp.set _ _⟩
            · have f53 := at_slot hj.size (show Act.eval _ (.tmp 53) = .bool (comT a1 b1 x0 x1) from (List.cons.inj (hj.fact 7 (by decide) (dep hr (by kernel_rfl)))).1) (by omega)
              refine wpOpIn_step rfl fun K hK => ?_
              go_simp
              exact hK _ _ (RFNext.pure (d := 14) rfl hI (hz' (by omega)) rfl rfl)
          · obtain ⟨p, g13, hlo, hp⟩ := hall 9 (by decide)
            have e13 : a.eval (.tmp 13) = .pointer (some ⟨p, 0, none⟩) := (List.cons.inj g13).1
            have e14 : a.eval (.tmp 14) = .bool (comT a1 b1 x0 x1) := (List.cons.inj (hall 10 (by decide))).1
            have e46 : a.eval (.tmp 46) = .tuple #[spanV (comU a1 b1 x0 x1) (comV a1 b1 x0 x1), .bool (comT a1 b1 x0 x1)] := (List.cons.inj (hall 5 (by decide))).1
            have e47 : a.eval (.tmp 47) = .pointer (some ⟨g, k * 7 + (1 + 2 * m), none⟩) := (List.cons.inj (hall 0 (by decide))).1
            have e48 : a.eval (.tmp 48) = .pointer (some ⟨g, k * 7 + (1 + 2 * m), none⟩) := (List.cons.inj (hall 1 (by decide))).1
            have e49 : a.eval (.tmp 49) = spanV a1 b1 := (List.cons.inj (hall 2 (by decide))).1
            have e50 : a.eval (.tmp 50) = spanV x0 x1 := (List.cons.inj (hall 3 (by decide))).1
            have e51 : a.eval (.tmp 51) = .tuple #[spanV (comU a1 b1 x0 x1) (comV a1 b1 x0 x1), .bool (comT a1 b1 x0 x1)] := (List.cons.inj (hall 4 (by decide))).1
            have e52 : a.eval (.tmp 52) = spanV (comU a1 b1 x0 x1) (comV a1 b1 x0 x1) := (List.cons.inj (hall 6 (by decide))).1
            have e53 : a.eval (.tmp 53) = .bool (comT a1 b1 x0 x1) := (List.cons.inj (hall 7 (by decide))).1
            refine ⟨p, ?_, hlo, hp, hj.inv⟩
            have e := hj.act rfl [47, 48, 49, 50, 51, 46, 52, 53, 13, 14] (by kernel_rfl)
            simp only [List.map_cons, List.map_nil, List.foldl_cons, List.foldl_nil, e13, e14, e46, e47, e48, e49, e50, e51, e52, e53] at e
            exact e.trans (by kernel_rfl)
        · rintro a w' ⟨p, rfl, hlo, hp, hb⟩
          have y0 := (hb.block _ (by omega)).trans v0
          have y2 := (hb.block _ (by omega)).trans v2
          have hgp : p ≠ g := by omega
          have vr' := Lib.hid (vr.below hb)
          have vz' : ∀ j, w'.frozen? ⟨g, j, none⟩ = false := fun j => by
            have h := vz j
            simp only [World.frozen?] at h ⊢
            rw [hb.block _ hgl]
            exact h
          have P0 := Below.old hb cP0
          have P1 := Below.old hb cP1
          have VB := Lib.hid (vb.out.trans (hb.mono vb.out.size))
          have e0 : w'.cell? ⟨W.heap.size + 1 + 1, 0, none⟩ = some (.int .i64 0) := by simp [World.cell?, y2]
          have e1 : w'.cell? ⟨W.heap.size + 1 + 1, 1, none⟩ = some (.int .i64 0) := by simp [World.cell?, y2]
          have e2 : w'.cell? ⟨W.heap.size + 1 + 1, 2, none⟩ = some (.int .i64 0) := by simp [World.cell?, y2]
          have e3 : w'.cell? ⟨W.heap.size + 1 + 1, 3, none⟩ = some (.int .i64 0) := by simp [World.cell?, y2]
          have e4 : w'.cell? ⟨W.heap.size + 1 + 1, 4, none⟩ = some (.slice none 0 0) := by simp [World.cell?, y2]
          have z2 := frozen_no y2
          have d0 : w'.cell? ⟨W.heap.size, 0, none⟩ = some (.int .i64 rs) := by simp [World.cell?, y0]
          have d1 : w'.cell? ⟨W.heap.size, 1, none⟩ = some (.int .i64 rl) := by simp [World.cell?, y0]
          have d2 : w'.cell? ⟨W.heap.size, 2, none⟩ = some (.int .i64 rw) := by simp [World.cell?, y0]
          have d3 : w'.cell? ⟨W.heap.size, 3, none⟩ = some (.int .i64 many) := by simp [World.cell?, y0]
          have d4 : w'.cell? ⟨W.heap.size, 4, none⟩ = some (.slice (some ⟨g, 0, none⟩) n cap) := by simp [World.cell?, y0]
          have hs1 : g ≠ W.heap.size + 1 + 1 := by omega
          have hs2 : g ≠ W.heap.size := by omega
          have hg0' : W.heap.size ≤ g := by omega
          clear y0 y2 v0 v1 v2 vr vz vb hb cP0 cP1 hlo vs ls
          have l2 : W.heap.size ≤ W.heap.size + 1 + 1 := by omega
          by_cases hcm : max a1 x0 ≤ min b1 x1
          · have hT : comT a1 b1 x0 x1 = true := decide_eq_true hcm
            have hU : comU a1 b1 x0 x1 = max a1 x0 := if_pos hcm
            have hV : comV a1 b1 x0 x1 = min b1 x1 := if_pos hcm
            have hOk : Hid (MeasOk sh k m x0 x1) := Lib.hid ⟨HO.out, by rw [← HA.out, ← HB.out]; exact hcm⟩
            have HUV : Hid (∃ u v, u = max a1 x0 ∧ v = min b1 x1 ∧ SpanAt w' p u v) := Lib.hid ⟨_, _, rfl, rfl, by rw [← hU, ← hV]; exact hp⟩
            simp only [hT, hU, hV]
            obtain ⟨u, v, hu, hv, hp⟩ := HUV.out
            rw [← hu, ← hv]
            have HU := Lib.hid hu
            have HV := Lib.hid hv
            obtain ⟨cp, cq⟩ := hp.cell
            clear hT hU hV hcm hu hv hp HUV
            gi_wp2
            refine bodyPost_ret (v := .tuple #[stockV rs rl rw many (some ⟨g, 0, none⟩) n cap, .int .i64 0]) (results_measure rfl rfl rfl (by go_simp) (by go_simp) (by go_simp) (by go_simp) (by go_simp)) rfl ?_
            rw [show k * 7 + (1 + 2 * m) + 1 = k * 7 + (2 + 2 * m) by omega]
            refine ⟨?_, .inr ⟨hOk.out, some ⟨g, 0, none⟩, cap, rfl, hcap, ?_⟩⟩
            · exact ((((((VB.out.setCell hg0' _).setCell hg0' _).setCell l2 _).setCell l2 _).setCell l2 _).setCell l2 _).setCell l2 _
            · have h1 := shafts_put vr'.out hk hm u v
              rw [HU.out, HV.out, HA.out, HB.out] at h1 ⊢
              exact shafts_far (shafts_far (shafts_far (shafts_far (shafts_far h1 hs1.symm _) hs1.symm _) hs1.symm _) hs1.symm _) hs1.symm _
          · have hT : comT a1 b1 x0 x1 = false := decide_eq_false hcm
            have hNo : Hid (¬ MeasOk sh k m x0 x1) := Lib.hid fun h => hcm (by rw [HA.out, HB.out]; exact h.2)
            simp only [hT]
            clear hT hcm hp
            gi_wp2
            refine bodyPost_ret (v := .tuple #[stockV 0 0 0 0 none 0 0, .int .i64 10]) (results_measure rfl rfl rfl (by go_simp) (by go_simp) (by go_simp) (by go_simp) (by go_simp)) rfl ?_
            refine ⟨?_, .inl ⟨10, by omega, hNo.out, fun _ => rfl, rfl⟩⟩
            exact ((((VB.out.setCell l2 _).setCell l2 _).setCell l2 _).setCell l2 _).setCell l2 _
    · have HN : Hid (¬ MeasOk sh k m x0 x1) := Lib.hid fun h => h0 (HF.out.2 h.1)
      have e0 : w.cell? ⟨W.heap.size + 1 + 1, 0, none⟩ = some (.int .i64 0) := by simp [World.cell?, y2]
      have e1 : w.cell? ⟨W.heap.size + 1 + 1, 1, none⟩ = some (.int .i64 0) := by simp [World.cell?, y2]
      have e2 : w.cell? ⟨W.heap.size + 1 + 1, 2, none⟩ = some (.int .i64 0) := by simp [World.cell?, y2]
      have e3 : w.cell? ⟨W.heap.size + 1 + 1, 3, none⟩ = some (.int .i64 0) := by simp [World.cell?, y2]
      have e4 : w.cell? ⟨W.heap.size + 1 + 1, 4, none⟩ = some (.slice none 0 0) := by simp [World.cell?, y2]
      have z2 := frozen_no y2
      clear y0 y1 y2
      gi_wp2
      refine bodyPost_ret (v := .tuple #[stockV 0 0 0 0 none 0 0, .int .i64 f]) (results_measure rfl rfl rfl (by go_simp) (by go_simp) (by go_simp) (by go_simp) (by go_simp)) rfl ?_
      refine ⟨?_, .inl ⟨f, h0, HN.out, fun h => absurd (HF.out.2 h) h0, rfl⟩⟩
      have l2 : W.heap.size ≤ W.heap.size + 1 + 1 := by omega
      exact ((((HB.out.setCell l2 _).setCell l2 _).setCell l2 _).setCell l2 _).setCell l2 _
end Go.Proofs.YtpdmgecbapmgdaaGreat
end
section
namespace Go.Proofs.YtpdmgecbapmgdaaGreat
open Go.RowKit
def limZ (n l m : Int) : Int := if l ≤ n ∧ n ≤ m then 0 else 1
theorem limits1_any (n l m : Int) (p q r : Nat) (w : World) (hp : w.cell? ⟨p, 0, none⟩ = some (.int .i64 n)) (hq : w.cell? ⟨q, 0, none⟩ = some (.int .i64 l)) (hr : w.cell? ⟨r, 0, none⟩ = some (.int .i64 m)) :
    CallsIn Fc 0 Tryz.prog 124 #[ptr p, ptr q, ptr r] w (SaysInt (limZ n l m) w) := by
  unfold limZ
  gi_enter Tryz.func124, Tryz.ntmps124
  by_cases h1 : n < l
  · rw [if_neg (by omega)]
    gi_wp2
    go_ret
    exact ⟨rfl, Below.refl _ _⟩
  · by_cases h3 : n > m
    · rw [if_neg (by omega)]
      gi_wp2
      go_ret
      exact ⟨rfl, Below.refl _ _⟩
    · rw [if_pos (by omega)]
      gi_wp2
      go_ret
      exact ⟨rfl, Below.refl _ _⟩
theorem Lim.exact {w : World} {v : Value} {n l m : Int} (h : Lim v n l m w) : CheckIs v (limZ n l m) w := by
  obtain ⟨p, q, r, rfl, hp, hq, hr⟩ := h
  exact .inr (.inr (.inl ⟨p, q, r, rfl, fun w' hb => limits1_any n l m p q r w' (Below.old hb hp.cell) (Below.old hb hq.cell) (Below.old hb hr.cell)⟩))
theorem checkCount_any (rs rl rw many : Int) (A : Option Addr) (n c : Nat) (W : World) (hn : n ≤ 20) :
    CallsIn Fc 0 Tryz.prog 97 #[stockV rs rl rw many A n c] W (SaysInt (if n ≤ 9 then 0 else 2) W) := by
  gi_enter Tryz.func97, Tryz.ntmps97
  by_cases h : n ≤ 9
  · rw [if_pos h]
    gi_wp2
    go_ret
    exact ⟨rfl, (Below.refl _ _).alloc (Nat.le_refl _) _⟩
  · rw [if_neg h]
    have h' : (9 : Int) < n := by omega
    gi_wp2
    go_ret
    exact ⟨rfl, (Below.refl _ _).alloc (Nat.le_refl _) _⟩
def SaysIf (p : Prop) (w : World) (e : Ending) (w' : World) : Prop := ∃ b : Bool, e = .returned (.bool b) ∧ (b = true ↔ p) ∧ w = w'
theorem isName2_any (s : ByteArray) (w : World) (hs : s.size ≤ 200) : CallsIn Fc 0 Tryz.prog 159 #[.string s] w (SaysIf (NameOk s) w) := by
  by_cases hsz : 1 ≤ s.size ∧ s.size ≤ 12
  · obtain ⟨hb1, hb2⟩ := hsz
    gi_enter Tryz.func159, Tryz.ntmps159
    gi_wp2
    gi_loop [16] (fun i => ∃ k : Nat, k ≤ s.size ∧ i = .int .i64 k ∧ ∀ (j : Nat) (h : j < s.size), j < k → letterB s[j] = true ∨ (j ≠ 0 ∧ digitB s[j] = true)) (fun i => s.size - (intOf i).toNat)
    case atStart => exact ⟨0, Nat.zero_le _, rfl, fun j _ h => by omega⟩
    case round =>
      obtain ⟨k, hk, rfl, hall⟩ := hrel
      have HA := Lib.hid hall
      clear hall
      by_cases hlt : k < s.size
      · by_cases hl : letterB s[k] = true
        · have hl' := letter_int hl
          obtain ⟨hl1, hl2⟩ := hl'
          have HL := Lib.hid hl
          clear hl
          by_cases hd1 : 48 ≤ (s[k].toNat : Int)
          · by_cases hd2 : (s[k].toNat : Int) ≤ 57
            · omega
            · gi_wp2
              go_round
              case rel => exact ⟨k + 1, by omega, by go_num, fun j h hj => by
                rcases Nat.lt_succ_iff_lt_or_eq.1 hj with hj | rfl
                · exact HA.out j h hj
                · exact .inl HL.out⟩
              case measure => simp [intOf]; omega
          · omega
        · have hl' : ¬ (97 ≤ (s[k].toNat : Int) ∧ (s[k].toNat : Int) ≤ 122) := fun h => hl (by simpa [letterB] using h)
          have HL := Lib.hid hl
          clear hl
          by_cases hd : digitB s[k] = true
          · have hd' := digit_int hd
            obtain ⟨hd1, hd2⟩ := hd'
            have HD := Lib.hid hd
            clear hd hl'
            have hl1 : ¬ 97 ≤ (s[k].toNat : Int) := by omega
            by_cases h0 : k = 0
            · subst h0
              have hno : ¬ NameOk s := fun h => HL.out (h.first hlt)
              have HN := Lib.hid hno
              clear hno
              gi_wp2
              go_ret
              exact ⟨false, rfl, ⟨fun h => absurd h (by decide), fun h => absurd h HN.out⟩, rfl⟩
            · have hk0 : ((k : Int) == 0) = false := by simp; omega
              gi_wp2
              go_round
              case rel => exact ⟨k + 1, by omega, by go_num, fun j h hj => by
                rcases Nat.lt_succ_iff_lt_or_eq.1 hj with hj | rfl
                · exact HA.out j h hj
                · exact .inr ⟨h0, HD.out⟩⟩
              case measure => simp [intOf]; omega
          · have hd' : ¬ (48 ≤ (s[k].toNat : Int) ∧ (s[k].toNat : Int) ≤ 57) := fun h => hd (by simpa [digitB] using h)
            have hno : ¬ NameOk s := fun h => by
              rcases h.rest k hlt with h | h
              · exact HL.out h
              · exact hd h
            have HN := Lib.hid hno
            clear hno hd
            by_cases hl1 : 97 ≤ (s[k].toNat : Int)
            · have hl2 : ¬ (s[k].toNat : Int) ≤ 122 := fun h => hl' ⟨hl1, h⟩
              have hd1 : 48 ≤ (s[k].toNat : Int) := by omega
              have hd2 : ¬ (s[k].toNat : Int) ≤ 57 := by omega
              clear hl' hd'
              gi_wp2
              all_goals
                go_ret
                exact ⟨false, rfl, ⟨fun h => absurd h (by decide), fun h => absurd h HN.out⟩, rfl⟩
            · by_cases hd1 : 48 ≤ (s[k].toNat : Int)
              · have hd2 : ¬ (s[k].toNat : Int) ≤ 57 := fun h => hd' ⟨hd1, h⟩
                clear hl' hd'
                gi_wp2
                all_goals
                  go_ret
                  exact ⟨false, rfl, ⟨fun h => absurd h (by decide), fun h => absurd h HN.out⟩, rfl⟩
              · clear hl' hd'
                gi_wp2
                all_goals
                  go_ret
                  exact ⟨false, rfl, ⟨fun h => absurd h (by decide), fun h => absurd h HN.out⟩, rfl⟩
      · gi_wp2
        go_ret
        exact ⟨true, rfl, ⟨fun _ => ⟨hb1, hb2, fun h => by
          rcases HA.out 0 h (by omega) with h | h
          · exact h
          · exact absurd rfl h.1, fun i h => by
          rcases HA.out i h (by omega) with h | h
          · exact .inl h
          · exact .inr h.2⟩, fun _ => rfl⟩, rfl⟩
  · have hno : ¬ NameOk s := fun h => hsz ⟨h.least, h.most⟩
    have HN := Lib.hid hno
    clear hno
    gi_enter Tryz.func159, Tryz.ntmps159
    by_cases h1 : s.size < 1
    · gi_wp2
      go_ret
      exact ⟨false, rfl, ⟨fun h => absurd h (by decide), fun h => absurd h HN.out⟩, rfl⟩
    · have h2 : 12 < s.size := by omega
      gi_wp2
      go_ret
      exact ⟨false, rfl, ⟨fun h => absurd h (by decide), fun h => absurd h HN.out⟩, rfl⟩
end Go.Proofs.YtpdmgecbapmgdaaGreat
end
section
namespace Go.Proofs.YtpdmgecbapmgdaaGreat
open Go.RowKit
def ruleF (rs rl rw many : Int) (j : Nat) : Int := if j = 3 then limZ many 2 4 else limZ (allowOf rs rl rw j) 0 9999
def ruleZ (rs rl rw many : Int) : Int := firstZ (ruleF rs rl rw many) 4
theorem limZ_zero {n l m : Int} : limZ n l m = 0 ↔ l ≤ n ∧ n ≤ m := by
  unfold limZ
  split
  · next h => exact ⟨fun _ => h, fun _ => rfl⟩
  · next h => exact ⟨fun h' => absurd h' (by decide), fun h' => absurd h' h⟩
theorem ruleZ_zero {rs rl rw many : Int} : ruleZ rs rl rw many = 0 ↔ RuleOk rs rl rw many := by
  unfold ruleZ
  rw [firstZ_zero]
  constructor
  · intro h
    have h0 := limZ_zero.1 (h 0 (by omega))
    have h1 := limZ_zero.1 (h 1 (by omega))
    have h2 := limZ_zero.1 (h 2 (by omega))
    have h3 := limZ_zero.1 (h 3 (by omega))
    exact ⟨h0.1, h0.2, h1.1, h1.2, h2.1, h2.2, h3.1, h3.2⟩
  · intro h k hk
    have h4 : k = 0 ∨ k = 1 ∨ k = 2 ∨ k = 3 := by omega
    rcases h4 with rfl | rfl | rfl | rfl
    · exact limZ_zero.2 ⟨h.s0, h.s1⟩
    · exact limZ_zero.2 ⟨h.l0, h.l1⟩
    · exact limZ_zero.2 ⟨h.w0, h.w1⟩
    · exact limZ_zero.2 ⟨h.m0, h.m1⟩
theorem limZ_one (n l m : Int) : limZ n l m = 0 ∨ limZ n l m = 1 := by
  unfold limZ
  split
  · exact .inl rfl
  · exact .inr rfl
theorem firstZ_one {F : Nat → Int} (h : ∀ k, F k = 0 ∨ F k = 1) : ∀ n, firstZ F n = 0 ∨ firstZ F n = 1
  | 0 => .inl rfl
  | n + 1 => by
    simp only [firstZ]
    split
    · exact h n
    · exact firstZ_one h n
theorem ruleZ_one (rs rl rw many : Int) : ruleZ rs rl rw many = 0 ∨ ruleZ rs rl rw many = 1 := firstZ_one (fun k => by unfold ruleF; split <;> exact limZ_one ..) 4
theorem checkRule_any (rs rl rw many : Int) (A : Option Addr) (n c : Nat) (W : World) :
    CallsIn Fc 0 Tryz.prog 96 #[.agg #[.int .i64 rs, .int .i64 rl, .int .i64 rw, .int .i64 many, .slice A n c]] W (SaysInt (ruleZ rs rl rw many) W) := by
  obtain ⟨i0, hi, hz0, hz1, hz2⟩ := info_parts i101
  have HI := Lib.hid hi
  have HZ0 := Lib.hid hz0
  have HZ1 := Lib.hid hz1
  have HZ2 := Lib.hid hz2
  clear hi hz0 hz1 hz2
  gi_enter Tryz.func96, Tryz.ntmps96
  gi_wp2_with (gi_at_call 65; refine (measures_any _).mono ?_; rintro e w' ⟨rfl, rfl⟩)
  gi_loopw [3, 8] (fun sl i wr => ∃ (k : Nat) (vs : List Value), k ≤ 3 ∧ i = .int .i64 k ∧ wr.ownsRow (W.heap.size + 2) 101 1 sl k vs ∧ (∀ j, j < k → ∃ v, vs[j]? = some v ∧ Lim v (allowOf rs rl rw j) 0 9999 wr) ∧
      Below (W.heap.size + 2) ((W.alloc (.cells #[.int .i64 rs, .int .i64 rl, .int .i64 rw, .int .i64 many, .slice A n c] 99)).alloc (.cells measuresV 119)) wr) (fun _ i _ => 3 - (intOf i).toNat)
  case atStart => exact ⟨0, [], by omega, rfl, ⟨rfl, .inl ⟨rfl, rfl⟩⟩, (fun j h => absurd h (by omega)), Below.refl _ _⟩
  case round =>
    obtain ⟨k, vs, hk, rfl, hown, hvs, hb⟩ := hrel
    have c0 : wr.cell? ⟨W.heap.size, 0, none⟩ = some (.int .i64 rs) := by rw [hb.cell (by simp)]; go_simp
    have c1 : wr.cell? ⟨W.heap.size, 1, none⟩ = some (.int .i64 rl) := by rw [hb.cell (by simp)]; go_simp
    have c2 : wr.cell? ⟨W.heap.size, 2, none⟩ = some (.int .i64 rw) := by rw [hb.cell (by simp)]; go_simp
    have c3 : wr.cell? ⟨W.heap.size, 3, none⟩ = some (.int .i64 many) := by rw [hb.cell (by simp)]; go_simp
    have m0 : wr.cell? ⟨W.heap.size + 1, 0, none⟩ = some (.func (.func 105) #[] #[]) := by rw [hb.cell (by simp)]; simp [measuresV]
    have m1 : wr.cell? ⟨W.heap.size + 1, 1, none⟩ = some (.func (.func 106) #[] #[]) := by rw [hb.cell (by simp)]; simp [measuresV]
    have m2 : wr.cell? ⟨W.heap.size + 1, 2, none⟩ = some (.func (.func 107) #[] #[]) := by rw [hb.cell (by simp)]; simp [measuresV]
    have m3 : wr.cell? ⟨W.heap.size + 1, 3, none⟩ = some (.func (.func 108) #[] #[]) := by rw [hb.cell (by simp)]; simp [measuresV]
    have m4 : wr.cell? ⟨W.heap.size + 1, 4, none⟩ = some (.func (.func 109) #[] #[]) := by rw [hb.cell (by simp)]; simp [measuresV]
    have m5 : wr.cell? ⟨W.heap.size + 1, 5, none⟩ = some (.func (.func 110) #[] #[]) := by rw [hb.cell (by simp)]; simp [measuresV]
    have hz1 : W.heap.size + 1 < wr.heap.size := by have := hb.size; simp at this; omega
    have hz0 : W.heap.size < wr.heap.size := by omega
    have HB := Lib.hid hb
    have HV := Lib.hid hvs
    have HO := Lib.hid hown
    clear hb hvs hown
    by_cases hlt : k < 3
    · have h3 : k = 0 ∨ k = 1 ∨ k = 2 := by omega
      rcases h3 with rfl | rfl | rfl
      · gi_wp2_with (first
            | (gi_at_call 106; refine (allow0_any _ _ _ _ _).mono ?_; rintro e w2 ⟨rfl, hb2⟩)
            | (gi_at_call 108; refine (allow1_any _ _ _ _ _).mono ?_; rintro e w2 ⟨rfl, hb2⟩)
            | (gi_at_call 110; refine (allow2_any _ _ _ _ _).mono ?_; rintro e w2 ⟨rfl, hb2⟩)
            | (gi_at_call 77; refine (limits_any _ _ _ _).mono ?_; rintro e w3 ⟨lv, rfl, ⟨p, q, r, rfl, hp, hq, hr3⟩, hb3⟩)
            | (gi_at_builtin; refine wpListIn_append_own _ rfl _ _ 151 rfl (W.heap.size + 2) 101 i0 .nilFunc 1 8 u151 HI.out HZ0.out HZ1.out HZ2.out rfl (by decide) _ _ _ rfl ((own_below (own_below ((HO.out).alloc _) hb2) hb3).alloc _) ⟨w3.heap.size, 0, none⟩ 1 1 [.func (.func 124) #[] #[ptr p, ptr q, ptr r]] rfl rfl (cell_one_new _ _ _) (by simp [Value.oneCell']) (by simp [maxLen]) (by decide) (by have := hb2.size; have := hb3.size; simp at *; omega) ?_; intro v' w4 hown4 hg4 hnil4))
        have hx := (own_below (own_below ((HO.out).alloc (.cells #[.func (.func 105) #[] #[], .func (.func 106) #[] #[]] 119)) hb2) hb3).alloc (.cells #[.func (.func 124) #[] #[ptr p, ptr q, ptr r]] 101)
        have hs2 := hb2.size
        have hs3 := hb3.size
        simp at hs2 hs3
        go_roundw
        case rel =>
          refine ⟨0 + 1, vs ++ [.func (.func 124) #[] #[ptr p, ptr q, ptr r]], by omega, by first | rfl | go_num, hown4, vs_step HO.out.1 (fun j hj => ?_) ?_, ?_⟩
          · obtain ⟨v, h1, h2⟩ := HV.out j hj
            exact ⟨v, h1, ((((h2.alloc _).below hb2).below hb3).alloc _).grown hg4 (own_elem hx)⟩
          · exact (Lim.alloc ⟨p, q, r, rfl, hp, hq, hr3⟩ _).grown hg4 (own_elem hx)
          · exact (((((HB.out.alloc (by omega) _).trans (hb2.mono (by simp; omega))).trans (hb3.mono (by omega))).alloc (by omega) _).grown hg4 (by simp; omega) (fun g hg => (hx.lt g hg).1))
        case measure => simp [intOf]
      · gi_wp2_with (first
            | (gi_at_call 106; refine (allow0_any _ _ _ _ _).mono ?_; rintro e w2 ⟨rfl, hb2⟩)
            | (gi_at_call 108; refine (allow1_any _ _ _ _ _).mono ?_; rintro e w2 ⟨rfl, hb2⟩)
            | (gi_at_call 110; refine (allow2_any _ _ _ _ _).mono ?_; rintro e w2 ⟨rfl, hb2⟩)
            | (gi_at_call 77; refine (limits_any _ _ _ _).mono ?_; rintro e w3 ⟨lv, rfl, ⟨p, q, r, rfl, hp, hq, hr3⟩, hb3⟩)
            | (gi_at_builtin; refine wpListIn_append_own _ rfl _ _ 151 rfl (W.heap.size + 2) 101 i0 .nilFunc 1 8 u151 HI.out HZ0.out HZ1.out HZ2.out rfl (by decide) _ _ _ rfl ((own_below (own_below ((HO.out).alloc _) hb2) hb3).alloc _) ⟨w3.heap.size, 0, none⟩ 1 1 [.func (.func 124) #[] #[ptr p, ptr q, ptr r]] rfl rfl (cell_one_new _ _ _) (by simp [Value.oneCell']) (by simp [maxLen]) (by decide) (by have := hb2.size; have := hb3.size; simp at *; omega) ?_; intro v' w4 hown4 hg4 hnil4))
        have hx := (own_below (own_below ((HO.out).alloc (.cells #[.func (.func 107) #[] #[], .func (.func 108) #[] #[]] 119)) hb2) hb3).alloc (.cells #[.func (.func 124) #[] #[ptr p, ptr q, ptr r]] 101)
        have hs2 := hb2.size
        have hs3 := hb3.size
        simp at hs2 hs3
        go_roundw
        case rel =>
          refine ⟨1 + 1, vs ++ [.func (.func 124) #[] #[ptr p, ptr q, ptr r]], by omega, by first | rfl | go_num, hown4, vs_step HO.out.1 (fun j hj => ?_) ?_, ?_⟩
          · obtain ⟨v, h1, h2⟩ := HV.out j hj
            exact ⟨v, h1, ((((h2.alloc _).below hb2).below hb3).alloc _).grown hg4 (own_elem hx)⟩
          · exact (Lim.alloc ⟨p, q, r, rfl, hp, hq, hr3⟩ _).grown hg4 (own_elem hx)
          · exact (((((HB.out.alloc (by omega) _).trans (hb2.mono (by simp; omega))).trans (hb3.mono (by omega))).alloc (by omega) _).grown hg4 (by simp; omega) (fun g hg => (hx.lt g hg).1))
        case measure => simp [intOf]
      · gi_wp2_with (first
            | (gi_at_call 106; refine (allow0_any _ _ _ _ _).mono ?_; rintro e w2 ⟨rfl, hb2⟩)
            | (gi_at_call 108; refine (allow1_any _ _ _ _ _).mono ?_; rintro e w2 ⟨rfl, hb2⟩)
            | (gi_at_call 110; refine (allow2_any _ _ _ _ _).mono ?_; rintro e w2 ⟨rfl, hb2⟩)
            | (gi_at_call 77; refine (limits_any _ _ _ _).mono ?_; rintro e w3 ⟨lv, rfl, ⟨p, q, r, rfl, hp, hq, hr3⟩, hb3⟩)
            | (gi_at_builtin; refine wpListIn_append_own _ rfl _ _ 151 rfl (W.heap.size + 2) 101 i0 .nilFunc 1 8 u151 HI.out HZ0.out HZ1.out HZ2.out rfl (by decide) _ _ _ rfl ((own_below (own_below ((HO.out).alloc _) hb2) hb3).alloc _) ⟨w3.heap.size, 0, none⟩ 1 1 [.func (.func 124) #[] #[ptr p, ptr q, ptr r]] rfl rfl (cell_one_new _ _ _) (by simp [Value.oneCell']) (by simp [maxLen]) (by decide) (by have := hb2.size; have := hb3.size; simp at *; omega) ?_; intro v' w4 hown4 hg4 hnil4))
        have hx := (own_below (own_below ((HO.out).alloc (.cells #[.func (.func 109) #[] #[], .func (.func 110) #[] #[]] 119)) hb2) hb3).alloc (.cells #[.func (.func 124) #[] #[ptr p, ptr q, ptr r]] 101)
        have hs2 := hb2.size
        have hs3 := hb3.size
        simp at hs2 hs3
        go_roundw
        case rel =>
          refine ⟨2 + 1, vs ++ [.func (.func 124) #[] #[ptr p, ptr q, ptr r]], by omega, by first | rfl | go_num, hown4, vs_step HO.out.1 (fun j hj => ?_) ?_, ?_⟩
          · obtain ⟨v, h1, h2⟩ := HV.out j hj
            exact ⟨v, h1, ((((h2.alloc _).below hb2).below hb3).alloc _).grown hg4 (own_elem hx)⟩
          · exact (Lim.alloc ⟨p, q, r, rfl, hp, hq, hr3⟩ _).grown hg4 (own_elem hx)
          · exact (((((HB.out.alloc (by omega) _).trans (hb2.mono (by simp; omega))).trans (hb3.mono (by omega))).alloc (by omega) _).grown hg4 (by simp; omega) (fun g hg => (hx.lt g hg).1))
        case measure => simp [intOf]
    · obtain rfl : k = 3 := by omega
      gi_wp2_with (first
        | (gi_at_call 77; refine (limits_any _ _ _ _).mono ?_; rintro e w3 ⟨lv, rfl, ⟨p, q, r, rfl, hp, hq, hr3⟩, hb3⟩)
        | (gi_at_builtin; refine wpListIn_append_own _ rfl _ _ 151 rfl (W.heap.size + 2) 101 i0 .nilFunc 1 8 u151 HI.out HZ0.out HZ1.out HZ2.out rfl (by decide) _ _ _ rfl ((own_below (HO.out) hb3).alloc _) ⟨w3.heap.size, 0, none⟩ 1 1 [.func (.func 124) #[] #[ptr p, ptr q, ptr r]] rfl rfl (cell_one_new _ _ _) (by simp [Value.oneCell']) (by simp [maxLen]) (by decide) (by have := hb3.size; simp at *; omega) ?_; intro v' w4 hown4 hg4 hnil4)
        | fail)
      have hx := (own_below (HO.out) hb3).alloc (.cells #[.func (.func 124) #[] #[ptr p, ptr q, ptr r]] 101)
      have hs3 := hb3.size
      obtain ⟨g, cap, rfl, hg1, hg2⟩ := hown4.form (by omega)
      have hlims : ∀ j, j < 3 + 1 → ∃ v, (vs ++ [.func (.func 124) #[] #[ptr p, ptr q, ptr r]])[j]? = some v ∧ CheckIs v (ruleF rs rl rw many j) w4 :=
        vs_step HO.out.1 (fun j hj => by
          obtain ⟨v, h1, h2⟩ := HV.out j hj
          refine ⟨v, h1, ?_⟩
          rw [show ruleF rs rl rw many j = limZ (allowOf rs rl rw j) 0 9999 from if_neg (by omega)]
          exact (((h2.below hb3).alloc _).grown hg4 (own_elem hx)).exact)
          ((Lim.alloc ⟨p, q, r, rfl, hp, hq, hr3⟩ _).grown hg4 (own_elem hx)).exact
      have hB4 : Below W.heap.size W w4 :=
        (((((Below.refl W.heap.size W).alloc (Nat.le_refl _) _).alloc (by simp) _).trans (HB.out.mono (by omega))).trans (hb3.mono (by omega))).alloc (by omega) _ |>.grown hg4 (by simp; omega) (fun g hg => by have := (hx.lt g hg).1; omega)
      refine (firstFoul_any g (3 + 1) cap (ruleF rs rl rw many) w4 (by omega) (Lib.hid fun j hj => ?_)).mono ?_
      · obtain ⟨v, h1, h2⟩ := hlims j hj
        exact ⟨v, by rw [hown4.cellAt j (by omega)]; exact h1, h2⟩
      · rintro e w5 ⟨f, rfl, hf, hb5⟩
        subst hf
        gi_wp2
        go_ret
        exact ⟨rfl, hB4.trans (hb5.mono hB4.size)⟩
end Go.Proofs.YtpdmgecbapmgdaaGreat
end
section
namespace Go.Proofs.YtpdmgecbapmgdaaGreat
open Go.RowKit
theorem indexFunc_no20 (A : Option Addr) (n m c : Nat) (sh : Nat → Shaft) (q : Nat) (t : ByteArray) (W : World) (hn : m ≤ 20) (hmn : m ≤ n) (hsh : Hid (ShaftsAt W A n sh)) (hq : Hid (W.cell? ⟨q, 0, none⟩ = some (.string t)))
    (hne : Hid (∀ k, k < m → ((sh k).name.toList == t.toList) = false)) :
    CallsIn Fc 0 Tryz.prog 172 #[.slice A m c, .func (.func 160) #[] #[ptr q]] W (SaysInt (-1) W) := by
  gi_enter Tryz.func172, Tryz.ntmps172
  gi_wp2
  gi_loopw [8] (fun i wr => ∃ k : Nat, k ≤ m ∧ i = .int .i64 k ∧ Below W.heap.size W wr) (fun i _ => m - (intOf i).toNat)
  case atStart => exact ⟨0, Nat.zero_le _, rfl, Below.refl _ _⟩
  case round =>
    obtain ⟨k, hk, rfl, hb⟩ := hrel
    by_cases hlt : k < m
    · obtain ⟨b, o, rfl, hx⟩ := hsh.out k (by omega)
      obtain ⟨e0, e1, e2, e3, e4, e5, e6⟩ := hx.below hb
      have HQ := Lib.hid (Below.old hb hq.out)
      gi_wp2_with (gi_at_call 160; refine (same_no _ _ t _ HQ.out (hne.out k hlt)).mono ?_; rintro e w' ⟨rfl, hb1⟩)
      go_roundw
      case rel => exact ⟨k + 1, by omega, by go_num, hb.trans (hb1.mono hb.size)⟩
      case measure => simp [intOf]; omega
    · gi_wp2
      go_ret
      exact ⟨rfl, hb⟩
theorem contains_no20 (A : Option Addr) (n m c : Nat) (sh : Nat → Shaft) (q : Nat) (t : ByteArray) (W : World) (hn : m ≤ 20) (hmn : m ≤ n) (hsh : Hid (ShaftsAt W A n sh)) (hq : Hid (W.cell? ⟨q, 0, none⟩ = some (.string t)))
    (hne : Hid (∀ k, k < m → ((sh k).name.toList == t.toList) = false)) :
    CallsIn Fc 0 Tryz.prog 161 #[.slice A m c, .func (.func 160) #[] #[ptr q]] W (SaysBool false W) := by
  gi_enter Tryz.func161, Tryz.ntmps161
  gi_wp2_with (gi_at_call 172; refine (indexFunc_no20 A n m c sh q t _ hn hmn hsh hq hne).mono ?_; rintro e w' ⟨rfl, hb1⟩)
  go_ret
  exact ⟨rfl, hb1⟩
theorem same_yes (x : Shaft) (q : Nat) (t : ByteArray) (w : World) (hq : w.cell? ⟨q, 0, none⟩ = some (.string t)) (hne : (x.name.toList == t.toList) = true) :
    CallsIn Fc 0 Tryz.prog 160 #[shaftV x, ptr q] w (SaysBool true w) := by
  have hql : q < w.heap.size := World.block_lt_of_cell? w _ hq
  gi_enter Tryz.func160, Tryz.ntmps160
  gi_wp2
  go_ret
  exact ⟨rfl, (Below.refl _ _).alloc (Nat.le_refl _) _⟩
theorem indexFunc_yes (A : Option Addr) (n m c j0 : Nat) (sh : Nat → Shaft) (q : Nat) (t : ByteArray) (W : World) (hn : m ≤ 20) (hmn : m ≤ n) (hsh : Hid (ShaftsAt W A n sh)) (hq : Hid (W.cell? ⟨q, 0, none⟩ = some (.string t)))
    (hj0 : j0 < m) (hy : Hid (((sh j0).name.toList == t.toList) = true)) (hne : Hid (∀ k, k < j0 → ((sh k).name.toList == t.toList) = false)) :
    CallsIn Fc 0 Tryz.prog 172 #[.slice A m c, .func (.func 160) #[] #[ptr q]] W (SaysInt j0 W) := by
  gi_enter Tryz.func172, Tryz.ntmps172
  gi_wp2
  gi_loopw [8] (fun i wr => ∃ k : Nat, k ≤ j0 ∧ i = .int .i64 k ∧ Below W.heap.size W wr) (fun i _ => m - (intOf i).toNat)
  case atStart => exact ⟨0, Nat.zero_le _, rfl, Below.refl _ _⟩
  case round =>
    obtain ⟨k, hk, rfl, hb⟩ := hrel
    have hkm : k < m := by omega
    obtain ⟨b, o, rfl, hx⟩ := hsh.out k (by omega)
    obtain ⟨e0, e1, e2, e3, e4, e5, e6⟩ := hx.below hb
    have HQ := Lib.hid (Below.old hb hq.out)
    by_cases hlt : k < j0
    · gi_wp2_with (gi_at_call 160; refine (same_no _ _ t _ HQ.out (hne.out k hlt)).mono ?_; rintro e w' ⟨rfl, hb1⟩)
      go_roundw
      case rel => exact ⟨k + 1, by omega, by go_num, hb.trans (hb1.mono hb.size)⟩
      case measure => simp [intOf]; omega
    · obtain rfl : k = j0 := by omega
      gi_wp2_with (gi_at_call 160; refine (same_yes _ _ t _ HQ.out hy.out).mono ?_; rintro e w' ⟨rfl, hb1⟩)
      go_ret
      exact ⟨rfl, hb.trans (hb1.mono hb.size)⟩
theorem contains_yes (A : Option Addr) (n m c j0 : Nat) (sh : Nat → Shaft) (q : Nat) (t : ByteArray) (W : World) (hn : m ≤ 20) (hmn : m ≤ n) (hsh : Hid (ShaftsAt W A n sh)) (hq : Hid (W.cell? ⟨q, 0, none⟩ = some (.string t)))
    (hj0 : j0 < m) (hy : Hid (((sh j0).name.toList == t.toList) = true)) (hne : Hid (∀ k, k < j0 → ((sh k).name.toList == t.toList) = false)) :
    CallsIn Fc 0 Tryz.prog 161 #[.slice A m c, .func (.func 160) #[] #[ptr q]] W (SaysBool true W) := by
  have h0 : (0 : Int) ≤ j0 := Int.natCast_nonneg _
  gi_enter Tryz.func161, Tryz.ntmps161
  gi_wp2_with (gi_at_call 172; refine (indexFunc_yes A n m c j0 sh q t _ hn hmn hsh hq hj0 hy hne).mono ?_; rintro e w' ⟨rfl, hb1⟩)
  go_ret
  exact ⟨rfl, hb1⟩
theorem checkShaft_spans (rs rl rw many : Int) (b o n c k : Nat) (sh : Nat → Shaft) (W : World) (hk : k < n) (hn : n ≤ 20) (hc : n ≤ c) (hsh : Hid (ShaftsAt W (some ⟨b, o, none⟩) n sh)) (hln : (sh k).name.size ≤ 200) (hnm : Hid (NameOk (sh k).name)) (hno : Hid (∀ j, j < k → ((sh j).name.toList == (sh k).name.toList) = false)) :
    CallsIn Fc 0 Tryz.prog 138 #[.agg #[.int .i64 rs, .int .i64 rl, .int .i64 rw, .int .i64 many, .slice (some ⟨b, o, none⟩) n c], .int .i64 k] W (SaysInt (firstZ (fun u => outZ (spanA (sh k) u) (spanB (sh k) u) 0 9999) 3) W) := by
  obtain ⟨i0, hi, hz0, hz1, hz2⟩ := info_parts i101
  have HI := Lib.hid hi
  have HZ0 := Lib.hid hz0
  have HZ1 := Lib.hid hz1
  have HZ2 := Lib.hid hz2
  clear hi hz0 hz1 hz2
  have hx : ShaftAt W b (o + k * 7) (sh k) := by
    obtain ⟨b', o', e, h⟩ := hsh.out k hk
    cases e; exact h
  have hbl := hx.lt
  obtain ⟨e0, e1, e2, e3, e4, e5, e6⟩ := hx
  gi_enter Tryz.func138, Tryz.ntmps138
  have hW2 : Below W.heap.size W ((W.alloc (.cells #[.int .i64 rs, .int .i64 rl, .int .i64 rw, .int .i64 many, .slice (some ⟨b, o, none⟩) n c] 99)).alloc
      (.cells #[.string (sh k).name, .int .i64 (sh k).s0, .int .i64 (sh k).s1, .int .i64 (sh k).l0, .int .i64 (sh k).l1, .int .i64 (sh k).w0, .int .i64 (sh k).w1] 65)) :=
    ((Below.refl _ _).alloc (Nat.le_refl _) _).alloc (by simp) _
  have HW2 := Lib.hid hW2
  clear hW2
  gi_wp2_with (first
    | (gi_at_call 159; refine (isName2_any _ _ hln).mono ?_; rintro e w' ⟨nb, rfl, hnb, rfl⟩; obtain rfl : nb = true := hnb.2 hnm.out; clear hnb)
    | (gi_at_call 161; refine (contains_no20 _ n k c sh _ (sh k).name _ (by omega) (by omega) (Lib.hid (hsh.out.below HW2.out)) (Lib.hid (by go_simp)) hno).mono ?_; rintro e w2 ⟨rfl, hb2⟩)
    | (gi_at_call 65; refine (measures_any _).mono ?_; rintro e w' ⟨rfl, rfl⟩))
  have p1 : w2.cell? ⟨W.heap.size + 1, 1, none⟩ = some (.int .i64 (sh k).s0) := Below.old hb2 (by go_simp)
  have p2 : w2.cell? ⟨W.heap.size + 1, 2, none⟩ = some (.int .i64 (sh k).s1) := Below.old hb2 (by go_simp)
  have p3 : w2.cell? ⟨W.heap.size + 1, 3, none⟩ = some (.int .i64 (sh k).l0) := Below.old hb2 (by go_simp)
  have p4 : w2.cell? ⟨W.heap.size + 1, 4, none⟩ = some (.int .i64 (sh k).l1) := Below.old hb2 (by go_simp)
  have p5 : w2.cell? ⟨W.heap.size + 1, 5, none⟩ = some (.int .i64 (sh k).w0) := Below.old hb2 (by go_simp)
  have p6 : w2.cell? ⟨W.heap.size + 1, 6, none⟩ = some (.int .i64 (sh k).w1) := Below.old hb2 (by go_simp)
  have hz2 : W.heap.size + 1 < w2.heap.size := by have := hb2.size; simp at this; omega
  have HB2 := Lib.hid hb2
  clear hb2
  gi_loopw [7, 30] (fun sl i wr => ∃ (j : Nat) (vs : List Value), j ≤ 3 ∧ i = .int .i64 j ∧ wr.ownsRow (w2.heap.size + 1) 101 1 sl j vs ∧ (∀ u, u < j → ∃ v, vs[u]? = some v ∧ Spn v (spanA (sh k) u) (spanB (sh k) u) 0 9999 wr) ∧
      Below (w2.heap.size + 1) (w2.alloc (.cells measuresV 119)) wr) (fun _ i _ => 3 - (intOf i).toNat)
  case atStart => exact ⟨0, [], by omega, rfl, ⟨rfl, .inl ⟨rfl, rfl⟩⟩, (fun j h => absurd h (by omega)), Below.refl _ _⟩
  case round =>
    obtain ⟨j, vs, hj, rfl, hown, hvs, hb⟩ := hrel
    have c1 : wr.cell? ⟨W.heap.size + 1, 1, none⟩ = some (.int .i64 (sh k).s0) := by rw [hb.cell (by simp; omega)]; go_simp
    have c2 : wr.cell? ⟨W.heap.size + 1, 2, none⟩ = some (.int .i64 (sh k).s1) := by rw [hb.cell (by simp; omega)]; go_simp
    have c3 : wr.cell? ⟨W.heap.size + 1, 3, none⟩ = some (.int .i64 (sh k).l0) := by rw [hb.cell (by simp; omega)]; go_simp
    have c4 : wr.cell? ⟨W.heap.size + 1, 4, none⟩ = some (.int .i64 (sh k).l1) := by rw [hb.cell (by simp; omega)]; go_simp
    have c5 : wr.cell? ⟨W.heap.size + 1, 5, none⟩ = some (.int .i64 (sh k).w0) := by rw [hb.cell (by simp; omega)]; go_simp
    have c6 : wr.cell? ⟨W.heap.size + 1, 6, none⟩ = some (.int .i64 (sh k).w1) := by rw [hb.cell (by simp; omega)]; go_simp
    have m0 : wr.cell? ⟨w2.heap.size, 0, none⟩ = some (.func (.func 105) #[] #[]) := by rw [hb.cell (by simp)]; simp [measuresV]
    have m1 : wr.cell? ⟨w2.heap.size, 1, none⟩ = some (.func (.func 106) #[] #[]) := by rw [hb.cell (by simp)]; simp [measuresV]
    have m2 : wr.cell? ⟨w2.heap.size, 2, none⟩ = some (.func (.func 107) #[] #[]) := by rw [hb.cell (by simp)]; simp [measuresV]
    have m3 : wr.cell? ⟨w2.heap.size, 3, none⟩ = some (.func (.func 108) #[] #[]) := by rw [hb.cell (by simp)]; simp [measuresV]
    have m4 : wr.cell? ⟨w2.heap.size, 4, none⟩ = some (.func (.func 109) #[] #[]) := by rw [hb.cell (by simp)]; simp [measuresV]
    have m5 : wr.cell? ⟨w2.heap.size, 5, none⟩ = some (.func (.func 110) #[] #[]) := by rw [hb.cell (by simp)]; simp [measuresV]
    have hz0 : w2.heap.size < wr.heap.size := by have := hb.size; simp at this; omega
    have hz1 : W.heap.size + 1 < wr.heap.size := by omega
    have HB := Lib.hid hb
    have HV := Lib.hid hvs
    have HO := Lib.hid hown
    clear hb hvs hown p1 p2 p3 p4 p5 p6
    by_cases hlt : j < 3
    · have h3 : j = 0 ∨ j = 1 ∨ j = 2 := by omega
      rcases h3 with rfl | rfl | rfl
      · gi_wp2_with (first
            | (gi_at_call 105; refine (span0_any _ _ _).mono ?_; rintro e w5 ⟨rfl, rfl⟩)
            | (gi_at_call 107; refine (span1_any _ _ _).mono ?_; rintro e w5 ⟨rfl, rfl⟩)
            | (gi_at_call 109; refine (span2_any _ _ _).mono ?_; rintro e w5 ⟨rfl, rfl⟩)
            | (gi_at_call 78; refine (spanLimits_any _ _ _ _ _).mono ?_; rintro e w3 ⟨lv, rfl, ⟨p, q, r, rfl, hp, hq, hr3⟩, hb3⟩)
            | (gi_at_builtin; refine wpListIn_append_own _ rfl _ _ 151 rfl (w2.heap.size + 1) 101 i0 .nilFunc 1 8 u151 HI.out HZ0.out HZ1.out HZ2.out rfl (by decide) _ _ _ rfl ((own_below ((HO.out).alloc _) hb3).alloc _) ⟨w3.heap.size, 0, none⟩ 1 1 [.func (.func 125) #[] #[ptr p, ptr q, ptr r]] rfl rfl (cell_one_new _ _ _) (by simp [Value.oneCell']) (by simp [maxLen]) (by decide) (by have := hb3.size; simp at *; omega) ?_; intro v' w4 hown4 hg4 hnil4))
        have hx := (own_below ((HO.out).alloc (.cells #[.func (.func 105) #[] #[], .func (.func 106) #[] #[]] 119)) hb3).alloc (.cells #[.func (.func 125) #[] #[ptr p, ptr q, ptr r]] 101)
        have hs3 := hb3.size
        simp at hs3
        go_roundw
        case rel =>
          refine ⟨0 + 1, vs ++ [.func (.func 125) #[] #[ptr p, ptr q, ptr r]], by omega, by first | rfl | go_num, hown4, vs_step HO.out.1 (fun j hj => ?_) ?_, ?_⟩
          · obtain ⟨v, h1, h2⟩ := HV.out j hj
            exact ⟨v, h1, (((h2.alloc _).below hb3).alloc _).grown hg4 (own_elem hx)⟩
          · exact (Spn.alloc ⟨p, q, r, rfl, hp, hq, hr3⟩ _).grown hg4 (own_elem hx)
          · exact ((((HB.out.alloc (by omega) _).trans (hb3.mono (by simp; omega))).alloc (by omega) _).grown hg4 (by simp; omega) (fun g hg => (hx.lt g hg).1))
        case measure => simp [intOf]
      · gi_wp2_with (first
            | (gi_at_call 105; refine (span0_any _ _ _).mono ?_; rintro e w5 ⟨rfl, rfl⟩)
            | (gi_at_call 107; refine (span1_any _ _ _).mono ?_; rintro e w5 ⟨rfl, rfl⟩)
            | (gi_at_call 109; refine (span2_any _ _ _).mono ?_; rintro e w5 ⟨rfl, rfl⟩)
            | (gi_at_call 78; refine (spanLimits_any _ _ _ _ _).mono ?_; rintro e w3 ⟨lv, rfl, ⟨p, q, r, rfl, hp, hq, hr3⟩, hb3⟩)
            | (gi_at_builtin; refine wpListIn_append_own _ rfl _ _ 151 rfl (w2.heap.size + 1) 101 i0 .nilFunc 1 8 u151 HI.out HZ0.out HZ1.out HZ2.out rfl (by decide) _ _ _ rfl ((own_below ((HO.out).alloc _) hb3).alloc _) ⟨w3.heap.size, 0, none⟩ 1 1 [.func (.func 125) #[] #[ptr p, ptr q, ptr r]] rfl rfl (cell_one_new _ _ _) (by simp [Value.oneCell']) (by simp [maxLen]) (by decide) (by have := hb3.size; simp at *; omega) ?_; intro v' w4 hown4 hg4 hnil4))
        have hx := (own_below ((HO.out).alloc (.cells #[.func (.func 107) #[] #[], .func (.func 108) #[] #[]] 119)) hb3).alloc (.cells #[.func (.func 125) #[] #[ptr p, ptr q, ptr r]] 101)
        have hs3 := hb3.size
        simp at hs3
        go_roundw
        case rel =>
          refine ⟨1 + 1, vs ++ [.func (.func 125) #[] #[ptr p, ptr q, ptr r]], by omega, by first | rfl | go_num, hown4, vs_step HO.out.1 (fun j hj => ?_) ?_, ?_⟩
          · obtain ⟨v, h1, h2⟩ := HV.out j hj
            exact ⟨v, h1, (((h2.alloc _).below hb3).alloc _).grown hg4 (own_elem hx)⟩
          · exact (Spn.alloc ⟨p, q, r, rfl, hp, hq, hr3⟩ _).grown hg4 (own_elem hx)
          · exact ((((HB.out.alloc (by omega) _).trans (hb3.mono (by simp; omega))).alloc (by omega) _).grown hg4 (by simp; omega) (fun g hg => (hx.lt g hg).1))
        case measure => simp [intOf]
      · gi_wp2_with (first
            | (gi_at_call 105; refine (span0_any _ _ _).mono ?_; rintro e w5 ⟨rfl, rfl⟩)
            | (gi_at_call 107; refine (span1_any _ _ _).mono ?_; rintro e w5 ⟨rfl, rfl⟩)
            | (gi_at_call 109; refine (span2_any _ _ _).mono ?_; rintro e w5 ⟨rfl, rfl⟩)
            | (gi_at_call 78; refine (spanLimits_any _ _ _ _ _).mono ?_; rintro e w3 ⟨lv, rfl, ⟨p, q, r, rfl, hp, hq, hr3⟩, hb3⟩)
            | (gi_at_builtin; refine wpListIn_append_own _ rfl _ _ 151 rfl (w2.heap.size + 1) 101 i0 .nilFunc 1 8 u151 HI.out HZ0.out HZ1.out HZ2.out rfl (by decide) _ _ _ rfl ((own_below ((HO.out).alloc _) hb3).alloc _) ⟨w3.heap.size, 0, none⟩ 1 1 [.func (.func 125) #[] #[ptr p, ptr q, ptr r]] rfl rfl (cell_one_new _ _ _) (by simp [Value.oneCell']) (by simp [maxLen]) (by decide) (by have := hb3.size; simp at *; omega) ?_; intro v' w4 hown4 hg4 hnil4))
        have hx := (own_below ((HO.out).alloc (.cells #[.func (.func 109) #[] #[], .func (.func 110) #[] #[]] 119)) hb3).alloc (.cells #[.func (.func 125) #[] #[ptr p, ptr q, ptr r]] 101)
        have hs3 := hb3.size
        simp at hs3
        go_roundw
        case rel =>
          refine ⟨2 + 1, vs ++ [.func (.func 125) #[] #[ptr p, ptr q, ptr r]], by omega, by first | rfl | go_num, hown4, vs_step HO.out.1 (fun j hj => ?_) ?_, ?_⟩
          · obtain ⟨v, h1, h2⟩ := HV.out j hj
            exact ⟨v, h1, (((h2.alloc _).below hb3).alloc _).grown hg4 (own_elem hx)⟩
          · exact (Spn.alloc ⟨p, q, r, rfl, hp, hq, hr3⟩ _).grown hg4 (own_elem hx)
          · exact ((((HB.out.alloc (by omega) _).trans (hb3.mono (by simp; omega))).alloc (by omega) _).grown hg4 (by simp; omega) (fun g hg => (hx.lt g hg).1))
        case measure => simp [intOf]
    · obtain rfl : j = 3 := by omega
      obtain ⟨g, cap, rfl, hg1, hg2⟩ := HO.out.form (by omega)
      have hB4 : Below W.heap.size W wr := (HW2.out.trans (HB2.out.mono (by simp; omega))).trans ((((Below.refl w2.heap.size w2).alloc (Nat.le_refl _) _).trans (HB.out.mono (by omega))).mono (by omega))
      have HB4 := Lib.hid hB4
      clear hB4
      gi_wp2_with (gi_at_call 55; refine (firstFoul_any g 3 cap (fun u => outZ (spanA (sh k) u) (spanB (sh k) u) 0 9999) wr (by omega) (Lib.hid fun u hu => ?_)).mono ?_)
      · obtain ⟨v, h1, h2⟩ := HV.out u hu
        exact ⟨v, by rw [HO.out.cellAt u (by omega)]; exact h1, h2.is⟩
      · rintro e w5 ⟨f, rfl, hf, hb5⟩
        subst hf
        gi_wp2
        go_ret
        exact ⟨rfl, HB4.out.trans (hb5.mono HB4.out.size)⟩
end Go.Proofs.YtpdmgecbapmgdaaGreat
end
