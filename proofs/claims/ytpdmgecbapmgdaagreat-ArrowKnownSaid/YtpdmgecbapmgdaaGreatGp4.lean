/- A part of the proof that ArrowKnown returns true for every input: no further condition. -/
import Derived.Test.YtpdmgecbapmgdaaGreatGp3
import Derived.Test.YtpdmgecbapmgdaaGreatGp2
import Derived.Test.YtpdmgecbapmgdaaGreatCx9
import Derived.Conc.Own4
set_option linter.unusedVariables false
set_option maxHeartbeats 8000000
set_option maxRecDepth 100000
section
namespace Go.Proofs.YtpdmgecbapmgdaaGreat
open Go.RowKit
section
variable (rs rl rw many : Int) (A : Option Addr) (n c k m : Nat) (x0 x1 : Int)
def ChkF : Nat → List Value → World → Prop
  | 0, vs, _ => vs = [stockV rs rl rw many A n c]
  | 1, vs, _ => vs = [.func (.func 56) #[stockV rs rl rw many A n c] #[]]
  | 2, vs, _ => vs = [stockV rs rl rw many A n c]
  | 3, vs, _ => vs = [.int .i64 k]
  | 4, vs, w => ∃ v, vs = [v] ∧ CheckIs v 0 w
  | 5, vs, _ => vs = [.int .i64 m]
  | 6, vs, w => ∃ v, vs = [v] ∧ CheckIs v 0 w
  | 7, vs, _ => vs = [spanV x0 x1]
  | 8, vs, w => ∃ v, vs = [v] ∧ CheckIs v (outZ x0 x1 0 9999) w
  | 9, vs, w => ∃ g : Nat, vs = [.slice (some ⟨g, 0, none⟩) 4 4] ∧ ∀ i, i < 4 → ∃ v, w.cell? ⟨g, i, none⟩ = some v ∧ CheckIs v (if i = 3 then outZ x0 x1 0 9999 else 0) w
  | 10, vs, _ => ∃ f : Int, vs = [.int .i64 f] ∧ (f = 0 ↔ outZ x0 x1 0 9999 = 0)
  | 11, vs, _ => ∃ f : Int, vs = [.int .i64 f] ∧ (f = 0 ↔ outZ x0 x1 0 9999 = 0)
  | _, _, _ => True
theorem ChkF.below {w w' : World} (hb : Below w.heap.size w w') (i : Nat) (vs : List Value) (h : ChkF rs rl rw many A n c k m x0 x1 i vs w) : ChkF rs rl rw many A n c k m x0 x1 i vs w' := by
  unfold ChkF at h ⊢
  split
  all_goals simp only at h
  all_goals first
    | exact h
    | (obtain ⟨v, h1, h2⟩ := h; exact ⟨v, h1, h2.below hb⟩)
    | (obtain ⟨g, h1, h2⟩ := h
       refine ⟨g, h1, fun i hi => ?_⟩
       obtain ⟨v, h3, h4⟩ := h2 i hi
       exact ⟨v, Below.old hb h3, h4.below hb⟩)
    | trivial
end
theorem CheckIs.shape {v : Value} {f : Int} {w : World} (h : CheckIs v f w) : ∃ (i : Nat) (x y : Array Value), v = .func (.func i) x y := by
  rcases h with ⟨sv, rfl, _⟩ | ⟨p, q, rfl, _⟩ | ⟨p, q, r, rfl, _⟩ | ⟨p, q, r, rfl, _⟩ <;> exact ⟨_, _, _, rfl⟩
def MeasOk (sh : Nat → Shaft) (k m : Nat) (x0 x1 : Int) : Prop := outZ x0 x1 0 9999 = 0 ∧ max (spanA (sh k) m) x0 ≤ min (spanB (sh k) m) x1
def HandsMeas (rs rl rw many : Int) (n : Nat) (sh : Nat → Shaft) (k m : Nat) (x0 x1 : Int) (W : World) (e : Ending) (w' : World) : Prop :=
  Below W.heap.size W w' ∧ ((∃ f : Int, f ≠ 0 ∧ ¬ MeasOk sh k m x0 x1 ∧ e = .returned (.tuple #[stockV 0 0 0 0 none 0 0, .int .i64 f])) ∨
    (MeasOk sh k m x0 x1 ∧ ∃ (A' : Option Addr) (c' : Nat), e = .returned (.tuple #[stockV rs rl rw many A' n c', .int .i64 0]) ∧ n ≤ c' ∧ ShaftsAt w' A' n (putSh sh k m (max (spanA (sh k) m) x0) (min (spanB (sh k) m) x1))))
def ToF (s g n cap k m : Nat) : Nat → List Value → World → Prop
  | 0, vs, w => ∃ q : Nat, vs = [.slice (some ⟨q, 0, none⟩) 3 3] ∧ w.heap[q]? = some (.cells measuresV 119 (0, 0))
  | 1, vs, _ => vs = [.int .i64 m]
  | 2, vs, w => ∃ q : Nat, vs = [.pointer (some ⟨q, m * 2, none⟩)] ∧ w.heap[q]? = some (.cells measuresV 119 (0, 0))
  | 3, vs, w => ∃ q : Nat, vs = [.pointer (some ⟨q, m * 2, none⟩)] ∧ w.heap[q]? = some (.cells measuresV 119 (0, 0))
  | 4, vs, _ => vs = [.func (.func (105 + 2 * m)) #[] #[]]
  | 5, vs, _ => vs = [.pointer (some ⟨s, 4, none⟩)]
  | 6, vs, _ => vs = [.slice (some ⟨g, 0, none⟩) n cap]
  | 7, vs, _ => vs = [.int .i64 k]
  | 8, vs, _ => vs = [.pointer (some ⟨g, k * 7, none⟩)]
  | 9, vs, _ => vs = [.pointer (some ⟨g, k * 7 + (1 + 2 * m), none⟩)]
  | 10, vs, _ => vs = [.pointer (some ⟨g, k * 7 + (1 + 2 * m), none⟩)]
  | _, _, _ => True
theorem ToF.below (s g n cap k m : Nat) {w w' : World} (hb : Below w.heap.size w w') (i : Nat) (vs : List Value) (h : ToF s g n cap k m i vs w) : ToF s g n cap k m i vs w' := by
  unfold ToF at h ⊢
  split
  all_goals simp only at h
  all_goals first
    | exact h
    | (obtain ⟨q, h1, h2⟩ := h; exact ⟨q, h1, by rw [hb.block _ (Array.getElem?_eq_some_iff.1 h2).1]; exact h2⟩)
    | trivial
def comU (a b x y : Int) : Int := if max a x ≤ min b y then max a x else 0
def comV (a b x y : Int) : Int := if max a x ≤ min b y then min b y else 0
def comT (a b x y : Int) : Bool := decide (max a x ≤ min b y)
theorem SaysCommon.eq {a b x y : Int} {w w' : World} {e : Ending} (h : SaysCommon a b x y w e w') : e = .returned (.tuple #[spanV (comU a b x y) (comV a b x y), .bool (comT a b x y)]) ∧ Below w.heap.size w w' := by
  obtain ⟨hb, ⟨h, rfl⟩ | ⟨h, rfl⟩⟩ := h
  · exact ⟨by simp only [comU, comV, comT, if_pos h, decide_eq_true h], hb⟩
  · exact ⟨by simp only [comU, comV, comT, if_neg h, decide_eq_false h], hb⟩
def ComF (g P lo : Nat) (a b x y : Int) : Nat → List Value → World → Prop
  | 0, vs, _ => vs = [.pointer (some ⟨g, P, none⟩)]
  | 1, vs, _ => vs = [.pointer (some ⟨g, P, none⟩)]
  | 2, vs, _ => vs = [spanV a b]
  | 3, vs, _ => vs = [spanV x y]
  | 4, vs, _ => vs = [.tuple #[spanV (comU a b x y) (comV a b x y), .bool (comT a b x y)]]
  | 5, vs, _ => vs = [.tuple #[spanV (comU a b x y) (comV a b x y), .bool (comT a b x y)]]
  | 6, vs, _ => vs = [spanV (comU a b x y) (comV a b x y)]
  | 7, vs, _ => vs = [.bool (comT a b x y)]
  | 8, vs, w => ∃ p : Nat, vs = [.pointer (some ⟨p, 0, none⟩)] ∧ lo ≤ p ∧ ∃ u v, SpanAt w p u v
  | 9, vs, w => ∃ p : Nat, vs = [.pointer (some ⟨p, 0, none⟩)] ∧ lo ≤ p ∧ SpanAt w p (comU a b x y) (comV a b x y)
  | 10, vs, _ => vs = [.bool (comT a b x y)]
  | _, _, _ => True
theorem ComF.below (g P lo : Nat) (a b x y : Int) {w w' : World} (hb : Below w.heap.size w w') (i : Nat) (vs : List Value) (h : ComF g P lo a b x y i vs w) : ComF g P lo a b x y i vs w' := by
  unfold ComF at h ⊢
  split
  all_goals simp only at h
  all_goals first
    | exact h
    | (obtain ⟨p, h1, h2, u, v, h3⟩ := h; exact ⟨p, h1, h2, u, v, h3.below hb⟩)
    | (obtain ⟨p, h1, h2, h3⟩ := h; exact ⟨p, h1, h2, h3.below hb⟩)
    | trivial
theorem ComF.store (g P lo : Nat) (a b x y : Int) {w : World} {p : Nat} {u v : Int} (hp : SpanAt w p u v) (i : Nat) (hi : i ≠ 9) {vs : List Value} (hv : i = 8 → vs = [.pointer (some ⟨p, 0, none⟩)]) (s t : Int) (h : ComF g P lo a b x y i vs w) : ComF g P lo a b x y i vs ((w.setCell ⟨p, 0, none⟩ (.int .i64 s)).setCell ⟨p, 1, none⟩ (.int .i64 t)) := by
  unfold ComF at h ⊢
  split
  all_goals simp only at h
  all_goals first
    | exact h
    | exact absurd rfl hi
    | (obtain ⟨p', h1, h2, u, v, h3⟩ := h
       have e := hv rfl
       rw [h1] at e
       simp only [List.cons.injEq, Value.pointer.injEq, Option.some.injEq, Addr.mk.injEq, and_true] at e
       subst e
       exact ⟨p', h1, h2, s, t, hp.set s t⟩)
    | trivial
theorem Measure_any (rs rl rw many : Int) (A : Option Addr) (n c k m : Nat) (sh : Nat → Shaft) (x0 x1 : Int) (W : World) (hk : k < n) (hc : n ≤ c) (hm : m < 3) (hst : Hid (StockOk rs rl rw many n sh)) (hsh : Hid (ShaftsAt W A n sh)) :
    CallsIn Fc 0 Tryz.prog 30 #[stockV rs rl rw many A n c, .int .i64 k, .int .i64 m, spanV x0 x1] W (HandsMeas rs rl rw many n sh k m x0 x1 W) := by
  have hn := hst.out.count
  obtain ⟨b, o, rfl, _⟩ := hsh.out k hk
  gi_enter Tryz.func30, Tryz.ntmps30
  gi_wp2
  have hW4 : Hid (Below W.heap.size W ((((W.alloc (.cells #[.int .i64 rs, .int .i64 rl, .int .i64 rw, .int .i64 many, .slice (some ⟨b, o, none⟩) n c] 26)).alloc (.cells #[.int .i64 x0, .int .i64 x1] 52)).alloc (.cells #[.int .i64 0, .int .i64 0, .int .i64 0, .int .i64 0, .slice none 0 0] 26)).alloc (.cells #[.int .i64 rs, .int .i64 rl, .int .i64 rw, .int .i64 many, .slice (some ⟨b, o, none⟩) n c] 99))) := Lib.hid ((((((Below.refl _ _).alloc (Nat.le_refl _) _).alloc (by simp) _).alloc (by simp <;> omega) _).alloc (by simp <;> omega) _))
  have b0 : (((((W.alloc (.cells #[.int .i64 rs, .int .i64 rl, .int .i64 rw, .int .i64 many, .slice (some ⟨b, o, none⟩) n c] 26)).alloc (.cells #[.int .i64 x0, .int .i64 x1] 52)).alloc (.cells #[.int .i64 0, .int .i64 0, .int .i64 0, .int .i64 0, .slice none 0 0] 26)).alloc (.cells #[.int .i64 rs, .int .i64 rl, .int .i64 rw, .int .i64 many, .slice (some ⟨b, o, none⟩) n c] 99))).heap[W.heap.size]? = some (.cells #[.int .i64 rs, .int .i64 rl, .int .i64 rw, .int .i64 many, .slice (some ⟨b, o, none⟩) n c] 26 (0, 0)) := by rw [heap_alloc_old _ _ (by simp <;> omega), heap_alloc_old _ _ (by simp <;> omega), heap_alloc_old _ _ (by simp), heap_top _ _ rfl]
  have b1 : (((((W.alloc (.cells #[.int .i64 rs, .int .i64 rl, .int .i64 rw, .int .i64 many, .slice (some ⟨b, o, none⟩) n c] 26)).alloc (.cells #[.int .i64 x0, .int .i64 x1] 52)).alloc (.cells #[.int .i64 0, .int .i64 0, .int .i64 0, .int .i64 0, .slice none 0 0] 26)).alloc (.cells #[.int .i64 rs, .int .i64 rl, .int .i64 rw, .int .i64 many, .slice (some ⟨b, o, none⟩) n c] 99))).heap[W.heap.size + 1]? = some (.cells #[.int .i64 x0, .int .i64 x1] 52 (0, 0)) := by rw [heap_alloc_old _ _ (by simp <;> omega), heap_alloc_old _ _ (by simp), heap_top _ _ (by simp)]
  have b2 : (((((W.alloc (.cells #[.int .i64 rs, .int .i64 rl, .int .i64 rw, .int .i64 many, .slice (some ⟨b, o, none⟩) n c] 26)).alloc (.cells #[.int .i64 x0, .int .i64 x1] 52)).alloc (.cells #[.int .i64 0, .int .i64 0, .int .i64 0, .int .i64 0, .slice none 0 0] 26)).alloc (.cells #[.int .i64 rs, .int .i64 rl, .int .i64 rw, .int .i64 many, .slice (some ⟨b, o, none⟩) n c] 99))).heap[W.heap.size + 1 + 1]? = some (.cells #[.int .i64 0, .int .i64 0, .int .i64 0, .int .i64 0, .slice none 0 0] 26 (0, 0)) := by rw [heap_alloc_old _ _ (by simp), heap_top _ _ (by simp)]
  have b3 : (((((W.alloc (.cells #[.int .i64 rs, .int .i64 rl, .int .i64 rw, .int .i64 many, .slice (some ⟨b, o, none⟩) n c] 26)).alloc (.cells #[.int .i64 x0, .int .i64 x1] 52)).alloc (.cells #[.int .i64 0, .int .i64 0, .int .i64 0, .int .i64 0, .slice none 0 0] 26)).alloc (.cells #[.int .i64 rs, .int .i64 rl, .int .i64 rw, .int .i64 many, .slice (some ⟨b, o, none⟩) n c] 99))).heap[W.heap.size + 1 + 1 + 1]? = some (.cells #[.int .i64 rs, .int .i64 rl, .int .i64 rw, .int .i64 many, .slice (some ⟨b, o, none⟩) n c] 99 (0, 0)) := by rw [heap_top _ _ (by simp)]
  have hs4 : (((((W.alloc (.cells #[.int .i64 rs, .int .i64 rl, .int .i64 rw, .int .i64 many, .slice (some ⟨b, o, none⟩) n c] 26)).alloc (.cells #[.int .i64 x0, .int .i64 x1] 52)).alloc (.cells #[.int .i64 0, .int .i64 0, .int .i64 0, .int .i64 0, .slice none 0 0] 26)).alloc (.cells #[.int .i64 rs, .int .i64 rl, .int .i64 rw, .int .i64 many, .slice (some ⟨b, o, none⟩) n c] 99))).heap.size = W.heap.size + 4 := by simp
  generalize ((((W.alloc (.cells #[.int .i64 rs, .int .i64 rl, .int .i64 rw, .int .i64 many, .slice (some ⟨b, o, none⟩) n c] 26)).alloc (.cells #[.int .i64 x0, .int .i64 x1] 52)).alloc (.cells #[.int .i64 0, .int .i64 0, .int .i64 0, .int .i64 0, .slice none 0 0] 26)).alloc (.cells #[.int .i64 rs, .int .i64 rl, .int .i64 rw, .int .i64 many, .slice (some ⟨b, o, none⟩) n c] 99)) = W4 at *
  refine wpIn_cutR (M := fun a w => ∃ (x17 x18 x19 x20 x21 x22 x23 x24 x25 x26 x27 : Value) (f : Int), a = { tmps := #[stockV rs rl rw many (some ⟨b, o, none⟩) n c, .int .i64 k, .int .i64 m, spanV x0 x1, .pointer (some ⟨W.heap.size, 0, none⟩), undef, undef, .pointer (some ⟨W.heap.size + 1, 0, none⟩), .pointer (some ⟨W.heap.size + 1 + 1, 0, none⟩), .int .i64 0, .pointer (some ⟨W.heap.size + 1 + 1 + 1, 0, none⟩), .int .i64 f, undef, undef, undef, stockV rs rl rw many (some ⟨b, o, none⟩) n c, stockV rs rl rw many (some ⟨b, o, none⟩) n c, x17, x18, x19, x20, x21, x22, x23, x24, x25, x26, x27, undef, undef, undef, undef, undef, undef, undef, undef, undef, undef, undef, undef, undef, undef, undef, undef, undef, undef, undef, undef, undef, undef, undef, undef, undef, undef, undef, undef, undef, undef, undef, undef, undef], defers := [] } ∧ (f = 0 ↔ outZ x0 x1 0 9999 = 0) ∧ Below W4.heap.size W4 w) ?_ ?_
  · refine wpIn_region_F (sup := fun j => ([[17], [18], [19], [20], [21], [22], [23], [24], [25], [26], [27], [11]] : List (List Nat)).getD j []) (Ψ := ChkF rs rl rw many (some ⟨b, o, none⟩) n c k m x0 x1) (I := fun w => Below W4.heap.size W4 w) (z := 61) (by kernel_rfl) (by kernel_rfl) (by kernel_rfl) rfl rfl (Below.refl _ _).drew (fun listed a w j' hj hr => ?_) fun listed a w hj hall => ?_
    · have hjs' : j' < 12 := by
        obtain ⟨_, o', h3, _⟩ := mem_ready.1 hr
        exact (Array.getElem?_eq_some_iff.1 h3).1
      have hI := hj.inv
      obtain ⟨tm, df⟩ := a
      have hdf := hj.defers
      simp only at hdf
      subst hdf
      have hz' : ∀ {d : Nat}, d < 61 → d < (Act.mk tm []).tmps.size := fun h => by rw [hj.size]; exact h
      have g1 := at_slot hj.size (show Act.eval _ (.tmp 1) = .int .i64 k from (hj.old 1 (oldB_use (by kernel_rfl)))) (by omega)
      have g2 := at_slot hj.size (show Act.eval _ (.tmp 2) = .int .i64 m from (hj.old 2 (oldB_use (by kernel_rfl)))) (by omega)
      have g7 := at_slot hj.size (show Act.eval _ (.tmp 7) = .pointer (some ⟨W.heap.size + 1, 0, none⟩) from (hj.old 7 (oldB_use (by kernel_rfl)))) (by omega)
      have g10 := at_slot hj.size (show Act.eval _ (.tmp 10) = .pointer (some ⟨W.heap.size + 1 + 1 + 1, 0, none⟩) from (hj.old 10 (oldB_use (by kernel_rfl)))) (by omega)
      have y1 : w.heap[W.heap.size + 1]? = _ := (hI.block _ (by omega)).trans b1
      have y3 : w.heap[W.heap.size + 1 + 1 + 1]? = _ := (hI.block _ (by omega)).trans b3
      have E0 : w.cell? ⟨W.heap.size + 1 + 1 + 1, 0, none⟩ = some (.int .i64 rs) := by simp [World.cell?, y3]
      have E1 : w.cell? ⟨W.heap.size + 1 + 1 + 1, 1, none⟩ = some (.int .i64 rl) := by simp [World.cell?, y3]
      have E2 : w.cell? ⟨W.heap.size + 1 + 1 + 1, 2, none⟩ = some (.int .i64 rw) := by simp [World.cell?, y3]
      have E3 : w.cell? ⟨W.heap.size + 1 + 1 + 1, 3, none⟩ = some (.int .i64 many) := by simp [World.cell?, y3]
      have E4 : w.cell? ⟨W.heap.size + 1 + 1 + 1, 4, none⟩ = some (.slice (some ⟨b, o, none⟩) n c) := by simp [World.cell?, y3]
      have X0 : w.cell? ⟨W.heap.size + 1, 0, none⟩ = some (.int .i64 x0) := by simp [World.cell?, y1]
      have X1 : w.cell? ⟨W.heap.size + 1, 1, none⟩ = some (.int .i64 x1) := by simp [World.cell?, y1]
      clear y1 y3
      have hjs : j' = 0 ∨ j' = 1 ∨ j' = 2 ∨ j' = 3 ∨ j' = 4 ∨ j' = 5 ∨ j' = 6 ∨ j' = 7 ∨ j' = 8 ∨ j' = 9 ∨ j' = 10 ∨ j' = 11 := by omega
      rcases hjs with rfl | rfl | rfl | rfl | rfl | rfl | rfl | rfl | rfl | rfl | rfl | rfl
      · refine wpOpIn_step rfl fun K hK => ?_
        go_simp
        exact hK _ _ (RFNext.pure (d := 17) rfl hI (hz' (by omega)) rfl rfl)
      · have f17 := at_slot hj.size (show Act.eval _ (.tmp 17) = stockV rs rl rw many (some ⟨b, o, none⟩) n c from (List.cons.inj (hj.fact 0 (by decide) (dep hr (by kernel_rfl)))).1) (by omega)
        refine wpOpIn_step rfl fun K hK => ?_
        go_simp
        exact hK _ _ (RFNext.pure (d := 18) rfl hI (hz' (by omega)) rfl rfl)
      · refine wpOpIn_step rfl fun K hK => ?_
        go_simp
        exact hK _ _ (RFNext.pure (d := 19) rfl hI (hz' (by omega)) rfl rfl)
      · refine wpOpIn_step rfl fun K hK => ?_
        go_simp
        exact hK _ _ (RFNext.pure (d := 20) rfl hI (hz' (by omega)) rfl rfl)
      · have f19 := at_slot hj.size (show Act.eval _ (.tmp 19) = stockV rs rl rw many (some ⟨b, o, none⟩) n c from (List.cons.inj (hj.fact 2 (by decide) (dep hr (by kernel_rfl)))).1) (by omega)
        have f20 := at_slot hj.size (show Act.eval _ (.tmp 20) = .int .i64 k from (List.cons.inj (hj.fact 3 (by decide) (dep hr (by kernel_rfl)))).1) (by omega)
        refine wpOpIn_step rfl fun K hK => ?_
        go_simp
        refine (hasShaft_any rs rl rw many (some ⟨b, o, none⟩) n c k w).mono ?_
        rintro e w' ⟨sp, ip, rfl, hbox, hb'⟩
        exact hK _ _ (RFNext.grow (d := 21) (fun i vs h => ChkF.below _ _ _ _ _ _ _ _ _ _ _ hb' i vs h) rfl (hI.trans (hb'.mono hI.size)) (hz' (by omega)) rfl ⟨_, rfl, hbox.is hn hk⟩)
      · refine wpOpIn_step rfl fun K hK => ?_
        go_simp
        exact hK _ _ (RFNext.pure (d := 22) rfl hI (hz' (by omega)) rfl rfl)
      · have f22 := at_slot hj.size (show Act.eval _ (.tmp 22) = .int .i64 m from (List.cons.inj (hj.fact 5 (by decide) (dep hr (by kernel_rfl)))).1) (by omega)
        refine wpOpIn_step rfl fun K hK => ?_
        go_simp
        refine (limits_any m 0 2 w).mono ?_
        rintro e w' ⟨v, rfl, hl, hb'⟩
        exact hK _ _ (RFNext.grow (d := 23) (fun i vs h => ChkF.below _ _ _ _ _ _ _ _ _ _ _ hb' i vs h) rfl (hI.trans (hb'.mono hI.size)) (hz' (by omega)) rfl ⟨_, rfl, hl.is (by omega) (by omega)⟩)
      · refine wpOpIn_step rfl fun K hK => ?_
        go_simp
        exact hK _ _ (RFNext.pure (d := 24) rfl hI (hz' (by omega)) rfl rfl)
      · have f24 := at_slot hj.size (show Act.eval _ (.tmp 24) = spanV x0 x1 from (List.cons.inj (hj.fact 7 (by decide) (dep hr (by kernel_rfl)))).1) (by omega)
        refine wpOpIn_step rfl fun K hK => ?_
        go_simp
        refine (spanLimits_any x0 x1 0 9999 w).mono ?_
        rintro e w' ⟨v, rfl, hl, hb'⟩
        exact hK _ _ (RFNext.grow (d := 25) (fun i vs h => ChkF.below _ _ _ _ _ _ _ _ _ _ _ hb' i vs h) rfl (hI.trans (hb'.mono hI.size)) (hz' (by omega)) rfl ⟨_, rfl, hl.is⟩)
      · have f18 := at_slot hj.size (show Act.eval _ (.tmp 18) = .func (.func 56) #[stockV rs rl rw many (some ⟨b, o, none⟩) n c] #[] from (List.cons.inj (hj.fact 1 (by decide) (dep hr (by kernel_rfl)))).1) (by omega)
        obtain ⟨v21, g21, p21⟩ := hj.fact 4 (by decide) (dep hr (by kernel_rfl))
        have f21 := at_slot hj.size (show Act.eval _ (.tmp 21) = v21 from (List.cons.inj g21).1) (by omega)
        obtain ⟨v23, g23, p23⟩ := hj.fact 6 (by decide) (dep hr (by kernel_rfl))
        have f23 := at_slot hj.size (show Act.eval _ (.tmp 23) = v23 from (List.cons.inj g23).1) (by omega)
        obtain ⟨v25, g25, p25⟩ := hj.fact 8 (by decide) (dep hr (by kernel_rfl))
        have f25 := at_slot hj.size (show Act.eval _ (.tmp 25) = v25 from (List.cons.inj g25).1) (by omega)
        obtain ⟨i21, y21, z21, rfl⟩ := p21.shape
        obtain ⟨i23, y23, z23, rfl⟩ := p23.shape
        obtain ⟨i25, y25, z25, rfl⟩ := p25.shape
        refine wpOpIn_step rfl fun K hK => ?_
        go_simp
        have hb' : Below w.heap.size w (w.alloc (.cells #[.func (.func 56) #[stockV rs rl rw many (some ⟨b, o, none⟩) n c] #[], .func (.func i21) y21 z21, .func (.func i23) y23 z23, .func (.func i25) y25 z25] 101)) := (Below.refl _ _).alloc (Nat.le_refl _) _
        refine hK _ _ (RFNext.grow (d := 26) (fun i vs h => ChkF.below _ _ _ _ _ _ _ _ _ _ _ hb' i vs h) rfl (hI.trans (hb'.mono hI.size)) (hz' (by omega)) rfl ⟨w.heap.size, rfl, fun i hi => ?_⟩)
        have hi4 : i = 0 ∨ i = 1 ∨ i = 2 ∨ i = 3 := by omega
        rcases hi4 with rfl | rfl | rfl | rfl
        · exact ⟨_, by simp, .inl ⟨_, rfl, fun w' hw => check_ok rs rl rw many _ n c sh w' hc hst (Lib.hid (hsh.out.below ((hW4.out.trans ((hI.trans (hb'.mono hI.size)).mono hW4.out.size)).trans (hw.mono (by have := hW4.out.size; have := hI.size; simp; omega)))))⟩⟩
        · exact ⟨_, by simp, p21.below hb'⟩
        · exact ⟨_, by simp, p23.below hb'⟩
        · exact ⟨_, by simp, p25.below hb'⟩
      · obtain ⟨g, g26, hall⟩ := hj.fact 9 (by decide) (dep hr (by kernel_rfl))
        have f26 := at_slot hj.size (show Act.eval _ (.tmp 26) = .slice (some ⟨g, 0, none⟩) 4 4 from (List.cons.inj g26).1) (by omega)
        refine wpOpIn_step rfl fun K hK => ?_
        go_simp
        refine (firstFoul_any g 4 4 (fun i => if i = 3 then outZ x0 x1 0 9999 else 0) w (by omega) (Lib.hid hall)).mono ?_
        rintro e w' ⟨f, rfl, hf, hb'⟩
        refine hK _ _ (RFNext.grow (d := 27) (fun i vs h => ChkF.below _ _ _ _ _ _ _ _ _ _ _ hb' i vs h) rfl (hI.trans (hb'.mono hI.size)) (hz' (by omega)) rfl ⟨f, rfl, hf.trans ⟨fun h => by simpa using h 3 (by omega), fun h i hi => ?_⟩⟩)
        dsimp only
        split
        · exact h
        · rfl
      · obtain ⟨f, g27, hf⟩ := hj.fact 10 (by decide) (dep hr (by kernel_rfl))
        have f27 := at_slot hj.size (show Act.eval _ (.tmp 27) = .int .i64 f from (List.cons.inj g27).1) (by omega)
        refine wpOpIn_step rfl fun K hK => ?_
        go_simp
        exact hK _ _ (RFNext.pure (d := 11) rfl hI (hz' (by omega)) rfl ⟨f, rfl, hf⟩)
    · obtain ⟨f, g11, hf⟩ := hall 11 (by decide)
      have e11 : a.eval (.tmp 11) = .int .i64 f := (List.cons.inj g11).1
      refine ⟨a.eval (.tmp 17), a.eval (.tmp 18), a.eval (.tmp 19), a.eval (.tmp 20), a.eval (.tmp 21), a.eval (.tmp 22), a.eval (.tmp 23), a.eval (.tmp 24), a.eval (.tmp 25), a.eval (.tmp 26), a.eval (.tmp 27), f, ?_, hf, hj.inv⟩
      have e := hj.act rfl [17, 18, 19, 20, 21, 22, 23, 24, 25, 26, 27, 11] (by kernel_rfl)
      simp only [List.map_cons, List.map_nil, List.foldl_cons, List.foldl_nil, e11] at e
      exact e.trans (by kernel_rfl)
  · rintro a w ⟨x17, x18, x19, x20, x21, x22, x23, x24, x25, x26, x27, f, rfl, hf, hb⟩
    have y0 : w.heap[W.heap.size]? = _ := (hb.block _ (by omega)).trans b0
    have y1 : w.heap[W.heap.size + 1]? = _ := (hb.block _ (by omega)).trans b1
    have y2 : w.heap[W.heap.size + 1 + 1]? = _ := (hb.block _ (by omega)).trans b2
    have ls : W.heap.size + 4 ≤ w.heap.size := hs4 ▸ hb.size
    have HB : Hid (Below W.heap.size W w) := Lib.hid (hW4.out.trans (hb.mono hW4.out.size))
    have HF := Lib.hid hf
    clear hb hf b0 b1 b2 b3 hs4 hW4
    by_cases h0 : f = 0
    · subst h0
      have HO : Hid (outZ x0 x1 0 9999 = 0) := Lib.hid (HF.out.1 rfl)
      have C4 : w.cell? ⟨W.heap.size, 4, none⟩ = some (.slice (some ⟨b, o, none⟩) n c) := by simp [World.cell?, y0]
      have Y0 := Lib.hid y0
      have Y1 := Lib.hid y1
      have Y2 := Lib.hid y2
      clear y0 y1 y2
      gi_wp2_with (gi_at_call 79; refine (Clone_any b o n c sh w hn (by omega) hc (Lib.hid (hsh.out.below HB.out))).mono ?_; rintro e w5 ⟨g, cap, rfl, hcap, hg0, hgz, hrow, hb5⟩
                   have y0 := (hb5.block _ (by omega)).trans Y0.out
                   have C4' : w5.cell? ⟨W.heap.size, 4, none⟩ = some (.slice (some ⟨b, o, none⟩) n c) := by simp [World.cell?, y0]
                   have z0 := frozen_no y0
                   have HB5 := Lib.hid hb5
                   have HR := Lib.hid hrow
                   have HZ := Lib.hid hgz
                   clear hb5 hrow hgz y0 C4)
      have hgs : W.heap.size ≠ g := by omega
      have y0 := (HB5.out.block _ (by omega)).trans Y0.out
      have y1 := (HB5.out.block _ (by omega)).trans Y1.out
      have y2 := (HB5.out.block _ (by omega)).trans Y2.out
      have ls5 := HB5.out.size
      have u0 : (w5.setCell ⟨W.heap.size, 4, none⟩ (.slice (some ⟨g, 0, none⟩) n cap)).heap[W.heap.size]? = some (.cells #[.int .i64 rs, .int .i64 rl, .int .i64 rw, .int .i64 many, .slice (some ⟨g, 0, none⟩) n cap] 26 (0, 0)) := by simp [World.setCell, Array.getElem?_modify, y0]
      have u1 : (w5.setCell ⟨W.heap.size, 4, none⟩ (.slice (some ⟨g, 0, none⟩) n cap)).heap[W.heap.size + 1]? = some (.cells #[.int .i64 x0, .int .i64 x1] 52 (0, 0)) := by simp [World.setCell, Array.getElem?_modify, y1]
      have u2 : (w5.setCell ⟨W.heap.size, 4, none⟩ (.slice (some ⟨g, 0, none⟩) n cap)).heap[W.heap.size + 1 + 1]? = some (.cells #[.int .i64 0, .int .i64 0, .int .i64 0, .int .i64 0, .slice none 0 0] 26 (0, 0)) := by simp [World.setCell, Array.getElem?_modify, y2]; intro h; omega
      have ur := shafts_far (j := 4) HR.out hgs (.slice (some ⟨g, 0, none⟩) n cap)
      have uz : ∀ j, (w5.setCell ⟨W.heap.size, 4, none⟩ (.slice (some ⟨g, 0, none⟩) n cap)).frozen? ⟨g, j, none⟩ = false := fun j => by have := HZ.out j; simpa using this
      have ub : Below W.heap.size W (w5.setCell ⟨W.heap.size, 4, none⟩ (.slice (some ⟨g, 0, none⟩) n cap)) := (HB.out.trans (HB5.out.mono HB.out.size)).setCell (Nat.le_refl _) _
      have us : W.heap.size + 4 ≤ (w5.setCell ⟨W.heap.size, 4, none⟩ (.slice (some ⟨g, 0, none⟩) n cap)).heap.size := by simp; omega
      generalize w5.setCell ⟨W.heap.size, 4, none⟩ (.slice (some ⟨g, 0, none⟩) n cap) = w6 at *
      clear y0 y1 y2 ls5 HB5 HR HZ Y0 Y1 Y2 C4' z0 HB
      have h3 : Hid (m = 0 ∨ m = 1 ∨ m = 2) := Lib.hid (by omega)
      refine wpIn_cutR (M := fun a w => ∃ x36 x38 x39 : Value, a = { tmps := #[stockV rs rl rw many (some ⟨b, o, none⟩) n c, .int .i64 k, .int .i64 m, spanV x0 x1, .pointer (some ⟨W.heap.size, 0, none⟩), undef, undef, .pointer (some ⟨W.heap.size + 1, 0, none⟩), .pointer (some ⟨W.heap.size + 1 + 1, 0, none⟩), .int .i64 0, .pointer (some ⟨W.heap.size + 1 + 1 + 1, 0, none⟩), .int .i64 0, .pointer (some ⟨g, k * 7 + (1 + 2 * m), none⟩), undef, undef, stockV rs rl rw many (some ⟨b, o, none⟩) n c, stockV rs rl rw many (some ⟨b, o, none⟩) n c, x17, x18, x19, x20, x21, x22, x23, x24, x25, x26, x27, .int .i64 0, .bool false, undef, undef, .pointer (some ⟨W.heap.size, 4, none⟩), .slice (some ⟨b, o, none⟩) n c, .slice (some ⟨g, 0, none⟩) n cap, .pointer (some ⟨W.heap.size, 4, none⟩), x36, .int .i64 m, x38, x39, .func (.func (105 + 2 * m)) #[] #[], .pointer (some ⟨W.heap.size, 4, none⟩), .slice (some ⟨g, 0, none⟩) n cap, .int .i64 k, .pointer (some ⟨g, k * 7, none⟩), .pointer (some ⟨g, k * 7 + (1 + 2 * m), none⟩), undef, undef, undef, undef, undef, undef, undef, undef, undef, undef, undef, undef, undef, undef, undef], defers := [] } ∧ Below w6.heap.size w6 w) ?_ ?_
      · refine wpIn_region_F (sup := fun j => ([[36], [37], [38], [39], [40], [41], [42], [43], [44], [45], [12]] : List (List Nat)).getD j []) (Ψ := ToF W.heap.size g n cap k m) (I := fun w => Below w6.heap.size w6 w) (z := 61) (by kernel_rfl) (by kernel_rfl) (by kernel_rfl) rfl rfl (Below.refl _ _).drew (fun listed a w j' hj hr => ?_) fun listed a w hj hall => ?_
        · have hjs' : j' < 11 := by
            obtain ⟨_, o', h3, _⟩ := mem_ready.1 hr
            exact (Array.getElem?_eq_some_iff.1 h3).1
          have hI := hj.inv
          obtain ⟨tm, df⟩ := a
          have hdf := hj.defers
          simp only at hdf
          subst hdf
          have hz' : ∀ {d : Nat}, d < 61 → d < (Act.mk tm []).tmps.size := fun h => by rw [hj.size]; exact h
          have g1 := at_slot hj.size (show Act.eval _ (.tmp 1) = .int .i64 k from (hj.old 1 (oldB_use (by kernel_rfl)))) (by omega)
          have g2 := at_slot hj.size (show Act.eval _ (.tmp 2) = .int .i64 m from (hj.old 2 (oldB_use (by kernel_rfl)))) (by omega)
          have g4 := at_slot hj.size (show Act.eval _ (.tmp 4) = .pointer (some ⟨W.heap.size, 0, none⟩) from (hj.old 4 (oldB_use (by kernel_rfl)))) (by omega)
          have y0 := (hI.block _ (by omega)).trans u0
          have E4 : w.cell? ⟨W.heap.size, 4, none⟩ = some (.slice (some ⟨g, 0, none⟩) n cap) := by simp [World.cell?, y0]
          clear y0
          have hjs : j' = 0 ∨ j' = 1 ∨ j' = 2 ∨ j' = 3 ∨ j' = 4 ∨ j' = 5 ∨ j' = 6 ∨ j' = 7 ∨ j' = 8 ∨ j' = 9 ∨ j' = 10 := by omega
          rcases hjs with rfl | rfl | rfl | rfl | rfl | rfl | rfl | rfl | rfl | rfl | rfl
          · refine wpOpIn_step rfl fun K hK => ?_
            go_simp
            refine (measures_any w).mono ?_
            rintro e w' ⟨rfl, rfl⟩
            have hb' : Below w.heap.size w (w.alloc (.cells measuresV 119)) := (Below.refl _ _).alloc (Nat.le_refl _) _
            exact hK _ _ (RFNext.grow (d := 36) (fun i vs h => ToF.below _ _ _ _ _ _ hb' i vs h) rfl (hI.trans (hb'.mono hI.size)) (hz' (by omega)) rfl ⟨w.heap.size, rfl, heap_new _ _⟩)
          · refine wpOpIn_step rfl fun K hK => ?_
            go_simp
            exact hK _ _ (RFNext.pure (d := 37) rfl hI (hz' (by omega)) rfl rfl)
          · obtain ⟨q, g36, hq⟩ := hj.fact 0 (by decide) (dep hr (by kernel_rfl))
            have f36 := at_slot hj.size (show Act.eval _ (.tmp 36) = .slice (some ⟨q, 0, none⟩) 3 3 from (List.cons.inj g36).1) (by omega)
            have f37 := at_slot hj.size (show Act.eval _ (.tmp 37) = .int .i64 m from (List.cons.inj (hj.fact 1 (by decide) (dep hr (by kernel_rfl)))).1) (by omega)
            have hmi : (m : Int) < 3 := by omega
            have hmn : (m : Int).toNat < 3 := by omega
            refine wpOpIn_step rfl fun K hK => ?_
            go_simp
            exact hK _ _ (RFNext.pure (d := 38) rfl hI (hz' (by omega)) rfl ⟨q, rfl, hq⟩)
          · obtain ⟨q, g38, hq⟩ := hj.fact 2 (by decide) (dep hr (by kernel_rfl))
            have f38 := at_slot hj.size (show Act.eval _ (.tmp 38) = .pointer (some ⟨q, m * 2, none⟩) from (List.cons.inj g38).1) (by omega)
            refine wpOpIn_step rfl fun K hK => ?_
            go_simp
            exact hK _ _ (RFNext.pure (d := 39) rfl hI (hz' (by omega)) rfl ⟨q, rfl, hq⟩)
          · obtain ⟨q, g39, hq⟩ := hj.fact 3 (by decide) (dep hr (by kernel_rfl))
            have f39 := at_slot hj.size (show Act.eval _ (.tmp 39) = .pointer (some ⟨q, m * 2, none⟩) from (List.cons.inj g39).1) (by omega)
            have hcell : w.cell? ⟨q, m * 2, none⟩ = some (.func (.func (105 + 2 * m)) #[] #[]) := by
              rcases h3.out with rfl | rfl | rfl <;> simp [World.cell?, hq, measuresV]
            refine wpOpIn_step rfl fun K hK => ?_
            go_simp
            exact hK _ _ (RFNext.pure (d := 40) rfl hI (hz' (by omega)) rfl rfl)
          · refine wpOpIn_step rfl fun K hK => ?_
            go_simp
            exact hK _ _ (RFNext.pure (d := 41) rfl hI (hz' (by omega)) rfl rfl)
          · have f41 := at_slot hj.size (show Act.eval _ (.tmp 41) = .pointer (some ⟨W.heap.size, 4, none⟩) from (List.cons.inj (hj.fact 5 (by decide) (dep hr (by kernel_rfl)))).1) (by omega)
            refine wpOpIn_step rfl fun K hK => ?_
            go_simp
            exact hK _ _ (RFNext.pure (d := 42) rfl hI (hz' (by omega)) rfl rfl)
          · refine wpOpIn_step rfl fun K hK => ?_
            go_simp
            exact hK _ _ (RFNext.pure (d := 43) rfl hI (hz' (by omega)) rfl rfl)
          · have f42 := at_slot hj.size (show Act.eval _ (.tmp 42) = .slice (some ⟨g, 0, none⟩) n cap from (List.cons.inj (hj.fact 6 (by decide) (dep hr (by kernel_rfl)))).1) (by omega)
            have f43 := at_slot hj.size (show Act.eval _ (.tmp 43) = .int .i64 k from (List.cons.inj (hj.fact 7 (by decide) (dep hr (by kernel_rfl)))).1) (by omega)
            refine wpOpIn_step rfl fun K hK => ?_
            go_simp
            exact hK _ _ (RFNext.pure (d := 44) rfl hI (hz' (by omega)) rfl rfl)
          · have f40 := at_slot hj.size (show Act.eval _ (.tmp 40) = .func (.func (105 + 2 * m)) #[] #[] from (List.cons.inj (hj.fact 4 (by decide) (dep hr (by kernel_rfl)))).1) (by omega)
            have f44 := at_slot hj.size (show Act.eval _ (.tmp 44) = .pointer (some ⟨g, k * 7, none⟩) from (List.cons.inj (hj.fact 8 (by decide) (dep hr (by kernel_rfl)))).1) (by omega)
            rcases h3.out with rfl | rfl | rfl
            · refine wpOpIn_step rfl fun K hK => ?_
              go_simp
              refine (span0_any g (k * 7) w).mono ?_
              rintro e w' ⟨rfl, rfl⟩
              exact hK _ _ (RFNext.pure (d := 45) rfl hI (hz' (by omega)) rfl rfl)
            · refine wpOpIn_step rfl fun K hK => ?_
              go_simp
              refine (span1_any g (k * 7) w).mono ?_
              rintro e w' ⟨rfl, rfl⟩
              exact hK _ _ (RFNext.pure (d := 45) rfl hI (hz' (by omega)) rfl rfl)
            · refine wpOpIn_step rfl fun K hK => ?_
              go_simp
              refine (span2_any g (k * 7) w).mono ?_
              rintro e w' ⟨rfl, rfl⟩
              exact hK _ _ (RFNext.pure (d := 45) rfl hI (hz' (by omega)) rfl rfl)
          · have f45 := at_slot hj.size (show Act.eval _ (.tmp 45) = .pointer (some ⟨g, k * 7 + (1 + 2 * m), none⟩) from (List.cons.inj (hj.fact 9 (by decide) (dep hr (by kernel_rfl)))).1) (by omega)
            refine wpOpIn_step rfl fun K hK => ?_
            go_simp
            exact hK _ _ (RFNext.pure (d := 12) rfl hI (hz' (by omega)) rfl rfl)
        · have e12 : a.eval (.tmp 12) = .pointer (some ⟨g, k * 7 + (1 + 2 * m), none⟩) := (List.cons.inj (hall 10 (by decide))).1
          have e37 : a.eval (.tmp 37) = .int .i64 m := (List.cons.inj (hall 1 (by decide))).1
          have e40 : a.eval (.tmp 40) = .func (.func (105 + 2 * m)) #[] #[] := (List.cons.inj (hall 4 (by decide))).1
          have e41 : a.eval (.tmp 41) = .pointer (some ⟨W.heap.size, 4, none⟩) := (List.cons.inj (hall 5 (by decide))).1
          have e42 : a.eval (.tmp 42) = .slice (some ⟨g, 0, none⟩) n cap := (List.cons.inj (hall 6 (by decide))).1
          have e43 : a.eval (.tmp 43) = .int .i64 k := (List.cons.inj (hall 7 (by decide))).1
          have e44 : a.eval (.tmp 44) = .pointer (some ⟨g, k * 7, none⟩) := (List.cons.inj (hall 8 (by decide))).1
          have e45 : a.eval (.tmp 45) = .pointer (some ⟨g, k * 7 + (1 + 2 * m), none⟩) := (List.cons.inj (hall 9 (by decide))).1
          refine ⟨a.eval (.tmp 36), a.eval (.tmp 38), a.eval (.tmp 39), ?_, hj.inv⟩
          have e := hj.act rfl [36, 37, 38, 39, 40, 41, 42, 43, 44, 45, 12] (by kernel_rfl)
          simp only [List.map_cons, List.map_nil, List.foldl_cons, List.foldl_nil, e12, e37, e40, e41, e42, e43, e44, e45] at e
          exact e.trans (by kernel_rfl)
      · rintro a w ⟨x36, x38, x39, rfl, hb⟩
        have hgl : g < w6.heap.size := by
          obtain ⟨g', o', e', hx⟩ := ur k hk
          cases e'
          exact hx.lt
        have v0 := (hb.block _ (by omega)).trans u0
        have v1 := (hb.block _ (by omega)).trans u1
        have v2 := (hb.block _ (by omega)).trans u2
        have vr := ur.below hb
        have vz : ∀ j, w.frozen? ⟨g, j, none⟩ = false := fun j => by
          have h := uz j
          simp only [World.frozen?] at h ⊢
          rw [hb.block _ hgl]
          exact h
        have vb := Lib.hid (ub.trans (hb.mono ub.size))
        have vs : W.heap.size + 4 ≤ w.heap.size := Nat.le_trans us hb.size
        have hgl : g < w.heap.size := Nat.lt_of_lt_of_le hgl hb.size
        clear u0 u1 u2 ur uz ub us hb
        have cP : w.cell? ⟨g, k * 7 + (1 + 2 * m), none⟩ = some (.int .i64 (spanA (sh k) m)) ∧ w.cell? ⟨g, k * 7 + (1 + 2 * m) + 1, none⟩ = some (.int .i64 (spanB (sh k) m)) := by
          obtain ⟨g', o', e', hx⟩ := vr k hk
          cases e'
          have q0 := hx.h1
          have q1 := hx.h2
          have q2 := hx.h3
          have q3 := hx.h4
          have q4 := hx.h5
          have q5 := hx.h6
          rw [Nat.zero_add] at q0 q1 q2 q3 q4 q5
          rcases h3.out with rfl | rfl | rfl
          · exact ⟨q0, q1⟩
          · exact ⟨q2, q3⟩
          · exact ⟨q4, q5⟩
        obtain ⟨cP0, cP1⟩ := cP
        obtain ⟨a1, ha1⟩ : ∃ a1, a1 = spanA (sh k) m := ⟨_, rfl⟩
        obtain ⟨b1, hb1⟩ : ∃ b1, b1 = spanB (sh k) m := ⟨_, rfl⟩
        rw [← ha1] at cP0
        rw [← hb1] at cP1
        have HA := Lib.hid ha1
        have HB := Lib.hid hb1
        clear ha1 hb1
        gi_wp2
        refine wpIn_cutR (M := fun a w' => ∃ p : Nat, a = { tmps := #[stockV rs rl rw many (some ⟨b, o, none⟩) n c, .int .i64 k, .int .i64 m, spanV x0 x1, .pointer (some ⟨W.heap.size, 0, none⟩), undef, undef, .pointer (some ⟨W.heap.size + 1, 0, none⟩), .pointer (some ⟨W.heap.size + 1 + 1, 0, none⟩), .int .i64 0, .pointer (some ⟨W.heap.size + 1 + 1 + 1, 0, none⟩), .int .i64 0, .pointer (some ⟨g, k * 7 + (1 + 2 * m), none⟩), .pointer (some ⟨p, 0, none⟩), .bool (comT a1 b1 x0 x1), stockV rs rl rw many (some ⟨b, o, none⟩) n c, stockV rs rl rw many (some ⟨b, o, none⟩) n c, x17, x18, x19, x20, x21, x22, x23, x24, x25, x26, x27, .int .i64 0, .bool false, undef, undef, .pointer (some ⟨W.heap.size, 4, none⟩), .slice (some ⟨b, o, none⟩) n c, .slice (some ⟨g, 0, none⟩) n cap, .pointer (some ⟨W.heap.size, 4, none⟩), x36, .int .i64 m, x38, x39, .func (.func (105 + 2 * m)) #[] #[], .pointer (some ⟨W.heap.size, 4, none⟩), .slice (some ⟨g, 0, none⟩) n cap, .int .i64 k, .pointer (some ⟨g, k * 7, none⟩), .pointer (some ⟨g, k * 7 + (1 + 2 * m), none⟩), .tuple #[spanV (comU a1 b1 x0 x1) (comV a1 b1 x0 x1), .bool (comT a1 b1 x0 x1)], .pointer (some ⟨g, k * 7 + (1 + 2 * m), none⟩), .pointer (some ⟨g, k * 7 + (1 + 2 * m), none⟩), spanV a1 b1, spanV x0 x1, .tuple #[spanV (comU a1 b1 x0 x1) (comV a1 b1 x0 x1), .bool (comT a1 b1 x0 x1)], spanV (comU a1 b1 x0 x1) (comV a1 b1 x0 x1), .bool (comT a1 b1 x0 x1), undef, undef, undef, undef, undef, undef, undef], defers := [] } ∧ w.heap.size ≤ p ∧ SpanAt w' p (comU a1 b1 x0 x1) (comV a1 b1 x0 x1) ∧ Below w.heap.size w w') ?_ ?_
        · refine wpIn_region_F (sup := fun j => ([[47], [48], [49], [50], [51], [46], [52], [53], [13], [13], [14]] : List (List Nat)).getD j []) (Ψ := ComF g (k * 7 + (1 + 2 * m)) w.heap.size a1 b1 x0 x1) (I := fun w' => Below w.heap.size w w') (z := 61) (by kernel_rfl) (by kernel_rfl) (by kernel_rfl) rfl rfl (Below.refl _ _).drew (fun listed a w' j' hj hr => ?_) fun listed a w' hj hall => ?_
          · have hjs' : j' < 11 := by
              obtain ⟨_, o', h3, _⟩ := mem_ready.1 hr
              exact (Array.getElem?_eq_some_iff.1 h3).1
            have hI := hj.inv
            obtain ⟨tm, df⟩ := a
            have hdf := hj.defers
            simp only at hdf
            subst hdf
            have hz' : ∀ {d : Nat}, d < 61 → d < (Act.mk tm []).tmps.size := fun h => by rw [hj.size]; exact h
            have g7 := at_slot hj.size (show Act.eval _ (.tmp 7) = .pointer (some ⟨W.heap.size + 1, 0, none⟩) from (hj.old 7 (oldB_use (by kernel_rfl)))) (by omega)
            have g12 := at_slot hj.size (show Act.eval _ (.tmp 12) = .pointer (some ⟨g, k * 7 + (1 + 2 * m), none⟩) from (hj.old 12 (oldB_use (by kernel_rfl)))) (by omega)
            have y1 := (hI.block _ (by omega)).trans v1
            have X0 : w'.cell? ⟨W.heap.size + 1, 0, none⟩ = some (.int .i64 x0) := by simp [World.cell?, y1]
            have X1 : w'.cell? ⟨W.heap.size + 1, 1, none⟩ = some (.int .i64 x1) := by simp [World.cell?, y1]
            have P0 := Below.old hI cP0
            have P1 := Below.old hI cP1
            clear y1
            have hjs : j' = 0 ∨ j' = 1 ∨ j' = 2 ∨ j' = 3 ∨ j' = 4 ∨ j' = 5 ∨ j' = 6 ∨ j' = 7 ∨ j' = 8 ∨ j' = 9 ∨ j' = 10 := by omega
            rcases hjs with rfl | rfl | rfl | rfl | rfl | rfl | rfl | rfl | rfl | rfl | rfl
            · refine wpOpIn_step rfl fun K hK => ?_
              go_simp
              exact hK _ _ (RFNext.pure (d := 47) rfl hI (hz' (by omega)) rfl rfl)
            · have f47 := at_slot hj.size (show Act.eval _ (.tmp 47) = .pointer (some ⟨g, k * 7 + (1 + 2 * m), none⟩) from (List.cons.inj (hj.fact 0 (by decide) (dep hr (by kernel_rfl)))).1) (by omega)
              refine wpOpIn_step rfl fun K hK => ?_
              go_simp
              exact hK _ _ (RFNext.pure (d := 48) rfl hI (hz' (by omega)) rfl rfl)
            · have f48 := at_slot hj.size (show Act.eval _ (.tmp 48) = .pointer (some ⟨g, k * 7 + (1 + 2 * m), none⟩) from (List.cons.inj (hj.fact 1 (by decide) (dep hr (by kernel_rfl)))).1) (by omega)
              refine wpOpIn_step rfl fun K hK => ?_
              go_simp
              exact hK _ _ (RFNext.pure (d := 49) rfl hI (hz' (by omega)) rfl rfl)
            · refine wpOpIn_step rfl fun K hK => ?_
              go_simp
              exact hK _ _ (RFNext.pure (d := 50) rfl hI (hz' (by omega)) rfl rfl)
            · have f49 := at_slot hj.size (show Act.eval _ (.tmp 49) = spanV a1 b1 from (List.cons.inj (hj.fact 2 (by decide) (dep hr (by kernel_rfl)))).1) (by omega)
              have f50 := at_slot hj.size (show Act.eval _ (.tmp 50) = spanV x0 x1 from (List.cons.inj (hj.fact 3 (by decide) (dep hr (by kernel_rfl)))).1) (by omega)
              refine wpOpIn_step rfl fun K hK => ?_
              go_simp
              refine (common_any a1 b1 x0 x1 w').mono ?_
              intro e w2 he
              obtain ⟨rfl, hb'⟩ := he.eq
              exact hK _ _ (RFNext.grow (d := 51) (fun i vs h => ComF.below _ _ _ _ _ _ _ hb' i vs h) rfl (hI.trans (hb'.mono hI.size)) (hz' (by omega)) rfl rfl)
            · have f51 := at_slot hj.size (show Act.eval _ (.tmp 51) = .tuple #[spanV (comU a1 b1 x0 x1) (comV a1 b1 x0 x1), .bool (comT a1 b1 x0 x1)] from (List.cons.inj (hj.fact 4 (by decide) (dep hr (by kernel_rfl)))).1) (by omega)
              refine wpOpIn_step rfl fun K hK => ?_
              go_simp
              exact hK _ _ (RFNext.pure (d := 46) rfl hI (hz' (by omega)) rfl rfl)
            · have f46 := at_slot hj.size (show Act.eval _ (.tmp 46) = .tuple #[spanV (comU a1 b1 x0 x1) (comV a1 b1 x0 x1), .bool (comT a1 b1 x0 x1)] from (List.cons.inj (hj.fact 5 (by decide) (dep hr (by kernel_rfl)))).1) (by omega)
              refine wpOpIn_step rfl fun K hK => ?_
              go_simp
              exact hK _ _ (RFNext.pure (d := 52) rfl hI (hz' (by omega)) rfl rfl)
            · have f46 := at_slot hj.size (show Act.eval _ (.tmp 46) = .tuple #[spanV (comU a1 b1 x0 x1) (comV a1 b1 x0 x1), .bool (comT a1 b1 x0 x1)] from (List.cons.inj (hj.fact 5 (by decide) (dep hr (by kernel_rfl)))).1) (by omega)
              refine wpOpIn_step rfl fun K hK => ?_
              go_simp
              exact hK _ _ (RFNext.pure (d := 53) rfl hI (hz' (by omega)) rfl rfl)
            · refine wpOpIn_step rfl fun K hK => ?_
              go_simp
              have hb' : Below w'.heap.size w' (w'.alloc (.cells #[.int .i64 0, .int .i64 0] 52)) := (Below.refl _ _).alloc (Nat.le_refl _) _
              exact hK _ _ (RFNext.grow (d := 13) (fun i vs h => ComF.below _ _ _ _ _ _ _ hb' i vs h) rfl (hI.trans (hb'.mono hI.size)) (hz' (by omega)) rfl ⟨w'.heap.size, rfl, hI.size, 0, 0, heap_new _ _⟩)
            · obtain ⟨p, g13, hlo, u, v, hp⟩ := hj.fact 8 (by decide) (dep hr (by kernel_rfl))
              have f13 := at_slot hj.size (show Act.eval _ (.tmp 13) = .pointer (some ⟨p, 0, none⟩) from (List.cons.inj g13).1) (by omega)
              have f52 := at_slot hj.size (show Act.eval _ (.tmp 52) = spanV (comU a1 b1 x0 x1) (comV a1 b1 x0 x1) from (List.cons.inj (hj.fact 6 (by decide) (dep hr (by kernel_rfl)))).1) (by omega)
              obtain ⟨cp, cq⟩ := hp.cell
              have fz0 := hp.frozen 0
              have fz1 := hp.frozen 1
              refine wpOpIn_step rfl fun K hK => ?_
              go_simp
              refine hK _ _ ⟨⟨undef, rfl⟩, (hI.setCell hlo _).setCell hlo _, fun i hi hne hl h => ComF.store _ _ _ _ _ _ _ hp i hne (fun e => by subst e; exact g13) _ _ h, p, g13, hlo, hp.set _ _⟩
            · have f53 := at_slot hj.size (show Act.eval _ (.tmp 53) = .bool (comT a1 b1 x0 x1) from (List.cons.inj (hj.fact 7 (by decide) (dep hr (by kernel_rfl)))).1) (by omega)
              refine wpOpIn_step rfl fun K hK => ?_
              go_simp
              exact hK _ _ (RFNext.pure (d := 14) rfl hI (hz' (by omega)) rfl rfl)
          · obtain ⟨p, g13, hlo, hp⟩ := hall 9 (by decide)
            have e13 : a.eval (.tmp 13) = .pointer (some ⟨p, 0, none⟩) := (List.cons.inj g13).1
            have e14 : a.eval (.tmp 14) = .bool (comT a1 b1 x0 x1) := (List.cons.inj (hall 10 (by decide))).1
            have e46 : a.eval (.tmp 46) = .tuple #[spanV (comU a1 b1 x0 x1) (comV a1 b1 x0 x1), .bool (comT a1 b1 x0 x1)] := (List.cons.inj (hall 5 (by decide))).1
            have e47 : a.eval (.tmp 47) = .pointer (some ⟨g, k * 7 + (1 + 2 * m), none⟩) := (List.cons.inj (hall 0 (by decide))).1
            have e48 : a.eval (.tmp 48) = .pointer (some ⟨g, k * 7 + (1 + 2 * m), none⟩) := (List.cons.inj (hall 1 (by decide))).1
            have e49 : a.eval (.tmp 49) = spanV a1 b1 := (List.cons.inj (hall 2 (by decide))).1
            have e50 : a.eval (.tmp 50) = spanV x0 x1 := (List.cons.inj (hall 3 (by decide))).1
            have e51 : a.eval (.tmp 51) = .tuple #[spanV (comU a1 b1 x0 x1) (comV a1 b1 x0 x1), .bool (comT a1 b1 x0 x1)] := (List.cons.inj (hall 4 (by decide))).1
            have e52 : a.eval (.tmp 52) = spanV (comU a1 b1 x0 x1) (comV a1 b1 x0 x1) := (List.cons.inj (hall 6 (by decide))).1
            have e53 : a.eval (.tmp 53) = .bool (comT a1 b1 x0 x1) := (List.cons.inj (hall 7 (by decide))).1
            refine ⟨p, ?_, hlo, hp, hj.inv⟩
            have e := hj.act rfl [47, 48, 49, 50, 51, 46, 52, 53, 13, 14] (by kernel_rfl)
            simp only [List.map_cons, List.map_nil, List.foldl_cons, List.foldl_nil, e13, e14, e46, e47, e48, e49, e50, e51, e52, e53] at e
            exact e.trans (by kernel_rfl)
        · rintro a w' ⟨p, rfl, hlo, hp, hb⟩
          have y0 := (hb.block _ (by omega)).trans v0
          have y2 := (hb.block _ (by omega)).trans v2
          have hgp : p ≠ g := by omega
          have vr' := Lib.hid (vr.below hb)
          have vz' : ∀ j, w'.frozen? ⟨g, j, none⟩ = false := fun j => by
            have h := vz j
            simp only [World.frozen?] at h ⊢
            rw [hb.block _ hgl]
            exact h
          have P0 := Below.old hb cP0
          have P1 := Below.old hb cP1
          have VB := Lib.hid (vb.out.trans (hb.mono vb.out.size))
          have e0 : w'.cell? ⟨W.heap.size + 1 + 1, 0, none⟩ = some (.int .i64 0) := by simp [World.cell?, y2]
          have e1 : w'.cell? ⟨W.heap.size + 1 + 1, 1, none⟩ = some (.int .i64 0) := by simp [World.cell?, y2]
          have e2 : w'.cell? ⟨W.heap.size + 1 + 1, 2, none⟩ = some (.int .i64 0) := by simp [World.cell?, y2]
          have e3 : w'.cell? ⟨W.heap.size + 1 + 1, 3, none⟩ = some (.int .i64 0) := by simp [World.cell?, y2]
          have e4 : w'.cell? ⟨W.heap.size + 1 + 1, 4, none⟩ = some (.slice none 0 0) := by simp [World.cell?, y2]
          have z2 := frozen_no y2
          have d0 : w'.cell? ⟨W.heap.size, 0, none⟩ = some (.int .i64 rs) := by simp [World.cell?, y0]
          have d1 : w'.cell? ⟨W.heap.size, 1, none⟩ = some (.int .i64 rl) := by simp [World.cell?, y0]
          have d2 : w'.cell? ⟨W.heap.size, 2, none⟩ = some (.int .i64 rw) := by simp [World.cell?, y0]
          have d3 : w'.cell? ⟨W.heap.size, 3, none⟩ = some (.int .i64 many) := by simp [World.cell?, y0]
          have d4 : w'.cell? ⟨W.heap.size, 4, none⟩ = some (.slice (some ⟨g, 0, none⟩) n cap) := by simp [World.cell?, y0]
          have hs1 : g ≠ W.heap.size + 1 + 1 := by omega
          have hs2 : g ≠ W.heap.size := by omega
          have hg0' : W.heap.size ≤ g := by omega
          clear y0 y2 v0 v1 v2 vr vz vb hb cP0 cP1 hlo vs ls
          have l2 : W.heap.size ≤ W.heap.size + 1 + 1 := by omega
          by_cases hcm : max a1 x0 ≤ min b1 x1
          · have hT : comT a1 b1 x0 x1 = true := decide_eq_true hcm
            have hU : comU a1 b1 x0 x1 = max a1 x0 := if_pos hcm
            have hV : comV a1 b1 x0 x1 = min b1 x1 := if_pos hcm
            have hOk : Hid (MeasOk sh k m x0 x1) := Lib.hid ⟨HO.out, by rw [← HA.out, ← HB.out]; exact hcm⟩
            have HUV : Hid (∃ u v, u = max a1 x0 ∧ v = min b1 x1 ∧ SpanAt w' p u v) := Lib.hid ⟨_, _, rfl, rfl, by rw [← hU, ← hV]; exact hp⟩
            simp only [hT, hU, hV]
            obtain ⟨u, v, hu, hv, hp⟩ := HUV.out
            rw [← hu, ← hv]
            have HU := Lib.hid hu
            have HV := Lib.hid hv
            obtain ⟨cp, cq⟩ := hp.cell
            clear hT hU hV hcm hu hv hp HUV
            gi_wp2
            refine bodyPost_ret (v := .tuple #[stockV rs rl rw many (some ⟨g, 0, none⟩) n cap, .int .i64 0]) (results_measure rfl rfl rfl (by go_simp) (by go_simp) (by go_simp) (by go_simp) (by go_simp)) rfl ?_
            rw [show k * 7 + (1 + 2 * m) + 1 = k * 7 + (2 + 2 * m) by omega]
            refine ⟨?_, .inr ⟨hOk.out, some ⟨g, 0, none⟩, cap, rfl, hcap, ?_⟩⟩
            · exact ((((((VB.out.setCell hg0' _).setCell hg0' _).setCell l2 _).setCell l2 _).setCell l2 _).setCell l2 _).setCell l2 _
            · have h1 := shafts_put vr'.out hk hm u v
              rw [HU.out, HV.out, HA.out, HB.out] at h1 ⊢
              exact shafts_far (shafts_far (shafts_far (shafts_far (shafts_far h1 hs1.symm _) hs1.symm _) hs1.symm _) hs1.symm _) hs1.symm _
          · have hT : comT a1 b1 x0 x1 = false := decide_eq_false hcm
            have hNo : Hid (¬ MeasOk sh k m x0 x1) := Lib.hid fun h => hcm (by rw [HA.out, HB.out]; exact h.2)
            simp only [hT]
            clear hT hcm hp
            gi_wp2
            refine bodyPost_ret (v := .tuple #[stockV 0 0 0 0 none 0 0, .int .i64 10]) (results_measure rfl rfl rfl (by go_simp) (by go_simp) (by go_simp) (by go_simp) (by go_simp)) rfl ?_
            refine ⟨?_, .inl ⟨10, by omega, hNo.out, rfl⟩⟩
            exact ((((VB.out.setCell l2 _).setCell l2 _).setCell l2 _).setCell l2 _).setCell l2 _
    · have HN : Hid (¬ MeasOk sh k m x0 x1) := Lib.hid fun h => h0 (HF.out.2 h.1)
      have e0 : w.cell? ⟨W.heap.size + 1 + 1, 0, none⟩ = some (.int .i64 0) := by simp [World.cell?, y2]
      have e1 : w.cell? ⟨W.heap.size + 1 + 1, 1, none⟩ = some (.int .i64 0) := by simp [World.cell?, y2]
      have e2 : w.cell? ⟨W.heap.size + 1 + 1, 2, none⟩ = some (.int .i64 0) := by simp [World.cell?, y2]
      have e3 : w.cell? ⟨W.heap.size + 1 + 1, 3, none⟩ = some (.int .i64 0) := by simp [World.cell?, y2]
      have e4 : w.cell? ⟨W.heap.size + 1 + 1, 4, none⟩ = some (.slice none 0 0) := by simp [World.cell?, y2]
      have z2 := frozen_no y2
      clear y0 y1 y2
      gi_wp2
      refine bodyPost_ret (v := .tuple #[stockV 0 0 0 0 none 0 0, .int .i64 f]) (results_measure rfl rfl rfl (by go_simp) (by go_simp) (by go_simp) (by go_simp) (by go_simp)) rfl ?_
      refine ⟨?_, .inl ⟨f, h0, HN.out, rfl⟩⟩
      have l2 : W.heap.size ≤ W.heap.size + 1 + 1 := by omega
      exact ((((HB.out.setCell l2 _).setCell l2 _).setCell l2 _).setCell l2 _).setCell l2 _
end Go.Proofs.YtpdmgecbapmgdaaGreat
end
section
namespace Go.Proofs.YtpdmgecbapmgdaaGreat
open Go.RowKit
section
variable {F : Fence} {n : Nat} {P : Program} {Post : Act → World → Prop} {a : Act} {w : World} {b : Frame} {k : List Item} {cs : List Frame}
def Through (Post : Act → World → Prop) : Exit → Act → World → Prop
  | .normal, a, w => Post a w
  | _, _, _ => False
abbrev Comes (F : Fence) (P : Program) (b : Frame) (cs : List Frame) (a : Act) (k : List Item) (w : World) (a' : Act) (k' : List Item) (w' : World) : Prop :=
  StepsIn (Machine.fenced P F) P (lone (b.atR a k) cs w) (lone (b.atR a' k') cs w')
theorem comes_code {c : Code} (h : c.wpIn F n P (Through Post) a w) (hro : b.roundOf = F.round) (hb : F.fn b.fn) (hr : F.room (cs.length + 1 + n)) :
    ∃ a' w', Post a' w' ∧ Comes F P b cs a (.code c :: k) w a' k w' := by
  obtain ⟨e, a', w', hp, harr⟩ := h b k cs hro hb hr
  cases e with
  | normal => exact ⟨a', w', hp, harr⟩
  | _ => exact hp.elim
theorem comes_seq {x y : Code} (hb : F.fn b.fn) (hr : F.room (cs.length + 1 + n)) : Comes F P b cs a (.code (.seq x y) :: k) w a (.code x :: .code y :: k) w :=
  .one (fenced_calm hb hr rfl) stepR_seq
theorem comes_cond {c : Operand} {x y : Code} {t : Bool} (hc : a.eval c = .bool t) (hb : F.fn b.fn) (hr : F.room (cs.length + 1 + n)) : Comes F P b cs a (.code (.cond c x y) :: k) w a (.code (if t then x else y) :: k) w :=
  .one (fenced_calm hb hr rfl) (stepR_cond hc)
theorem comes_region {id : Nat} {ops : Array Oper} (hb : F.fn b.fn) (hr : F.room (cs.length + 1 + n)) : Comes F P b cs a (.code (.region id ops false) :: k) w a (.inRegion ops (List.range ops.size) :: k) w :=
  .one (fenced_calm hb hr rfl) stepR_region
def reckons : Op → Bool
  | .move _ | .assign _ | .pick _ _ _ | .binOp _ _ _ _ _ | .load _ _ => true
  | _ => false
theorem reckons_about {o : Oper} (h : reckons o.op = true) (P : Program) (w : World) (ρ : Operand → Value) : o.about P w ρ = none := by
  unfold Oper.about
  cases hop : o.op <;> simp_all [reckons]
theorem run_value {s : Sem Value} {P : Program} {w : World} : (∃ v w', (do let v ← s; pure (Next.value v) : Sem Next).run P w = .ok (.value v) w') ∨ ∃ x w', (do let v ← s; pure (Next.value v) : Sem Next).run P w = .halt x w' := by
  rw [Sem.run_bind]
  cases s.run P w with
  | ok v w' => exact .inl ⟨v, w', rfl⟩
  | halt x w' => exact .inr ⟨x, w', rfl⟩
theorem reckons_run {o : Oper} (h : reckons o.op = true) (P : Program) (w : World) (ρ : Operand → Value) : (∃ v w', (execOp ρ o).run P w = .ok (.value v) w') ∨ ∃ x w', (execOp ρ o).run P w = .halt x w' := by
  cases hop : o.op <;> simp only [hop, reckons] at h <;> try (cases h)
  all_goals unfold execOp; simp only [hop]
  case move x => exact .inl ⟨_, _, rfl⟩
  case assign x => exact .inl ⟨_, _, rfl⟩
  case pick c x y =>
    rw [Sem.run_bind]
    cases (asBool (ρ c)).run P w with
    | ok v w' => exact .inl ⟨_, w', rfl⟩
    | halt x w' => exact .inr ⟨x, w', rfl⟩
  case binOp op t x y u => exact run_value
  case load t x => exact run_value
theorem comes_pre {ops : Array Oper} (l : List Oper) : ∀ (i : Nat) (rest : List Nat) (a : Act) (w : World), (∀ j, j < l.length → ops[i + j]? = l[j]?) → (l.all fun o => reckons o.op) = true →
    wpListIn F n P ops (Through Post) l a w → b.roundOf = F.round → F.fn b.fn → F.room (cs.length + 1 + n) →
    ∃ a' w', Post a' w' ∧ Comes F P b cs a (.inRegion ops (List.range' i l.length ++ rest) :: k) w a' (.inRegion ops rest :: k) w' := by
  induction l with
  | nil => exact fun i rest a w _ _ h _ _ _ => ⟨a, w, h, .refl _⟩
  | cons o l ih =>
    intro i rest a w hops hall h hro hb hr
    have ho : ops[i]? = some o := by simpa using hops 0 (by simp)
    have hops' : ∀ j, j < l.length → ops[i + 1 + j]? = l[j]? := fun j hj => by
      have := hops (j + 1) (by simp; omega)
      simpa [Nat.add_assoc, Nat.add_comm 1 j] using this
    simp only [List.all_cons, Bool.and_eq_true] at hall
    have hab : ∀ f, o.about P w a.eval = some f → F.fn f := fun f hf => by rw [reckons_about hall.1] at hf; cases hf
    have h0 : (lone (b.atR a (.inRegion ops (i :: (List.range' (i + 1) l.length ++ rest)) :: k)) cs w).fenced P F := fenced_oper hb hr ho hab
    have hfin : ∀ v, (b.atR a (.inRegion ops (i :: (List.range' (i + 1) l.length ++ rest)) :: k)).finish v = b.atR (a.put o.dst v) (.inRegion ops (List.range' (i + 1) l.length ++ rest) :: k) := by
      intro v; rw [Frame.finish_atR, ho]; rfl
    simp only [wpListIn] at h
    rw [List.length_cons, List.range'_succ, List.cons_append]
    by_cases hw : Region.wanted o (yielded ops a.tmps) = true
    · rw [if_pos hw] at h
      have h2 := h.2
      have hsem : o.semAt F.round a.eval = execOp a.eval o := by
        refine Oper.semAt_eq _ _ _ fun c hc => ?_
        rw [hc] at hall
        exact absurd hall.1 (by simp [reckons])
      rw [hsem] at h2
      rcases reckons_run hall.1 P w a.eval with ⟨v, w1, hrun⟩ | ⟨x, w1, hrun⟩
      · rw [hrun] at h2
        obtain ⟨a', w', hp, hs⟩ := ih (i + 1) rest _ _ hops' hall.2 h2 hro hb hr
        refine ⟨a', w', hp, .head h0 (step_lone_go ?_) hs⟩
        rw [stepGR_op (P := P) ho hw, hro, hsem, ← hfin]
        simp [stepG.apply, hrun]
      · rw [hrun] at h2
        cases x with
        | panic v => exact h2.elim
        | _ => exact h2.elim
    · rw [if_neg hw] at h
      obtain ⟨a', w', hp, hs⟩ := ih (i + 1) rest _ _ hops' hall.2 h.2 hro hb hr
      have hk := stepR_op_skip (P := P) (b := b) (a := a) (k := k) (cs := cs) (w := w) (ops := ops) (i := i) (rest := List.range' (i + 1) l.length ++ rest) (by simp [ho]; simpa using hw)
      simp only [ho, Option.bind_some] at hk
      exact ⟨a', w', hp, .head h0 hk hs⟩
end
end Go.Proofs.YtpdmgecbapmgdaaGreat
end
section
namespace Go.Proofs.YtpdmgecbapmgdaaGreat
open Go.RowKit Go.Cx Go.Conc
open Go.ConcR (DC0)
section
variable {F : Fence} {n : Nat} {P : Program} {b : Frame} {cs : List Frame} {S : Act → List Item → World → Prop} {a : Act} {w : World} {k : List Item}
def Reach (F : Fence) (P : Program) (b : Frame) (cs : List Frame) (S : Act → List Item → World → Prop) (a : Act) (k : List Item) (w : World) : Prop :=
  ∃ a' k' w', S a' k' w' ∧ Comes F P b cs a k w a' k' w'
theorem Reach.here (h : S a k w) : Reach F P b cs S a k w := ⟨a, k, w, h, .refl _⟩
theorem reach_seq {x y : Code} (hb : F.fn b.fn) (hr : F.room (cs.length + 1 + n)) (h : Reach F P b cs S a (.code x :: .code y :: k) w) : Reach F P b cs S a (.code (.seq x y) :: k) w := by
  obtain ⟨a', k', w', h1, h2⟩ := h
  exact ⟨a', k', w', h1, (comes_seq hb hr).trans h2⟩
theorem reach_code {c : Code} (hro : b.roundOf = F.round) (hb : F.fn b.fn) (hr : F.room (cs.length + 1 + n))
    (h : ∀ R : Act → World → Prop, (∀ a' w', Reach F P b cs S a' k w' → R a' w') → c.wpIn F n P (Through R) a w) : Reach F P b cs S a (.code c :: k) w := by
  obtain ⟨a1, w1, ⟨a', k', w', h1, h2⟩, h3⟩ := comes_code (h (fun a' w' => Reach F P b cs S a' k w') fun a' w' h => h) hro hb hr
  exact ⟨a', k', w', h1, h3.trans h2⟩
theorem reach_cond {c : Operand} {x y : Code} (t : Bool) (hc : a.eval c = .bool t) (hb : F.fn b.fn) (hr : F.room (cs.length + 1 + n)) (h : Reach F P b cs S a (.code (if t then x else y) :: k) w) : Reach F P b cs S a (.code (.cond c x y) :: k) w := by
  obtain ⟨a', k', w', h1, h2⟩ := h
  exact ⟨a', k', w', h1, (comes_cond hc hb hr).trans h2⟩
theorem reach_skip (hb : F.fn b.fn) (hr : F.room (cs.length + 1 + n)) (hro : b.roundOf = F.round) (h : Reach F P b cs S a k w) : Reach F P b cs S a (.code .skip :: k) w :=
  reach_code (n := n) hro hb hr fun R hR => by
    gi_wp2
    exact hR _ _ h
theorem reach_region {id : Nat} {ops : Array Oper} (hb : F.fn b.fn) (hr : F.room (cs.length + 1 + n)) (h : Reach F P b cs S a (.inRegion ops (List.range ops.size) :: k) w) : Reach F P b cs S a (.code (.region id ops false) :: k) w := by
  obtain ⟨a', k', w', h1, h2⟩ := h
  exact ⟨a', k', w', h1, (comes_region hb hr).trans h2⟩
end
theorem put_same {a : Act} {d : Nat} {v : Value} (h : d < a.tmps.size) : (a.put (some d) v).tmps.getD d undef = v := by
  simp [Act.put, h]
theorem put_far {a : Act} {d e : Nat} {v : Value} (h : d ≠ e) : (a.put (some d) v).tmps.getD e undef = a.tmps.getD e undef := by
  simp [Act.put, h]
theorem put_size {a : Act} {d : Nat} {v : Value} : (a.put (some d) v).tmps.size = a.tmps.size := by simp [Act.put]
theorem put_defers {a : Act} {d : Nat} {v : Value} : (a.put (some d) v).defers = a.defers := rfl
abbrev lawFr (f : FuncId) : Frame := { (default : Frame) with fn := f, kind := .normal, roundOf := none }
structure EarlyAt (S : FuncId) (ops : Array Oper) (i j d r : Nat) : Prop where
  o : ∃ o, ops[i]? = some o ∧ o.op = .call { callee := .value (.func S), args := #[], argTypes := #[] } ∧ o.guard = none ∧ o.dst = some d
  p : ∃ o, ops[j]? = some o ∧ o.op = .assign (.tmp d) ∧ o.guard = none ∧ o.dst = some r
structure LateAt (S : FuncId) (ops : Array Oper) (i j1 j2 g c d e r : Nat) : Prop where
  o : ∃ o, ops[i]? = some o ∧ o.op = .call { callee := .value (.func S), args := #[], argTypes := #[] } ∧ o.guard = some (g, true) ∧ o.dst = some d
  g : (ops[g]?).bind (·.dst) = some c
  p : ∃ o, ops[j1]? = some o ∧ o.op = .pick (.tmp c) (.tmp d) (.const (.bool false)) ∧ o.guard = none ∧ o.dst = some e
  q : ∃ o, ops[j2]? = some o ∧ o.op = .assign (.tmp e) ∧ o.guard = none ∧ o.dst = some r
  ne : d ≠ c
inductive AtCallG (S : FuncId) (r z : Nat) : Act → List Item → Prop where
  | early (a : Act) (k : List Item) (ops : Array Oper) (i j d : Nat) (h : EarlyAt S ops i j d r) (hdz : d < z) (hd : a.defers = []) (hs : a.tmps.size = z) : AtCallG S r z a (.inRegion ops [i, j] :: .code .ret :: k)
  | late (a : Act) (k : List Item) (ops : Array Oper) (i j1 j2 g c d e : Nat) (h : LateAt S ops i j1 j2 g c d e r) (hdz : d < z) (hez : e < z) (hd : a.defers = []) (hs : a.tmps.size = z) (ht : a.tmps.getD c undef = .bool true) (hcz : c < z) : AtCallG S r z a (.inRegion ops [i, j1, j2] :: .code .ret :: k)
section
variable {P : Program} {S f : FuncId} {r z : Nat}
theorem call_step {a : Act} {k : List Item} (hS : ∃ fn, P.funcs[S]? = some fn ∧ (fn.name == "runtime.NumGoroutine") = false ∧ fn.body.isNone = false) (h : AtCallG S r z a k) (w : World) :
    stepG P true (G ((lawFr f).at a k) []) w = .go (G (Frame.enter P S #[] .normal) [(lawFr f).at a k]) w #[] := by
  obtain ⟨fn, hf, hn, hb⟩ := hS
  cases h with
  | early k ops i j d h hdz hd hs =>
    obtain ⟨o, ho, hop, hg, hdst⟩ := h.o
    have hw : Region.wanted o (yielded ops a.tmps) = true := by simp only [Region.wanted, hg]
    rw [stepG_enter ho hw (by intro h; cases h) (run_call_body hop hf hn hb)]
    have : listed P (lawFr f).fn a o w = #[] := by unfold listed; rw [events_call_body hop hf hn hb]; exact seen_none _ _
    rw [this]
    simp only [List.map_toArray, List.map_nil]
  | late k ops i j1 j2 g c d e h hdz hez hd hs ht hcz =>
    obtain ⟨o, ho, hop, hg, hdst⟩ := h.o
    have hw : Region.wanted o (yielded ops a.tmps) = true := by
      simp only [Region.wanted, hg]
      have hgc : a.tmps[c]? = some (.bool true) := by
        rw [Array.getD_eq_getD_getElem?, Array.getElem?_eq_getElem (by omega)] at ht
        rw [Array.getElem?_eq_getElem (by omega)]
        simpa using ht
      unfold yielded
      rw [h.g]
      simp [hgc]
    rw [stepG_enter ho hw (by intro h; cases h) (run_call_body hop hf hn hb)]
    have : listed P (lawFr f).fn a o w = #[] := by unfold listed; rw [events_call_body hop hf hn hb]; exact seen_none _ _
    rw [this]
    simp only [List.map_toArray, List.map_nil]
theorem goes_oneG {R : World → World → Prop} {Stop : Goroutine → World → Prop} {n : Nat} {g g' : Goroutine} {w : World} (hs : g.status = .running) (h : ∀ w1, stepG P true g w1 = .go g' w1 #[]) (hk : ∀ w1, R w w1 → Goes P true R DC0 Stop n g' w1) :
    Goes P true R DC0 Stop (n + 1) g w := Goes.step hs fun w1 h1 => by
  rw [h w1]
  exact ⟨⟨rfl, rfl⟩, hk w1 h1⟩
theorem step_assignG {a : Act} {k : List Item} {ops : Array Oper} {i : Nat} {rest : List Nat} {o : Oper} {x : Operand} (ho : ops[i]? = some o) (hg : o.guard = none) (hop : o.op = .assign x) (w : World) :
    stepG P true (G ((lawFr f).at a (.inRegion ops (i :: rest) :: k)) []) w = .go (G ((lawFr f).at (a.put o.dst (a.eval x)) (.inRegion ops rest :: k)) []) w #[] := by
  have hr : (execOp a.eval o).run P w = .ok (.value (a.eval x)) w := by unfold execOp; simp [hop]
  rw [stepG_value ho (by simp only [Region.wanted, hg]) (by intro h; cases h) hr]
  have : listed P (lawFr f).fn a o w = #[] := by
    unfold listed
    rw [show (execOp a.eval o).events P w #[] = #[] by unfold execOp; simp [hop]]
    exact seen_none _ _
  rw [this]
theorem step_pickG {a : Act} {k : List Item} {ops : Array Oper} {i : Nat} {rest : List Nat} {o : Oper} {c x y : Operand} (ho : ops[i]? = some o) (hg : o.guard = none) (hop : o.op = .pick c x y) (hc : a.eval c = .bool true) (w : World) :
    stepG P true (G ((lawFr f).at a (.inRegion ops (i :: rest) :: k)) []) w = .go (G ((lawFr f).at (a.put o.dst (a.eval x)) (.inRegion ops rest :: k)) []) w #[] := by
  have hr : (execOp a.eval o).run P w = .ok (.value (a.eval x)) w := by unfold execOp; simp [hop, hc, asBool]
  rw [stepG_value ho (by simp only [Region.wanted, hg]) (by intro h; cases h) hr]
  have : listed P (lawFr f).fn a o w = #[] := by
    unfold listed
    rw [show (execOp a.eval o).events P w #[] = #[] by unfold execOp; simp [hop, hc, asBool]]
    exact seen_none _ _
  rw [this]
theorem step_doneG {F : FuncId → Prop} {fl : Func} (hF : FenceOk P F) (hin : F f) (hfl : P.funcs[f]? = some fl) (hres : fl.results = #[.tmp r]) {a : Act} {k : List Item} (hd : a.defers = []) (h4 : a.tmps.getD r undef = .bool true) (w : World) :
    stepG P true (G { (lawFr f).at a (.code .ret :: k) with mode := .returning } []) w = .ended (.done (.bool true)) w #[] := by
  obtain ⟨fn, c, hk⟩ := hF f hin
  have hfn : fn = fl := Option.some.inj (hk.at_.symm.trans hfl)
  have h1 : (results fn a.tmps).run P w = .ok (.bool true) w := by
    rw [results_tmp (t := r) (by rw [hfn]; exact hres) a.tmps P w, h4]
  have h2 : (results fn a.tmps).events P w #[] = #[] := events_results_tmp (t := r) (by rw [hfn]; exact hres) _ _
  have e1 : ∀ (fr : Frame) (z : World), fr.kind = .normal → fr.fn = f → doReturn P true fr [] none (.bool true) z = .ended (.done (.bool true)) z := fun fr z h3 h4 => by simp [doReturn, h3, h4, hk.ini]
  simp only [G, stepG, unwind, Frame.at, hd, hk.at_, Sem.runT_eq, h1, h2]
  rw [e1 _ _ rfl rfl]
  simp [GStep.after, seen_none]
theorem after_retG {F : FuncId → Prop} {fl : Func} (hF : FenceOk P F) (hin : F f) (hfl : P.funcs[f]? = some fl) (hres : fl.results = #[.tmp r]) {a : Act} {k : List Item} {ops : Array Oper} {w w' : World} (he : Env (OldL w) w w') (hd : a.defers = []) (h4 : a.tmps.getD r undef = .bool true) :
    Goes P true (fun w0 w1 => Env (OldL w) w0 w1) DC0 (AtRet P (fun v w1 => v = .bool true ∧ Env (OldL w) w w1)) 2 (G ((lawFr f).at a (.inRegion ops [] :: .code .ret :: k)) []) w' := by
  refine goes_oneG rfl (fun w1 => stepG_region_end) fun w1 h1 => goes_oneG rfl (fun w1 => stepG_ret') fun w2 h2 => Goes.stop fun w3 h3 => ?_
  exact ⟨rfl, _, step_doneG hF hin hfl hres hd h4 w3, rfl, ((he.trans h1).trans h2).trans h3⟩
theorem after_callG {F : FuncId → Prop} {fl : Func} (hF : FenceOk P F) (hin : F f) (hfl : P.funcs[f]? = some fl) (hres : fl.results = #[.tmp r]) (hrz : r < z) {a : Act} {k : List Item} (h : AtCallG S r z a k) {w w' : World} (he : Env (OldL w) w w') :
    Goes P true (fun w0 w1 => Env (OldL w) w0 w1) DC0 (AtRet P (fun v w1 => v = .bool true ∧ Env (OldL w) w w1)) 4 (G (((lawFr f).at a k).finish (.bool true)) []) w' := by
  cases h with
  | early k ops i j d h hdz hd hs =>
    obtain ⟨o, ho, hop, hg, hdst⟩ := h.o
    obtain ⟨o2, ho2, hop2, hg2, hdst2⟩ := h.p
    rw [Frame.finish_at, ho]
    simp only [Option.bind_some, hdst]
    refine goes_oneG (g' := G ((lawFr f).at ((a.put (some d) (.bool true)).put (some r) (.bool true)) (.inRegion ops [] :: .code .ret :: k)) []) rfl (fun w1 => ?_) fun w1 h1 => Goes.more (after_retG hF hin hfl hres (a := (a.put (some d) (.bool true)).put (some r) (.bool true)) (ops := ops) (k := k) (he.trans h1) (by rw [put_defers, put_defers, hd]) (put_same (by rw [put_size]; omega)))
    have h := step_assignG (P := P) (f := f) (a := a.put (some d) (.bool true)) (k := .code .ret :: k) (ops := ops) (i := j) (rest := []) (x := .tmp d) ho2 hg2 hop2 w1
    rw [h, hdst2, show (a.put (some d) (.bool true)).eval (.tmp d) = .bool true from put_same (by omega)]
  | late k ops i j1 j2 g c d e h hdz hez hd hs ht hcz =>
    obtain ⟨o, ho, hop, hg, hdst⟩ := h.o
    obtain ⟨o2, ho2, hop2, hg2, hdst2⟩ := h.p
    obtain ⟨o3, ho3, hop3, hg3, hdst3⟩ := h.q
    rw [Frame.finish_at, ho]
    simp only [Option.bind_some, hdst]
    refine goes_oneG (g' := G ((lawFr f).at ((a.put (some d) (.bool true)).put (some e) (.bool true)) (.inRegion ops [j2] :: .code .ret :: k)) []) rfl (fun w1 => ?_) fun w1 h1 => ?_
    · have h := step_pickG (P := P) (f := f) (a := a.put (some d) (.bool true)) (k := .code .ret :: k) (ops := ops) (i := j1) (rest := [j2]) (c := .tmp c) (x := .tmp d) (y := .const (.bool false)) ho2 hg2 hop2 ((put_far h.ne).trans ht) w1
      rw [h, hdst2, show (a.put (some d) (.bool true)).eval (.tmp d) = .bool true from put_same (by omega)]
    · refine goes_oneG (g' := G ((lawFr f).at (((a.put (some d) (.bool true)).put (some e) (.bool true)).put (some r) (.bool true)) (.inRegion ops [] :: .code .ret :: k)) []) rfl (fun w2 => ?_) fun w2 h2 => after_retG hF hin hfl hres ((he.trans h1).trans h2) (by rw [put_defers, put_defers, put_defers, hd]) (put_same (by rw [put_size, put_size]; omega))
      have h := step_assignG (P := P) (f := f) (a := (a.put (some d) (.bool true)).put (some e) (.bool true)) (k := .code .ret :: k) (ops := ops) (i := j2) (rest := []) (x := .tmp e) ho3 hg3 hop3 w2
      rw [h, hdst3, show ((a.put (some d) (.bool true)).put (some e) (.bool true)).eval (.tmp e) = .bool true from put_same (by rw [put_size]; omega)]
end
end Go.Proofs.YtpdmgecbapmgdaaGreat
end
section
namespace Go.Proofs.YtpdmgecbapmgdaaGreat
open Go.RowKit
theorem box_cells {W w : World} {rs rl rw many : Int} {A : Option Addr} {n c : Nat} (h : Below (W.heap.size + 1) (W.alloc (.cells #[.int .i64 rs, .int .i64 rl, .int .i64 rw, .int .i64 many, .slice A n c] 26)) w) :
    w.cell? ⟨W.heap.size, 0, none⟩ = some (.int .i64 rs) ∧ w.cell? ⟨W.heap.size, 1, none⟩ = some (.int .i64 rl) ∧ w.cell? ⟨W.heap.size, 2, none⟩ = some (.int .i64 rw) ∧ w.cell? ⟨W.heap.size, 3, none⟩ = some (.int .i64 many) ∧ w.cell? ⟨W.heap.size, 4, none⟩ = some (.slice A n c) := by
  refine ⟨?_, ?_, ?_, ?_, ?_⟩ <;> (rw [h.cell (by simp)]; go_simp)
def SaysMatched (p : Prop) (w : World) (e : Ending) (w' : World) : Prop := ∃ b : Bool, e = .returned (.bool b) ∧ (b = true ↔ p) ∧ Below w.heap.size w w'
theorem matched_any (rs rl rw many : Int) (A : Option Addr) (n c : Nat) (sh : Nat → Shaft) (LA : Option Addr) (m lc : Nat) (l : Nat → Nat) (PA : Option Addr) (pn pc : Nat) (p : Nat → Int) (W : World) (hc : n ≤ c) (hpc : pn ≤ pc) (hm : m ≤ 9) (hmc : m ≤ lc)
    (hst : Hid (StockOk rs rl rw many n sh)) (hsh : Hid (ShaftsAt W A n sh)) (hl : Hid (∀ k, k < m → l k < n)) (hi : Hid (IntsAt W LA m fun k => (l k : Int))) (hp : Hid (PicksAt W PA pn p)) :
    CallsIn Fc 0 Tryz.prog 35 #[stockV rs rl rw many A n c, .slice LA m lc, .slice PA pn pc] W (SaysMatched (MatchedP rs rl rw (realZ sh pn p) l m) W) := by
  have hn := hst.out.count
  obtain ⟨B, hB⟩ : ∃ B : Obj, B = .cells #[.int .i64 rs, .int .i64 rl, .int .i64 rw, .int .i64 many, .slice A n c] 26 := ⟨_, rfl⟩
  gi_enter Tryz.func35, Tryz.ntmps35
  gi_wp2
  rw [← hB]
  gi_loopw [7] (fun v wr => ∃ x : Nat, x ≤ 3 ∧ v = .int .i64 x ∧ Below (W.heap.size + 1) (W.alloc B) wr ∧ ∀ y, y < x → ∀ i, i < m → ∀ k, k < m → realZ sh pn p (l i) y - realZ sh pn p (l k) y ≤ allowOf rs rl rw y) (fun v _ => 3 - (intOf v).toNat)
  case atStart => exact ⟨0, by omega, rfl, Below.refl _ _, fun y h => by omega⟩
  case round =>
    obtain ⟨x, hx, rfl, hb, hall⟩ := hrel
    have HB := Lib.hid hb
    have HALL := Lib.hid hall
    clear hb hall
    by_cases hlt : x < 3
    · gi_wp2
      gi_loopw [8] (fun v wr => ∃ i : Nat, i ≤ m ∧ v = .int .i64 i ∧ Below (W.heap.size + 1) (W.alloc B) wr ∧ ∀ t, t < i → ∀ k, k < m → realZ sh pn p (l t) x - realZ sh pn p (l k) x ≤ allowOf rs rl rw x) (fun v _ => m - (intOf v).toNat)
      case atStart => exact ⟨0, by omega, rfl, HB.out, fun t h => by omega⟩
      case round =>
        obtain ⟨i, hi', rfl, hb, hall⟩ := hrel
        have HB := Lib.hid hb
        have HROW := Lib.hid hall
        clear hb hall
        by_cases hli : i < m
        · gi_wp2
          gi_loopw [9] (fun v wr => ∃ k : Nat, k ≤ m ∧ v = .int .i64 k ∧ Below (W.heap.size + 1) (W.alloc B) wr ∧ ∀ t, t < k → realZ sh pn p (l i) x - realZ sh pn p (l t) x ≤ allowOf rs rl rw x) (fun v _ => m - (intOf v).toNat)
          case atStart => exact ⟨0, by omega, rfl, HB.out, fun t h => by omega⟩
          case round =>
            obtain ⟨k, hk', rfl, hb, hall⟩ := hrel
            have HB := Lib.hid hb
            have HCOL := Lib.hid hall
            clear hb hall
            by_cases hlk : k < m
            · obtain ⟨b, o, rfl, hci⟩ := hi.out i hli
              obtain ⟨b', o', e', hck⟩ := hi.out k hlk
              cases e'
              have hwr : ∀ i k, i < m → k < m → IntKind.wrap .i64 (realZ sh pn p (l i) x - realZ sh pn p (l k) x) = realZ sh pn p (l i) x - realZ sh pn p (l k) x := fun i k h1 h2 => by
                have a1 := (hst.out.each _ (hl.out i h1)).spans
                have a2 := (hst.out.each _ (hl.out k h2)).spans
                have b1 := pickZ_in (a1.up x hlt) (choice_le hp.out (3 * l i + x)).1
                have b2 := pickZ_in (a2.up x hlt) (choice_le hp.out (3 * l k + x)).1
                have c1 := a1.least x hlt
                have c2 := a1.most x hlt
                have c3 := a2.least x hlt
                have c4 := a2.most x hlt
                unfold realZ
                simp [IntKind.wrap, IntKind.signed, IntKind.bits]
                omega
              gi_wp2
              refine wpIn_region_D (D := [(26, stockV rs rl rw many A n c), (27, .slice (some ⟨b, o, none⟩) m lc), (28, .int .i64 i), (29, .pointer (some ⟨b, o + i, none⟩)), (30, .int .i64 (l i)), (31, .int .i64 x), (32, .slice PA pn pc), (33, .int .i64 (realZ sh pn p (l i) x)), (34, stockV rs rl rw many A n c), (35, .slice (some ⟨b, o, none⟩) m lc), (36, .int .i64 k), (37, .pointer (some ⟨b, o + k, none⟩)), (38, .int .i64 (l k)), (39, .int .i64 x), (40, .slice PA pn pc), (41, .int .i64 (realZ sh pn p (l k) x)), (42, .int .i64 (realZ sh pn p (l i) x - realZ sh pn p (l k) x)), (43, .pointer (some ⟨W.heap.size, 0, none⟩)), (44, .agg #[.int .i64 rs, .int .i64 rl, .int .i64 rw, .int .i64 many]), (45, .int .i64 x), (46, .int .i64 (allowOf rs rl rw x)), (47, .bool (decide (realZ sh pn p (l i) x - realZ sh pn p (l k) x > allowOf rs rl rw x)))])
                (I := fun w => Below (W.heap.size + 1) (W.alloc B) w) (z := 48) (by kernel_rfl) (by kernel_rfl) (by kernel_rfl) (by kernel_rfl) (by kernel_rfl) rfl rfl HB.out.drew ?_ ?_
              · intro j a w hj hd hz hold hf hI
                rw [hB] at hI
                obtain ⟨c0, c1, c2, c3, c4⟩ := box_cells hI
                have HIB : Hid (Below (W.heap.size + 1) (W.alloc B) w) := Lib.hid (by rw [hB]; exact hI)
                have HSZ : W.heap.size + 1 ≤ w.heap.size := by have := hI.size; simpa using this
                have hBW : Below W.heap.size W w := ((Below.refl W.heap.size W).alloc (Nat.le_refl _) _).trans (hI.mono (by omega))
                have d1 := Below.old hBW hci
                have d2 := Below.old hBW hck
                have HBW := Lib.hid hBW
                clear hI hBW
                have w16 : IntKind.wrap .i64 (realZ sh pn p (l i) x - realZ sh pn p (l k) x) = realZ sh pn p (l i) x - realZ sh pn p (l k) x := hwr i k hli hlk
                have s1 := at_slot hz (hold 1 (by kernel_rfl)) (by omega)
                have s2 := at_slot hz (hold 2 (by kernel_rfl)) (by omega)
                have s3 := at_slot hz (hold 3 (by kernel_rfl)) (by omega)
                have s7 := at_slot hz (hold 7 (by kernel_rfl)) (by omega)
                have s8 := at_slot hz (hold 8 (by kernel_rfl)) (by omega)
                have s9 := at_slot hz (hold 9 (by kernel_rfl)) (by omega)
                clear hold
                have hjs : j = 0 ∨ j = 1 ∨ j = 2 ∨ j = 3 ∨ j = 4 ∨ j = 5 ∨ j = 6 ∨ j = 7 ∨ j = 8 ∨ j = 9 ∨ j = 10 ∨ j = 11 ∨ j = 12 ∨ j = 13 ∨ j = 14 ∨ j = 15 ∨ j = 16 ∨ j = 17 ∨ j = 18 ∨ j = 19 ∨ j = 20 ∨ j = 21 := by have : j < 22 := hj; omega
                rcases hjs with rfl | rfl | rfl | rfl | rfl | rfl | rfl | rfl | rfl | rfl | rfl | rfl | rfl | rfl | rfl | rfl | rfl | rfl | rfl | rfl | rfl | rfl
                · refine wpOpIn_step rfl fun K hK => ?_
                  go_simp
                  exact hK _ _ ⟨_, _, rfl, rfl, rfl, HIB.out⟩
                · refine wpOpIn_step rfl fun K hK => ?_
                  go_simp
                  exact hK _ _ ⟨_, _, rfl, rfl, rfl, HIB.out⟩
                · refine wpOpIn_step rfl fun K hK => ?_
                  go_simp
                  exact hK _ _ ⟨_, _, rfl, rfl, rfl, HIB.out⟩
                · have f27 := at_slot hz (hf 1 27 _ (by kernel_rfl) rfl) (by omega)
                  have f28 := at_slot hz (hf 2 28 _ (by kernel_rfl) rfl) (by omega)
                  refine wpOpIn_step rfl fun K hK => ?_
                  go_simp
                  exact hK _ _ ⟨_, _, rfl, rfl, rfl, HIB.out⟩
                · have f29 := at_slot hz (hf 3 29 _ (by kernel_rfl) rfl) (by omega)
                  refine wpOpIn_step rfl fun K hK => ?_
                  go_simp
                  exact hK _ _ ⟨_, _, rfl, rfl, rfl, HIB.out⟩
                · refine wpOpIn_step rfl fun K hK => ?_
                  go_simp
                  exact hK _ _ ⟨_, _, rfl, rfl, rfl, HIB.out⟩
                · refine wpOpIn_step rfl fun K hK => ?_
                  go_simp
                  exact hK _ _ ⟨_, _, rfl, rfl, rfl, HIB.out⟩
                · have f26 := at_slot hz (hf 0 26 _ (by kernel_rfl) rfl) (by omega)
                  have f30 := at_slot hz (hf 4 30 _ (by kernel_rfl) rfl) (by omega)
                  have f31 := at_slot hz (hf 5 31 _ (by kernel_rfl) rfl) (by omega)
                  have f32 := at_slot hz (hf 6 32 _ (by kernel_rfl) rfl) (by omega)
                  refine wpOpIn_step rfl fun K hK => ?_
                  go_simp
                  refine (real_any rs rl rw many A n c (l i) x sh PA pn pc p _ (hl.out i hli) hc hlt hpc hst (Lib.hid (hsh.out.below HBW.out)) (Lib.hid (hp.out.below HBW.out))).mono ?_
                  rintro e w' ⟨rfl, hb'⟩
                  exact hK _ _ ⟨_, _, rfl, rfl, rfl, HIB.out.trans (hb'.mono HSZ)⟩
                · refine wpOpIn_step rfl fun K hK => ?_
                  go_simp
                  exact hK _ _ ⟨_, _, rfl, rfl, rfl, HIB.out⟩
                · refine wpOpIn_step rfl fun K hK => ?_
                  go_simp
                  exact hK _ _ ⟨_, _, rfl, rfl, rfl, HIB.out⟩
                · refine wpOpIn_step rfl fun K hK => ?_
                  go_simp
                  exact hK _ _ ⟨_, _, rfl, rfl, rfl, HIB.out⟩
                · have f35 := at_slot hz (hf 9 35 _ (by kernel_rfl) rfl) (by omega)
                  have f36 := at_slot hz (hf 10 36 _ (by kernel_rfl) rfl) (by omega)
                  refine wpOpIn_step rfl fun K hK => ?_
                  go_simp
                  exact hK _ _ ⟨_, _, rfl, rfl, rfl, HIB.out⟩
                · have f37 := at_slot hz (hf 11 37 _ (by kernel_rfl) rfl) (by omega)
                  refine wpOpIn_step rfl fun K hK => ?_
                  go_simp
                  exact hK _ _ ⟨_, _, rfl, rfl, rfl, HIB.out⟩
                · refine wpOpIn_step rfl fun K hK => ?_
                  go_simp
                  exact hK _ _ ⟨_, _, rfl, rfl, rfl, HIB.out⟩
                · refine wpOpIn_step rfl fun K hK => ?_
                  go_simp
                  exact hK _ _ ⟨_, _, rfl, rfl, rfl, HIB.out⟩
                · have f34 := at_slot hz (hf 8 34 _ (by kernel_rfl) rfl) (by omega)
                  have f38 := at_slot hz (hf 12 38 _ (by kernel_rfl) rfl) (by omega)
                  have f39 := at_slot hz (hf 13 39 _ (by kernel_rfl) rfl) (by omega)
                  have f40 := at_slot hz (hf 14 40 _ (by kernel_rfl) rfl) (by omega)
                  refine wpOpIn_step rfl fun K hK => ?_
                  go_simp
                  refine (real_any rs rl rw many A n c (l k) x sh PA pn pc p _ (hl.out k hlk) hc hlt hpc hst (Lib.hid (hsh.out.below HBW.out)) (Lib.hid (hp.out.below HBW.out))).mono ?_
                  rintro e w' ⟨rfl, hb'⟩
                  exact hK _ _ ⟨_, _, rfl, rfl, rfl, HIB.out.trans (hb'.mono HSZ)⟩
                · have f33 := at_slot hz (hf 7 33 _ (by kernel_rfl) rfl) (by omega)
                  have f41 := at_slot hz (hf 15 41 _ (by kernel_rfl) rfl) (by omega)
                  refine wpOpIn_step rfl fun K hK => ?_
                  go_simp
                  exact hK _ _ ⟨_, _, rfl, rfl, rfl, HIB.out⟩
                · refine wpOpIn_step rfl fun K hK => ?_
                  go_simp
                  exact hK _ _ ⟨_, _, rfl, rfl, rfl, HIB.out⟩
                · have f43 := at_slot hz (hf 17 43 _ (by kernel_rfl) rfl) (by omega)
                  refine wpOpIn_step rfl fun K hK => ?_
                  go_simp
                  exact hK _ _ ⟨_, _, rfl, rfl, rfl, HIB.out⟩
                · refine wpOpIn_step rfl fun K hK => ?_
                  go_simp
                  exact hK _ _ ⟨_, _, rfl, rfl, rfl, HIB.out⟩
                · have f44 := at_slot hz (hf 18 44 _ (by kernel_rfl) rfl) (by omega)
                  have f45 := at_slot hz (hf 19 45 _ (by kernel_rfl) rfl) (by omega)
                  refine wpOpIn_step rfl fun K hK => ?_
                  go_simp
                  refine (Allowed_any rs rl rw many x hlt _).mono ?_
                  rintro e w' ⟨rfl, hb'⟩
                  exact hK _ _ ⟨_, _, rfl, rfl, rfl, HIB.out.trans (hb'.mono HSZ)⟩
                · have f42 := at_slot hz (hf 16 42 _ (by kernel_rfl) rfl) (by omega)
                  have f46 := at_slot hz (hf 20 46 _ (by kernel_rfl) rfl) (by omega)
                  refine wpOpIn_step rfl fun K hK => ?_
                  go_simp
                  exact hK _ _ ⟨_, _, rfl, rfl, rfl, HIB.out⟩
              · intro w hI
                have HI := Lib.hid hI
                clear hI
                simp only [List.foldl_cons, List.foldl_nil, List.setIfInBounds_toArray, List.set_cons_succ, List.set_cons_zero]
                by_cases hgt : realZ sh pn p (l i) x - realZ sh pn p (l k) x > allowOf rs rl rw x
                · simp only [hgt, decide_true]
                  gi_wp2
                  go_ret
                  refine ⟨false, rfl, ⟨fun h => (by cases h), fun h => absurd (h x hlt i hli k hlk) (by omega)⟩, ?_⟩
                  exact ((Below.refl W.heap.size W).alloc (Nat.le_refl _) _).trans (HI.out.mono (by omega))
                · simp only [hgt, decide_false]
                  gi_wp2
                  go_roundw
                  case rel => exact ⟨k + 1, by omega, by go_num, (by first | exact HI.out | (rw [← hB]; exact HI.out)), fun t ht => by
                    rcases Nat.lt_succ_iff_lt_or_eq.1 ht with ht | rfl
                    · exact HCOL.out t ht
                    · omega⟩
                  case measure => simp [intOf]; omega
            · gi_wp2
              obtain rfl : k = m := by omega
              go_roundw
              case rel => exact ⟨i + 1, by omega, by go_num, HB.out, fun t ht => by
                rcases Nat.lt_succ_iff_lt_or_eq.1 ht with ht | rfl
                · exact HROW.out t ht
                · exact HCOL.out⟩
              case measure => simp [intOf]; omega
        · gi_wp2
          obtain rfl : i = m := by omega
          go_roundw
          case rel => exact ⟨x + 1, by omega, by go_num, HB.out, fun y hy => by
            rcases Nat.lt_succ_iff_lt_or_eq.1 hy with hy | rfl
            · exact HALL.out y hy
            · exact HROW.out⟩
          case measure => simp [intOf]; omega
    · gi_wp2
      obtain rfl : x = 3 := by omega
      go_ret
      exact ⟨true, rfl, ⟨fun _ => HALL.out, fun _ => rfl⟩, ((Below.refl W.heap.size W).alloc (Nat.le_refl _) _).trans (HB.out.mono (by omega))⟩
end Go.Proofs.YtpdmgecbapmgdaaGreat
end
section
namespace Go.Proofs.YtpdmgecbapmgdaaGreat
open Go.RowKit
section
variable {F : Fence} {n : Nat} {P : Program} {ops : Array Oper} {Q : Exit → Act → World → Prop}
structure RD (ops : Array Oper) (k : Nat) (D : List (Nat × Value)) (I : World → Prop) (z : Nat) (a0 : Act) (listed : Array Bool) (a : Act) (w : World) : Prop where
  defers : a.defers = []
  size : a.tmps.size = z
  old : ∀ s, (∀ x ∈ D, x.1 ≠ s) → a.eval (.tmp s) = a0.eval (.tmp s)
  inv : I w
  fact : ∀ (j d : Nat) (v : Value), D[j]? = some (d, v) → listed.getD j false = true → a.eval (.tmp d) = v
  closed : ∀ i, listed.getD i false = true → ∀ j, depB ops i j = true → listed.getD j false = true
  none : ∀ i, k ≤ i → listed.getD i false = false
structure RL (F : Fence) (n : Nat) (P : Program) (ops : Array Oper) (Q : Exit → Act → World → Prop) (t : Nat) (listed : Array Bool) (a : Act) (w : World) : Prop where
  yes : ∀ i, i < t → listed.getD i false = true
  no : ∀ i, t ≤ i → listed.getD i false = false
  go : wpListIn F n P ops Q (ops.toList.drop t) a w
def nodupB (D : List Nat) : Bool := decide D.Nodup
end
end Go.Proofs.YtpdmgecbapmgdaaGreat
end
