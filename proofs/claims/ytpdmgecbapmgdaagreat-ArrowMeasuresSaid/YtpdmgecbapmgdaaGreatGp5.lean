/- A part of the proof that ArrowMeasures returns true for every input: no further condition. -/
import Derived.Test.YtpdmgecbapmgdaaGreatGp4
import Derived.Test.YtpdmgecbapmgdaaGreatGp2
import Derived.Test.YtpdmgecbapmgdaaGreatGp0
import Derived.Test.YtpdmgecbapmgdaaGreatLe1
import Derived.Conc.Own4
import Derived.Conc.LeavingOf
import Derived.Deep.Slices
import Derived.Lib.SmallJoins
import Derived.Test.YtpdmgecbapmgdaaGreatRows
import Derived.Carry
set_option linter.unusedSimpArgs false
set_option linter.unusedVariables false
set_option maxHeartbeats 8000000
set_option maxRecDepth 100000
section
namespace Go.Proofs.YtpdmgecbapmgdaaGreat
open Go.RowKit
section
variable (rs rl rw many : Int) (n : Nat) (sh : Nat → Shaft) (k m x0 x1 : Int)
noncomputable def measF (i : Nat) : Int := if i = 0 then stockZ rs rl rw many n sh else if i = 1 then hasZ n k else if i = 2 then limZ m 0 2 else outZ x0 x1 0 9999
noncomputable def measZ : Int := firstZ (measF rs rl rw many n sh k m x0 x1) 4
def MeasRel (W : World) (e : Ending) (w' : World) : Prop :=
  Below W.heap.size W w' ∧ ((measZ rs rl rw many n sh k m x0 x1 ≠ 0 ∧ e = .returned (.tuple #[stockV 0 0 0 0 none 0 0, .int .i64 (measZ rs rl rw many n sh k m x0 x1)])) ∨
    (measZ rs rl rw many n sh k m x0 x1 = 0 ∧ ((¬ max (spanA (sh k.toNat) m.toNat) x0 ≤ min (spanB (sh k.toNat) m.toNat) x1 ∧ e = .returned (.tuple #[stockV 0 0 0 0 none 0 0, .int .i64 10])) ∨
      (max (spanA (sh k.toNat) m.toNat) x0 ≤ min (spanB (sh k.toNat) m.toNat) x1 ∧ ∃ (A' : Option Addr) (c' : Nat), e = .returned (.tuple #[stockV rs rl rw many A' n c', .int .i64 0]) ∧ n ≤ c' ∧ ShaftsAt w' A' n (putSh sh k.toNat m.toNat (max (spanA (sh k.toNat) m.toNat) x0) (min (spanB (sh k.toNat) m.toNat) x1))))))
end
section
variable {rs rl rw many : Int} {n : Nat} {sh : Nat → Shaft} {k m x0 x1 : Int}
theorem measZ_zero : measZ rs rl rw many n sh k m x0 x1 = 0 ↔ stockZ rs rl rw many n sh = 0 ∧ hasZ n k = 0 ∧ limZ m 0 2 = 0 ∧ outZ x0 x1 0 9999 = 0 := by
  unfold measZ
  rw [firstZ_zero]
  constructor
  · intro h
    exact ⟨h 0 (by omega), h 1 (by omega), h 2 (by omega), h 3 (by omega)⟩
  · rintro ⟨h0, h1, h2, h3⟩ i hi
    have h4 : i = 0 ∨ i = 1 ∨ i = 2 ∨ i = 3 := by omega
    rcases h4 with rfl | rfl | rfl | rfl
    · exact h0
    · exact h1
    · exact h2
    · exact h3
theorem meas_ask (h : askZ rs rl rw many n sh k ≠ 0) : measZ rs rl rw many n sh k m x0 x1 = askZ rs rl rw many n sh k := by
  unfold askZ at h ⊢
  split at h
  · next h0 =>
    rw [if_pos h0]
    exact firstZ_at (F := measF rs rl rw many n sh k m x0 x1) (k := 1) (fun j hj => by obtain rfl : j = 0 := (by omega); exact h0) h (by omega)
  · next h0 =>
    rw [if_neg h0]
    exact firstZ_at (F := measF rs rl rw many n sh k m x0 x1) (k := 0) (fun j hj => by omega) h0 (by omega)
theorem ask_zero (h : askZ rs rl rw many n sh k = 0) : stockZ rs rl rw many n sh = 0 ∧ hasZ n k = 0 := by
  unfold askZ at h
  split at h
  · next h0 => exact ⟨h0, h⟩
  · next h0 => exact absurd h h0
theorem meas_lim (h : askZ rs rl rw many n sh k = 0) (hl : limZ m 0 2 = 1) : measZ rs rl rw many n sh k m x0 x1 = 1 := by
  obtain ⟨h0, h1⟩ := ask_zero h
  refine (firstZ_at (F := measF rs rl rw many n sh k m x0 x1) (k := 2) (fun j hj => ?_) (by show limZ m 0 2 ≠ 0; rw [hl]; decide) (by omega)).trans hl
  have h4 : j = 0 ∨ j = 1 := by omega
  rcases h4 with rfl | rfl
  · exact h0
  · exact h1
theorem meas_out (h : askZ rs rl rw many n sh k = 0) (h2 : limZ m 0 2 = 0) (hl : outZ x0 x1 0 9999 = 1) : measZ rs rl rw many n sh k m x0 x1 = 1 := by
  obtain ⟨h0, h1⟩ := ask_zero h
  refine (firstZ_at (F := measF rs rl rw many n sh k m x0 x1) (k := 3) (fun j hj => ?_) (by show outZ x0 x1 0 9999 ≠ 0; rw [hl]; decide) (by omega)).trans hl
  have h4 : j = 0 ∨ j = 1 ∨ j = 2 := by omega
  rcases h4 with rfl | rfl | rfl
  · exact h0
  · exact h1
  · exact h2
end
def RefF (s b o n c k m : Nat) (x : Shaft) (x0 x1 : Int) (lo : Nat) (u v : Int) : Nat → List Value → World → Prop
  | 0, vs, _ => vs = [.pointer (some ⟨s, 4, none⟩)]
  | 1, vs, _ => vs = [.slice (some ⟨b, o, none⟩) n c]
  | 2, vs, _ => vs = [.int .i64 k]
  | 3, vs, _ => vs = [.pointer (some ⟨b, o + k * 7, none⟩)]
  | 4, vs, _ => vs = [shaftV x]
  | 5, vs, _ => vs = [.int .i64 m]
  | 6, vs, _ => vs = [spanV (spanA x m) (spanB x m)]
  | 7, vs, _ => vs = [spanV x0 x1]
  | 8, vs, _ => vs = [spanV u v]
  | 9, vs, w => ∃ p : Nat, vs = [.pointer (some ⟨p, 0, none⟩)] ∧ lo ≤ p ∧ ∃ y z, SpanAt w p y z
  | 10, vs, w => ∃ p : Nat, vs = [.pointer (some ⟨p, 0, none⟩)] ∧ lo ≤ p ∧ SpanAt w p u v
  | _, _, _ => True
theorem RefF.below (s b o n c k m : Nat) (x : Shaft) (x0 x1 : Int) (lo : Nat) {u v : Int} {w w' : World} (hb : Below w.heap.size w w') (i : Nat) (vs : List Value) (h : RefF s b o n c k m x x0 x1 lo u v i vs w) : RefF s b o n c k m x x0 x1 lo u v i vs w' := by
  unfold RefF at h ⊢
  split
  all_goals simp only at h
  all_goals first
    | exact h
    | (obtain ⟨p, h1, h2, y, z, h3⟩ := h; exact ⟨p, h1, h2, y, z, h3.below hb⟩)
    | (obtain ⟨p, h1, h2, h3⟩ := h; exact ⟨p, h1, h2, h3.below hb⟩)
    | trivial
theorem RefF.store (s b o n c k m : Nat) (x : Shaft) (x0 x1 : Int) (lo : Nat) {u v : Int} {w : World} {p : Nat} {y z : Int} (hp : SpanAt w p y z) (i : Nat) (hi : i ≠ 10) {vs : List Value} (hv : i = 9 → vs = [.pointer (some ⟨p, 0, none⟩)]) (a t : Int) (h : RefF s b o n c k m x x0 x1 lo u v i vs w) : RefF s b o n c k m x x0 x1 lo u v i vs ((w.setCell ⟨p, 0, none⟩ (.int .i64 a)).setCell ⟨p, 1, none⟩ (.int .i64 t)) := by
  unfold RefF at h ⊢
  split
  all_goals simp only at h
  all_goals first
    | exact h
    | exact absurd rfl hi
    | (obtain ⟨p', h1, h2, y', z', h3⟩ := h
       have e := hv rfl
       rw [h1] at e
       simp only [List.cons.injEq, Value.pointer.injEq, Option.some.injEq, Addr.mk.injEq, and_true] at e
       subst e
       exact ⟨p', h1, h2, a, t, hp.set a t⟩)
    | trivial
theorem cells_of {w : World} {p : Nat} {a0 a1 a2 a3 a4 : Value} {t : TypeId} {fz : Nat × Nat} (h : w.heap[p]? = some (.cells #[a0, a1, a2, a3, a4] t fz)) : w.cell? ⟨p, 0, none⟩ = some a0 ∧ w.cell? ⟨p, 1, none⟩ = some a1 ∧ w.cell? ⟨p, 2, none⟩ = some a2 ∧ w.cell? ⟨p, 3, none⟩ = some a3 ∧ w.cell? ⟨p, 4, none⟩ = some a4 :=
  ⟨by simp [World.cell?, h], by simp [World.cell?, h], by simp [World.cell?, h], by simp [World.cell?, h], by simp [World.cell?, h]⟩
theorem stock_small {rs rl rw many : Int} {n : Nat} {sh : Nat → Shaft} (h : stockZ rs rl rw many n sh = 0) : n ≤ 9 := by
  have h1 := firstZ_zero.1 h 1 (by omega)
  simp only [stockF] at h1
  rw [if_neg (by decide), if_pos trivial] at h1
  by_cases hn : n ≤ 9
  · exact hn
  · rw [if_neg hn] at h1; cases h1
theorem shafts_box' {w : World} {A : Option Addr} {n q k : Nat} {sh : Nat → Shaft} {i0 i1 i2 i3 : Int} (h : ShaftsAt w A n sh) (hk : k < n) (hq : w.heap[q]? = some (.cells #[.int .i64 i0, .int .i64 i1, .int .i64 i2, .int .i64 i3, .slice none 0 0] 26 (0, 0))) : ∀ b o, A = some ⟨b, o, none⟩ → q ≠ b := shafts_box h hk (fun s => by simp) hq
theorem RefMeasure_any (rs rl rw many : Int) (A : Option Addr) (n c : Nat) (sh : Nat → Shaft) (k m x0 x1 : Int) (W : World) (hn20 : n ≤ 20) (hc : n ≤ c) (hsh : Hid (ShaftsAt W A n sh)) (hnm : Hid (∀ k, k < n → (sh k).name.size ≤ 100)) :
    CallsIn Fc 0 Tryz.prog 31 #[stockV rs rl rw many A n c, .int .i64 k, .int .i64 m, spanV x0 x1] W (MeasRel rs rl rw many n sh k m x0 x1 W) := by
  have hB3 : ∀ x y z, Below W.heap.size W (((W.alloc x).alloc y).alloc z) := fun x y z => (((Below.refl _ _).alloc (Nat.le_refl _) x).alloc (by simp) y).alloc (by simp <;> omega) z
  have HB3 := Lib.hid hB3
  clear hB3
  have hcall := fun w hb => askedShaft_any rs rl rw many A n c sh k w hn20 hc (Lib.hid (hsh.out.below hb)) hnm
  have HC := Lib.hid hcall
  clear hcall
  have l2 : W.heap.size ≤ W.heap.size + 1 + 1 := by omega
  generalize hR : MeasRel rs rl rw many n sh k m x0 x1 W = R
  have HR := Lib.hid hR
  clear hR
  by_cases ha : askZ rs rl rw many n sh k = 0
  · obtain ⟨hz0, hz1⟩ := ask_zero ha
    rw [ha] at HC
    by_cases hlm : 0 ≤ m ∧ m ≤ 2
    · obtain ⟨m', rfl⟩ : ∃ m' : Nat, m = m' := ⟨m.toNat, by omega⟩
      have hm : m' < 3 := by omega
      have hm1 : ¬ ((m' : Int) < 0) := by omega
      have hm2 : ¬ ((2 : Int) < (m' : Int)) := by omega
      have hkn : 0 ≤ k ∧ k < n := by
        unfold hasZ at hz1
        split at hz1
        · assumption
        · cases hz1
      obtain ⟨k', rfl⟩ : ∃ k' : Nat, k = k' := ⟨k.toNat, by omega⟩
      have hk : k' < n := by omega
      cases hins : insideB x0 x1 0 9999 with
      | false =>
        have HM : Hid (measZ rs rl rw many n sh k' m' x0 x1 = 1) := Lib.hid (meas_out ha (limZ_zero.2 hlm) (by
          rcases out_one x0 x1 0 9999 with h | h
          · exact absurd h (out_of hins)
          · exact h))
        have HI := Lib.hid hins
        clear ha hz0 hz1 hlm hkn hins
        gi_enter Tryz.func31, Tryz.ntmps31
        gi_wp2_with (first
          | (gi_at_call 76; refine (HC.out _ (HB3.out _ _ _)).mono ?_; rintro e w4 ⟨rfl, hb4⟩
             have HB4 := Lib.hid ((HB3.out _ _ _).trans (hb4.mono (HB3.out _ _ _).size))
             have y1 : w4.heap[W.heap.size + 1]? = some (.cells #[.int .i64 x0, .int .i64 x1] 52 (0, 0)) := by rw [hb4.block _ (by simp <;> omega), heap_alloc_old _ _ (by simp), heap_top _ _ (by simp)]
             have y2 : w4.heap[W.heap.size + 1 + 1]? = some (.cells #[.int .i64 0, .int .i64 0, .int .i64 0, .int .i64 0, .slice none 0 0] 26 (0, 0)) := by rw [hb4.block _ (by simp <;> omega), heap_top _ _ (by simp)]
             have X0 : w4.cell? ⟨W.heap.size + 1, 0, none⟩ = some (.int .i64 x0) := by simp [World.cell?, y1]
             have X1 : w4.cell? ⟨W.heap.size + 1, 1, none⟩ = some (.int .i64 x1) := by simp [World.cell?, y1]
             have HY2 := Lib.hid y2
             clear hb4 y1 y2)
          | (gi_at_call 64; refine (inside_any _ _ _ _ _).mono ?_; rintro e w5 ⟨rfl, hb5⟩; rw [HI.out]
             have HB5 := Lib.hid (HB4.out.trans (hb5.mono HB4.out.size))
             have y2 := (hb5.block _ (Array.getElem?_eq_some_iff.1 HY2.out).1).trans HY2.out
             obtain ⟨e0, e1, e2, e3, e4⟩ := cells_of y2
             have z2 := frozen_no y2
             clear hb5 y2))
        refine bodyPost_ret (v := .tuple #[stockV 0 0 0 0 none 0 0, .int .i64 1]) (results_measure rfl rfl rfl (by go_simp) (by go_simp) (by go_simp) (by go_simp) (by go_simp)) rfl ?_
        rw [← HR.out]
        exact ⟨((((HB5.out.setCell l2 _).setCell l2 _).setCell l2 _).setCell l2 _).setCell l2 _, .inl ⟨by rw [HM.out]; decide, by rw [HM.out]⟩⟩
      | true =>
        have HM : Hid (measZ rs rl rw many n sh k' m' x0 x1 = 0) := Lib.hid (measZ_zero.2 ⟨hz0, hz1, limZ_zero.2 hlm, in_of hins⟩)
        have HI := Lib.hid hins
        obtain ⟨b, o, rfl, _⟩ := hsh.out k' hk
        have hn9 : n ≤ 9 := stock_small hz0
        clear ha hz0 hz1 hlm hkn hins
        obtain ⟨u, hu⟩ : ∃ u, u = max (spanA (sh k') m') x0 := ⟨_, rfl⟩
        obtain ⟨v, hv⟩ : ∃ v, v = min (spanB (sh k') m') x1 := ⟨_, rfl⟩
        have HU := Lib.hid hu
        have HV := Lib.hid hv
        clear hu hv
        gi_enter Tryz.func31, Tryz.ntmps31
        gi_wp2_with (first
          | (gi_at_call 76; refine (HC.out _ (HB3.out _ _ _)).mono ?_; rintro e w4 ⟨rfl, hb4⟩
             have HB4 := Lib.hid ((HB3.out _ _ _).trans (hb4.mono (HB3.out _ _ _).size))
             have y0 : w4.heap[W.heap.size]? = some (.cells #[.int .i64 rs, .int .i64 rl, .int .i64 rw, .int .i64 many, .slice (some ⟨b, o, none⟩) n c] 26 (0, 0)) := by rw [hb4.block _ (by simp <;> omega), heap_alloc_old _ _ (by simp <;> omega), heap_alloc_old _ _ (by simp), heap_top _ _ rfl]
             have y1 : w4.heap[W.heap.size + 1]? = some (.cells #[.int .i64 x0, .int .i64 x1] 52 (0, 0)) := by rw [hb4.block _ (by simp <;> omega), heap_alloc_old _ _ (by simp), heap_top _ _ (by simp)]
             have y2 : w4.heap[W.heap.size + 1 + 1]? = some (.cells #[.int .i64 0, .int .i64 0, .int .i64 0, .int .i64 0, .slice none 0 0] 26 (0, 0)) := by rw [hb4.block _ (by simp <;> omega), heap_top _ _ (by simp)]
             have hs4 : W.heap.size + 3 ≤ w4.heap.size := by have := hb4.size; simp at this; omega
             have X0 : w4.cell? ⟨W.heap.size + 1, 0, none⟩ = some (.int .i64 x0) := by simp [World.cell?, y1]
             have X1 : w4.cell? ⟨W.heap.size + 1, 1, none⟩ = some (.int .i64 x1) := by simp [World.cell?, y1]
             have HY0 := Lib.hid y0
             have HY1 := Lib.hid y1
             have HY2 := Lib.hid y2
             clear hb4 y0 y1 y2)
          | (gi_at_call 64; refine (inside_any _ _ _ _ _).mono ?_; rintro e w5 ⟨rfl, hb5⟩; rw [HI.out]
             have HB5 := Lib.hid (HB4.out.trans (hb5.mono HB4.out.size))
             have v0 := (hb5.block _ (Array.getElem?_eq_some_iff.1 HY0.out).1).trans HY0.out
             have v1 := (hb5.block _ (Array.getElem?_eq_some_iff.1 HY1.out).1).trans HY1.out
             have v2 := (hb5.block _ (Array.getElem?_eq_some_iff.1 HY2.out).1).trans HY2.out
             have hs5 : W.heap.size + 3 ≤ w5.heap.size := Nat.le_trans hs4 hb5.size
             clear hb5 X0 X1))
        have HV0 := Lib.hid v0
        have HV1 := Lib.hid v1
        have HV2 := Lib.hid v2
        clear v0 v1 v2
        refine wpIn_region_F (sup := fun j => ([[31], [32], [33], [34], [35], [36], [37], [38], [39], [11], [11]] : List (List Nat)).getD j []) (Ψ := RefF W.heap.size b o n c k' m' (sh k') x0 x1 w5.heap.size u v) (I := fun w => Below w5.heap.size w5 w) (z := 51) (by kernel_rfl) (by kernel_rfl) (by kernel_rfl) rfl rfl (Below.refl _ _).drew (fun listed a w j' hj hr => ?_) fun listed a w hj hall => ?_
        · have hjs' : j' < 11 := by
            obtain ⟨_, o', h3, _⟩ := mem_ready.1 hr
            exact (Array.getElem?_eq_some_iff.1 h3).1
          have hI := hj.inv
          obtain ⟨tm, df⟩ := a
          have hdf := hj.defers
          simp only at hdf
          subst hdf
          have hz' : ∀ {d : Nat}, d < 51 → d < (Act.mk tm []).tmps.size := fun h => by rw [hj.size]; exact h
          have g1 := at_slot hj.size (show Act.eval _ (.tmp 1) = .int .i64 k' from (hj.old 1 (oldB_use (by kernel_rfl)))) (by omega)
          have g2 := at_slot hj.size (show Act.eval _ (.tmp 2) = .int .i64 m' from (hj.old 2 (oldB_use (by kernel_rfl)))) (by omega)
          have g4 := at_slot hj.size (show Act.eval _ (.tmp 4) = .pointer (some ⟨W.heap.size, 0, none⟩) from (hj.old 4 (oldB_use (by kernel_rfl)))) (by omega)
          have g7 := at_slot hj.size (show Act.eval _ (.tmp 7) = .pointer (some ⟨W.heap.size + 1, 0, none⟩) from (hj.old 7 (oldB_use (by kernel_rfl)))) (by omega)
          have y0 := (hI.block _ (by omega)).trans HV0.out
          have y1 := (hI.block _ (by omega)).trans HV1.out
          have E4 : w.cell? ⟨W.heap.size, 4, none⟩ = some (.slice (some ⟨b, o, none⟩) n c) := by simp [World.cell?, y0]
          have X0 : w.cell? ⟨W.heap.size + 1, 0, none⟩ = some (.int .i64 x0) := by simp [World.cell?, y1]
          have X1 : w.cell? ⟨W.heap.size + 1, 1, none⟩ = some (.int .i64 x1) := by simp [World.cell?, y1]
          clear y0 y1
          obtain ⟨bb, oo, ee, hx⟩ := hsh.out k' hk
          cases ee
          obtain ⟨q0, q1, q2, q3, q4, q5, q6⟩ := hx.below (HB5.out.trans (hI.mono HB5.out.size))
          have hjs : j' = 0 ∨ j' = 1 ∨ j' = 2 ∨ j' = 3 ∨ j' = 4 ∨ j' = 5 ∨ j' = 6 ∨ j' = 7 ∨ j' = 8 ∨ j' = 9 ∨ j' = 10 := by omega
          rcases hjs with rfl | rfl | rfl | rfl | rfl | rfl | rfl | rfl | rfl | rfl | rfl
          · refine wpOpIn_step rfl fun K hK => ?_
            go_simp
            exact hK _ _ (RFNext.pure (d := 31) rfl hI (hz' (by omega)) rfl rfl)
          · have f31 := at_slot hj.size (show Act.eval _ (.tmp 31) = .pointer (some ⟨W.heap.size, 4, none⟩) from (List.cons.inj (hj.fact 0 (by decide) (dep hr (by kernel_rfl)))).1) (by omega)
            refine wpOpIn_step rfl fun K hK => ?_
            go_simp
            exact hK _ _ (RFNext.pure (d := 32) rfl hI (hz' (by omega)) rfl rfl)
          · refine wpOpIn_step rfl fun K hK => ?_
            go_simp
            exact hK _ _ (RFNext.pure (d := 33) rfl hI (hz' (by omega)) rfl rfl)
          · have f32 := at_slot hj.size (show Act.eval _ (.tmp 32) = .slice (some ⟨b, o, none⟩) n c from (List.cons.inj (hj.fact 1 (by decide) (dep hr (by kernel_rfl)))).1) (by omega)
            have f33 := at_slot hj.size (show Act.eval _ (.tmp 33) = .int .i64 k' from (List.cons.inj (hj.fact 2 (by decide) (dep hr (by kernel_rfl)))).1) (by omega)
            refine wpOpIn_step rfl fun K hK => ?_
            go_simp
            exact hK _ _ (RFNext.pure (d := 34) rfl hI (hz' (by omega)) rfl rfl)
          · have f34 := at_slot hj.size (show Act.eval _ (.tmp 34) = .pointer (some ⟨b, o + k' * 7, none⟩) from (List.cons.inj (hj.fact 3 (by decide) (dep hr (by kernel_rfl)))).1) (by omega)
            refine wpOpIn_step rfl fun K hK => ?_
            go_simp
            exact hK _ _ (RFNext.pure (d := 35) rfl hI (hz' (by omega)) rfl rfl)
          · refine wpOpIn_step rfl fun K hK => ?_
            go_simp
            exact hK _ _ (RFNext.pure (d := 36) rfl hI (hz' (by omega)) rfl rfl)
          · have f35 := at_slot hj.size (show Act.eval _ (.tmp 35) = shaftV (sh k') from (List.cons.inj (hj.fact 4 (by decide) (dep hr (by kernel_rfl)))).1) (by omega)
            have f36 := at_slot hj.size (show Act.eval _ (.tmp 36) = .int .i64 m' from (List.cons.inj (hj.fact 5 (by decide) (dep hr (by kernel_rfl)))).1) (by omega)
            refine wpOpIn_step rfl fun K hK => ?_
            go_simp
            refine (Measured_any (sh k') m' hm w).mono ?_
            rintro e w2 ⟨rfl, hb'⟩
            exact hK _ _ (RFNext.grow (d := 37) (fun i vs h => RefF.below _ _ _ _ _ _ _ _ _ _ _ hb' i vs h) rfl (hI.trans (hb'.mono hI.size)) (hz' (by omega)) rfl rfl)
          · refine wpOpIn_step rfl fun K hK => ?_
            go_simp
            exact hK _ _ (RFNext.pure (d := 38) rfl hI (hz' (by omega)) rfl rfl)
          · have f37 := at_slot hj.size (show Act.eval _ (.tmp 37) = spanV (spanA (sh k') m') (spanB (sh k') m') from (List.cons.inj (hj.fact 6 (by decide) (dep hr (by kernel_rfl)))).1) (by omega)
            have f38 := at_slot hj.size (show Act.eval _ (.tmp 38) = spanV x0 x1 from (List.cons.inj (hj.fact 7 (by decide) (dep hr (by kernel_rfl)))).1) (by omega)
            refine wpOpIn_step rfl fun K hK => ?_
            go_simp
            refine (Both_any _ _ _ _ w).mono ?_
            rintro e w2 ⟨rfl, hb'⟩
            exact hK _ _ (RFNext.grow (d := 39) (fun i vs h => RefF.below _ _ _ _ _ _ _ _ _ _ _ hb' i vs h) rfl (hI.trans (hb'.mono hI.size)) (hz' (by omega)) rfl (by rw [← HU.out, ← HV.out]; rfl))
          · refine wpOpIn_step rfl fun K hK => ?_
            go_simp
            have hb' : Below w.heap.size w (w.alloc (.cells #[.int .i64 0, .int .i64 0] 52)) := (Below.refl _ _).alloc (Nat.le_refl _) _
            exact hK _ _ (RFNext.grow (d := 11) (fun i vs h => RefF.below _ _ _ _ _ _ _ _ _ _ _ hb' i vs h) rfl (hI.trans (hb'.mono hI.size)) (hz' (by omega)) rfl ⟨w.heap.size, rfl, hI.size, 0, 0, heap_new _ _⟩)
          · obtain ⟨p, g11, hlo, y, z, hp⟩ := hj.fact 9 (by decide) (dep hr (by kernel_rfl))
            have f11 := at_slot hj.size (show Act.eval _ (.tmp 11) = .pointer (some ⟨p, 0, none⟩) from (List.cons.inj g11).1) (by omega)
            have f39 := at_slot hj.size (show Act.eval _ (.tmp 39) = spanV u v from (List.cons.inj (hj.fact 8 (by decide) (dep hr (by kernel_rfl)))).1) (by omega)
            obtain ⟨cp, cq⟩ := hp.cell
            have fz0 := hp.frozen 0
            have fz1 := hp.frozen 1
            refine wpOpIn_step rfl fun K hK => ?_
            go_simp
            refine hK _ _ ⟨⟨undef, rfl⟩, (hI.setCell hlo _).setCell hlo _, fun i hi hne hl h => RefF.store _ _ _ _ _ _ _ _ _ _ _ hp i hne (fun e => by subst e; exact g11) _ _ h, p, g11, hlo, hp.set _ _⟩
        · obtain ⟨p, g11, hlo, hp⟩ := hall 10 (by decide)
          have e11 : a.eval (.tmp 11) = .pointer (some ⟨p, 0, none⟩) := (List.cons.inj g11).1
          have e := hj.act rfl [31, 32, 33, 34, 35, 36, 37, 38, 39, 11] (by kernel_rfl)
          simp only [List.map_cons, List.map_nil, List.foldl_cons, List.foldl_nil, e11] at e
          generalize a.eval (.tmp 31) = y31 at e
          generalize a.eval (.tmp 32) = y32 at e
          generalize a.eval (.tmp 33) = y33 at e
          generalize a.eval (.tmp 34) = y34 at e
          generalize a.eval (.tmp 35) = y35 at e
          generalize a.eval (.tmp 36) = y36 at e
          generalize a.eval (.tmp 37) = y37 at e
          generalize a.eval (.tmp 38) = y38 at e
          generalize a.eval (.tmp 39) = y39 at e
          have hI := hj.inv
          clear hj hall e11 g11
          subst e
          simp only [List.foldl_cons, List.foldl_nil, List.setIfInBounds_toArray, List.set_cons_succ, List.set_cons_zero]
          have y0 := (hI.block _ (by omega)).trans HV0.out
          have y2 := (hI.block _ (by omega)).trans HV2.out
          obtain ⟨cp, cq⟩ := hp.cell
          obtain ⟨d0, d1, d2, d3, d4⟩ := cells_of y0
          obtain ⟨e0, e1, e2, e3, e4⟩ := cells_of y2
          have z2 := frozen_no y2
          have HB6 := Lib.hid (HB5.out.trans (hI.mono HB5.out.size))
          have HS6 : Hid (ShaftsAt w (some ⟨b, o, none⟩) n sh) := Lib.hid (hsh.out.below HB6.out)
          have HY2' := Lib.hid y2
          clear hI y0 y2 hp
          by_cases hcm : u ≤ v
          · have hcm' : ¬ u > v := by omega
            have HC2 : Hid (max (spanA (sh k') m') x0 ≤ min (spanB (sh k') m') x1) := Lib.hid (by rw [← HU.out, ← HV.out]; exact hcm)
            clear e0 e1 e2 e3 e4 z2
            gi_wp2_with (gi_at_call 38; refine (Put_any rs rl rw many (some ⟨b, o, none⟩) n c k' m' sh u v w hn9 hk hc hm HS6).mono ?_; rintro e w7 ⟨A7, c7, rfl, hc7, hr7, hb7⟩
                         have y2 := (hb7.block _ (Array.getElem?_eq_some_iff.1 HY2'.out).1).trans HY2'.out
                         obtain ⟨e0, e1, e2, e3, e4⟩ := cells_of y2
                         have z2 := frozen_no y2
                         have hne := shafts_box' hr7 hk y2
                         have HB7 := Lib.hid (HB6.out.trans (hb7.mono HB6.out.size))
                         have HR7 := Lib.hid hr7
                         clear hb7 hr7 y2)
            refine bodyPost_ret (v := .tuple #[stockV rs rl rw many A7 n c7, .int .i64 0]) (results_measure rfl rfl rfl (by go_simp) (by go_simp) (by go_simp) (by go_simp) (by go_simp)) rfl ?_
            rw [← HR.out]
            refine ⟨((((HB7.out.setCell l2 _).setCell l2 _).setCell l2 _).setCell l2 _).setCell l2 _, .inr ⟨HM.out, .inr ⟨HC2.out, A7, c7, rfl, hc7, ?_⟩⟩⟩
            have h1 := HR7.out
            rw [HU.out, HV.out] at h1
            exact shafts_far' (shafts_far' (shafts_far' (shafts_far' (shafts_far' h1 hne _) hne _) hne _) hne _) hne _
          · have hcm' : u > v := by omega
            have HC2 : Hid (¬ max (spanA (sh k') m') x0 ≤ min (spanB (sh k') m') x1) := Lib.hid (by rw [← HU.out, ← HV.out]; exact hcm)
            gi_wp2
            refine bodyPost_ret (v := .tuple #[stockV 0 0 0 0 none 0 0, .int .i64 10]) (results_measure rfl rfl rfl (by go_simp) (by go_simp) (by go_simp) (by go_simp) (by go_simp)) rfl ?_
            rw [← HR.out]
            exact ⟨((((HB6.out.setCell l2 _).setCell l2 _).setCell l2 _).setCell l2 _).setCell l2 _, .inr ⟨HM.out, .inl ⟨Int.not_le.2 HC2.out, rfl⟩⟩⟩
    · have HM : Hid (measZ rs rl rw many n sh k m x0 x1 = 1) := Lib.hid (meas_lim ha (if_neg hlm))
      by_cases hm0 : m < 0
      · clear ha hz0 hz1 hlm
        gi_enter Tryz.func31, Tryz.ntmps31
        gi_wp2_with (gi_at_call 76; refine (HC.out _ (HB3.out _ _ _)).mono ?_; rintro e w4 ⟨rfl, hb4⟩
                     have HB4 := Lib.hid ((HB3.out _ _ _).trans (hb4.mono (HB3.out _ _ _).size))
                     have y2 : w4.heap[W.heap.size + 1 + 1]? = some (.cells #[.int .i64 0, .int .i64 0, .int .i64 0, .int .i64 0, .slice none 0 0] 26 (0, 0)) := by rw [hb4.block _ (by simp <;> omega), heap_top _ _ (by simp)]
                     obtain ⟨e0, e1, e2, e3, e4⟩ := cells_of y2
                     have z2 := frozen_no y2
                     clear hb4 y2)
        refine bodyPost_ret (v := .tuple #[stockV 0 0 0 0 none 0 0, .int .i64 1]) (results_measure rfl rfl rfl (by go_simp) (by go_simp) (by go_simp) (by go_simp) (by go_simp)) rfl ?_
        rw [← HR.out]
        exact ⟨((((HB4.out.setCell l2 _).setCell l2 _).setCell l2 _).setCell l2 _).setCell l2 _, .inl ⟨by rw [HM.out]; decide, by rw [HM.out]⟩⟩
      · have hm2 : 2 < m := by omega
        clear ha hz0 hz1 hlm
        gi_enter Tryz.func31, Tryz.ntmps31
        gi_wp2_with (gi_at_call 76; refine (HC.out _ (HB3.out _ _ _)).mono ?_; rintro e w4 ⟨rfl, hb4⟩
                     have HB4 := Lib.hid ((HB3.out _ _ _).trans (hb4.mono (HB3.out _ _ _).size))
                     have y2 : w4.heap[W.heap.size + 1 + 1]? = some (.cells #[.int .i64 0, .int .i64 0, .int .i64 0, .int .i64 0, .slice none 0 0] 26 (0, 0)) := by rw [hb4.block _ (by simp <;> omega), heap_top _ _ (by simp)]
                     obtain ⟨e0, e1, e2, e3, e4⟩ := cells_of y2
                     have z2 := frozen_no y2
                     clear hb4 y2)
        refine bodyPost_ret (v := .tuple #[stockV 0 0 0 0 none 0 0, .int .i64 1]) (results_measure rfl rfl rfl (by go_simp) (by go_simp) (by go_simp) (by go_simp) (by go_simp)) rfl ?_
        rw [← HR.out]
        exact ⟨((((HB4.out.setCell l2 _).setCell l2 _).setCell l2 _).setCell l2 _).setCell l2 _, .inl ⟨by rw [HM.out]; decide, by rw [HM.out]⟩⟩
  · have HM : Hid (measZ rs rl rw many n sh k m x0 x1 = askZ rs rl rw many n sh k) := Lib.hid (meas_ask ha)
    generalize askZ rs rl rw many n sh k = z at *
    gi_enter Tryz.func31, Tryz.ntmps31
    gi_wp2_with (gi_at_call 76; refine (HC.out _ (HB3.out _ _ _)).mono ?_; rintro e w4 ⟨rfl, hb4⟩
                 have HB4 := Lib.hid ((HB3.out _ _ _).trans (hb4.mono (HB3.out _ _ _).size))
                 have y2 : w4.heap[W.heap.size + 1 + 1]? = some (.cells #[.int .i64 0, .int .i64 0, .int .i64 0, .int .i64 0, .slice none 0 0] 26 (0, 0)) := by rw [hb4.block _ (by simp <;> omega), heap_top _ _ (by simp)]
                 obtain ⟨e0, e1, e2, e3, e4⟩ := cells_of y2
                 have z2 := frozen_no y2
                 clear hb4 y2)
    refine bodyPost_ret (v := .tuple #[stockV 0 0 0 0 none 0 0, .int .i64 z]) (results_measure rfl rfl rfl (by go_simp) (by go_simp) (by go_simp) (by go_simp) (by go_simp)) rfl ?_
    rw [← HR.out]
    exact ⟨((((HB4.out.setCell l2 _).setCell l2 _).setCell l2 _).setCell l2 _).setCell l2 _, .inl ⟨by rw [HM.out]; exact ha, by rw [HM.out]⟩⟩
end Go.Proofs.YtpdmgecbapmgdaaGreat
end
section
namespace Go.Proofs.YtpdmgecbapmgdaaGreat
open Go.RowKit
section
variable (rs rl rw many : Int) (A : Option Addr) (n c : Nat) (k m x0 x1 : Int) (F : Nat → Int)
def ChkG : Nat → List Value → World → Prop
  | 0, vs, _ => vs = [stockV rs rl rw many A n c]
  | 1, vs, _ => vs = [.func (.func 56) #[stockV rs rl rw many A n c] #[]]
  | 2, vs, _ => vs = [stockV rs rl rw many A n c]
  | 3, vs, _ => vs = [.int .i64 k]
  | 4, vs, w => ∃ v, vs = [v] ∧ CheckIs v (F 1) w
  | 5, vs, _ => vs = [.int .i64 m]
  | 6, vs, w => ∃ v, vs = [v] ∧ CheckIs v (F 2) w
  | 7, vs, _ => vs = [spanV x0 x1]
  | 8, vs, w => ∃ v, vs = [v] ∧ CheckIs v (F 3) w
  | 9, vs, w => ∃ g : Nat, vs = [.slice (some ⟨g, 0, none⟩) 4 4] ∧ ∀ i, i < 4 → ∃ v, w.cell? ⟨g, i, none⟩ = some v ∧ CheckIs v (F i) w
  | 10, vs, _ => ∃ f : Int, vs = [.int .i64 f] ∧ f = firstZ F 4
  | 11, vs, _ => ∃ f : Int, vs = [.int .i64 f] ∧ f = firstZ F 4
  | _, _, _ => True
theorem ChkG.below {w w' : World} (hb : Below w.heap.size w w') (i : Nat) (vs : List Value) (h : ChkG rs rl rw many A n c k m x0 x1 F i vs w) : ChkG rs rl rw many A n c k m x0 x1 F i vs w' := by
  unfold ChkG at h ⊢
  split
  all_goals simp only at h
  all_goals first
    | exact h
    | (obtain ⟨v, h1, h2⟩ := h; exact ⟨v, h1, h2.below hb⟩)
    | (obtain ⟨g, h1, h2⟩ := h
       refine ⟨g, h1, fun i hi => ?_⟩
       obtain ⟨v, h3, h4⟩ := h2 i hi
       exact ⟨v, Below.old hb h3, h4.below hb⟩)
    | trivial
end
theorem Measure_foul (rs rl rw many : Int) (A : Option Addr) (n c : Nat) (sh : Nat → Shaft) (k m x0 x1 : Int) (W : World) (hn : n ≤ 20) (hc : n ≤ c) (hsh : Hid (ShaftsAt W A n sh)) (hln : Hid (∀ k, k < n → (sh k).name.size ≤ 200)) (hz : Hid (measZ rs rl rw many n sh k m x0 x1 ≠ 0)) :
    CallsIn Fc 0 Tryz.prog 30 #[stockV rs rl rw many A n c, .int .i64 k, .int .i64 m, spanV x0 x1] W fun e w' => e = .returned (.tuple #[stockV 0 0 0 0 none 0 0, .int .i64 (measZ rs rl rw many n sh k m x0 x1)]) ∧ Below W.heap.size W w' := by
  gi_enter Tryz.func30, Tryz.ntmps30
  gi_wp2
  have hW4 : Hid (Below W.heap.size W ((((W.alloc (.cells #[.int .i64 rs, .int .i64 rl, .int .i64 rw, .int .i64 many, .slice A n c] 26)).alloc (.cells #[.int .i64 x0, .int .i64 x1] 52)).alloc (.cells #[.int .i64 0, .int .i64 0, .int .i64 0, .int .i64 0, .slice none 0 0] 26)).alloc (.cells #[.int .i64 rs, .int .i64 rl, .int .i64 rw, .int .i64 many, .slice A n c] 99))) := Lib.hid ((((((Below.refl _ _).alloc (Nat.le_refl _) _).alloc (by simp) _).alloc (by simp <;> omega) _).alloc (by simp <;> omega) _))
  have b0 : (((((W.alloc (.cells #[.int .i64 rs, .int .i64 rl, .int .i64 rw, .int .i64 many, .slice A n c] 26)).alloc (.cells #[.int .i64 x0, .int .i64 x1] 52)).alloc (.cells #[.int .i64 0, .int .i64 0, .int .i64 0, .int .i64 0, .slice none 0 0] 26)).alloc (.cells #[.int .i64 rs, .int .i64 rl, .int .i64 rw, .int .i64 many, .slice A n c] 99))).heap[W.heap.size]? = some (.cells #[.int .i64 rs, .int .i64 rl, .int .i64 rw, .int .i64 many, .slice A n c] 26 (0, 0)) := by rw [heap_alloc_old _ _ (by simp <;> omega), heap_alloc_old _ _ (by simp <;> omega), heap_alloc_old _ _ (by simp), heap_top _ _ rfl]
  have b1 : (((((W.alloc (.cells #[.int .i64 rs, .int .i64 rl, .int .i64 rw, .int .i64 many, .slice A n c] 26)).alloc (.cells #[.int .i64 x0, .int .i64 x1] 52)).alloc (.cells #[.int .i64 0, .int .i64 0, .int .i64 0, .int .i64 0, .slice none 0 0] 26)).alloc (.cells #[.int .i64 rs, .int .i64 rl, .int .i64 rw, .int .i64 many, .slice A n c] 99))).heap[W.heap.size + 1]? = some (.cells #[.int .i64 x0, .int .i64 x1] 52 (0, 0)) := by rw [heap_alloc_old _ _ (by simp <;> omega), heap_alloc_old _ _ (by simp), heap_top _ _ (by simp)]
  have b2 : (((((W.alloc (.cells #[.int .i64 rs, .int .i64 rl, .int .i64 rw, .int .i64 many, .slice A n c] 26)).alloc (.cells #[.int .i64 x0, .int .i64 x1] 52)).alloc (.cells #[.int .i64 0, .int .i64 0, .int .i64 0, .int .i64 0, .slice none 0 0] 26)).alloc (.cells #[.int .i64 rs, .int .i64 rl, .int .i64 rw, .int .i64 many, .slice A n c] 99))).heap[W.heap.size + 1 + 1]? = some (.cells #[.int .i64 0, .int .i64 0, .int .i64 0, .int .i64 0, .slice none 0 0] 26 (0, 0)) := by rw [heap_alloc_old _ _ (by simp), heap_top _ _ (by simp)]
  have b3 : (((((W.alloc (.cells #[.int .i64 rs, .int .i64 rl, .int .i64 rw, .int .i64 many, .slice A n c] 26)).alloc (.cells #[.int .i64 x0, .int .i64 x1] 52)).alloc (.cells #[.int .i64 0, .int .i64 0, .int .i64 0, .int .i64 0, .slice none 0 0] 26)).alloc (.cells #[.int .i64 rs, .int .i64 rl, .int .i64 rw, .int .i64 many, .slice A n c] 99))).heap[W.heap.size + 1 + 1 + 1]? = some (.cells #[.int .i64 rs, .int .i64 rl, .int .i64 rw, .int .i64 many, .slice A n c] 99 (0, 0)) := by rw [heap_top _ _ (by simp)]
  have hs4 : (((((W.alloc (.cells #[.int .i64 rs, .int .i64 rl, .int .i64 rw, .int .i64 many, .slice A n c] 26)).alloc (.cells #[.int .i64 x0, .int .i64 x1] 52)).alloc (.cells #[.int .i64 0, .int .i64 0, .int .i64 0, .int .i64 0, .slice none 0 0] 26)).alloc (.cells #[.int .i64 rs, .int .i64 rl, .int .i64 rw, .int .i64 many, .slice A n c] 99))).heap.size = W.heap.size + 4 := by simp
  generalize ((((W.alloc (.cells #[.int .i64 rs, .int .i64 rl, .int .i64 rw, .int .i64 many, .slice A n c] 26)).alloc (.cells #[.int .i64 x0, .int .i64 x1] 52)).alloc (.cells #[.int .i64 0, .int .i64 0, .int .i64 0, .int .i64 0, .slice none 0 0] 26)).alloc (.cells #[.int .i64 rs, .int .i64 rl, .int .i64 rw, .int .i64 many, .slice A n c] 99)) = W4 at *
  refine wpIn_cutR (M := fun a w => ∃ (x17 x18 x19 x20 x21 x22 x23 x24 x25 x26 x27 : Value) (f : Int), a = { tmps := #[stockV rs rl rw many A n c, .int .i64 k, .int .i64 m, spanV x0 x1, .pointer (some ⟨W.heap.size, 0, none⟩), undef, undef, .pointer (some ⟨W.heap.size + 1, 0, none⟩), .pointer (some ⟨W.heap.size + 1 + 1, 0, none⟩), .int .i64 0, .pointer (some ⟨W.heap.size + 1 + 1 + 1, 0, none⟩), .int .i64 f, undef, undef, undef, stockV rs rl rw many A n c, stockV rs rl rw many A n c, x17, x18, x19, x20, x21, x22, x23, x24, x25, x26, x27, undef, undef, undef, undef, undef, undef, undef, undef, undef, undef, undef, undef, undef, undef, undef, undef, undef, undef, undef, undef, undef, undef, undef, undef, undef, undef, undef, undef, undef, undef, undef, undef, undef], defers := [] } ∧ f = firstZ (measF rs rl rw many n sh k m x0 x1) 4 ∧ Below W4.heap.size W4 w) ?_ ?_
  · refine wpIn_region_F (sup := fun j => ([[17], [18], [19], [20], [21], [22], [23], [24], [25], [26], [27], [11]] : List (List Nat)).getD j []) (Ψ := ChkG rs rl rw many A n c k m x0 x1 (measF rs rl rw many n sh k m x0 x1)) (I := fun w => Below W4.heap.size W4 w) (z := 61) (by kernel_rfl) (by kernel_rfl) (by kernel_rfl) rfl rfl (Below.refl _ _).drew (fun listed a w j' hj hr => ?_) fun listed a w hj hall => ?_
    · have hjs' : j' < 12 := by
        obtain ⟨_, o', h3, _⟩ := mem_ready.1 hr
        exact (Array.getElem?_eq_some_iff.1 h3).1
      have hI := hj.inv
      obtain ⟨tm, df⟩ := a
      have hdf := hj.defers
      simp only at hdf
      subst hdf
      have hz' : ∀ {d : Nat}, d < 61 → d < (Act.mk tm []).tmps.size := fun h => by rw [hj.size]; exact h
      have g1 := at_slot hj.size (show Act.eval _ (.tmp 1) = .int .i64 k from (hj.old 1 (oldB_use (by kernel_rfl)))) (by omega)
      have g2 := at_slot hj.size (show Act.eval _ (.tmp 2) = .int .i64 m from (hj.old 2 (oldB_use (by kernel_rfl)))) (by omega)
      have g7 := at_slot hj.size (show Act.eval _ (.tmp 7) = .pointer (some ⟨W.heap.size + 1, 0, none⟩) from (hj.old 7 (oldB_use (by kernel_rfl)))) (by omega)
      have g10 := at_slot hj.size (show Act.eval _ (.tmp 10) = .pointer (some ⟨W.heap.size + 1 + 1 + 1, 0, none⟩) from (hj.old 10 (oldB_use (by kernel_rfl)))) (by omega)
      have y1 : w.heap[W.heap.size + 1]? = _ := (hI.block _ (by omega)).trans b1
      have y3 : w.heap[W.heap.size + 1 + 1 + 1]? = _ := (hI.block _ (by omega)).trans b3
      have E0 : w.cell? ⟨W.heap.size + 1 + 1 + 1, 0, none⟩ = some (.int .i64 rs) := by simp [World.cell?, y3]
      have E1 : w.cell? ⟨W.heap.size + 1 + 1 + 1, 1, none⟩ = some (.int .i64 rl) := by simp [World.cell?, y3]
      have E2 : w.cell? ⟨W.heap.size + 1 + 1 + 1, 2, none⟩ = some (.int .i64 rw) := by simp [World.cell?, y3]
      have E3 : w.cell? ⟨W.heap.size + 1 + 1 + 1, 3, none⟩ = some (.int .i64 many) := by simp [World.cell?, y3]
      have E4 : w.cell? ⟨W.heap.size + 1 + 1 + 1, 4, none⟩ = some (.slice A n c) := by simp [World.cell?, y3]
      have X0 : w.cell? ⟨W.heap.size + 1, 0, none⟩ = some (.int .i64 x0) := by simp [World.cell?, y1]
      have X1 : w.cell? ⟨W.heap.size + 1, 1, none⟩ = some (.int .i64 x1) := by simp [World.cell?, y1]
      clear y1 y3
      have hjs : j' = 0 ∨ j' = 1 ∨ j' = 2 ∨ j' = 3 ∨ j' = 4 ∨ j' = 5 ∨ j' = 6 ∨ j' = 7 ∨ j' = 8 ∨ j' = 9 ∨ j' = 10 ∨ j' = 11 := by omega
      rcases hjs with rfl | rfl | rfl | rfl | rfl | rfl | rfl | rfl | rfl | rfl | rfl | rfl
      · refine wpOpIn_step rfl fun K hK => ?_
        go_simp
        exact hK _ _ (RFNext.pure (d := 17) rfl hI (hz' (by omega)) rfl rfl)
      · have f17 := at_slot hj.size (show Act.eval _ (.tmp 17) = stockV rs rl rw many A n c from (List.cons.inj (hj.fact 0 (by decide) (dep hr (by kernel_rfl)))).1) (by omega)
        refine wpOpIn_step rfl fun K hK => ?_
        go_simp
        exact hK _ _ (RFNext.pure (d := 18) rfl hI (hz' (by omega)) rfl rfl)
      · refine wpOpIn_step rfl fun K hK => ?_
        go_simp
        exact hK _ _ (RFNext.pure (d := 19) rfl hI (hz' (by omega)) rfl rfl)
      · refine wpOpIn_step rfl fun K hK => ?_
        go_simp
        exact hK _ _ (RFNext.pure (d := 20) rfl hI (hz' (by omega)) rfl rfl)
      · have f19 := at_slot hj.size (show Act.eval _ (.tmp 19) = stockV rs rl rw many A n c from (List.cons.inj (hj.fact 2 (by decide) (dep hr (by kernel_rfl)))).1) (by omega)
        have f20 := at_slot hj.size (show Act.eval _ (.tmp 20) = .int .i64 k from (List.cons.inj (hj.fact 3 (by decide) (dep hr (by kernel_rfl)))).1) (by omega)
        refine wpOpIn_step rfl fun K hK => ?_
        go_simp
        refine (hasShaft_anyI rs rl rw many A n c k w).mono ?_
        rintro e w' ⟨sp, ip, rfl, hbox, hb'⟩
        exact hK _ _ (RFNext.grow (d := 21) (fun i vs h => ChkG.below _ _ _ _ _ _ _ _ _ _ _ _ hb' i vs h) rfl (hI.trans (hb'.mono hI.size)) (hz' (by omega)) rfl ⟨_, rfl, hbox.is hn⟩)
      · refine wpOpIn_step rfl fun K hK => ?_
        go_simp
        exact hK _ _ (RFNext.pure (d := 22) rfl hI (hz' (by omega)) rfl rfl)
      · have f22 := at_slot hj.size (show Act.eval _ (.tmp 22) = .int .i64 m from (List.cons.inj (hj.fact 5 (by decide) (dep hr (by kernel_rfl)))).1) (by omega)
        refine wpOpIn_step rfl fun K hK => ?_
        go_simp
        refine (limits_any m 0 2 w).mono ?_
        rintro e w' ⟨v, rfl, hl, hb'⟩
        exact hK _ _ (RFNext.grow (d := 23) (fun i vs h => ChkG.below _ _ _ _ _ _ _ _ _ _ _ _ hb' i vs h) rfl (hI.trans (hb'.mono hI.size)) (hz' (by omega)) rfl ⟨_, rfl, hl.exact⟩)
      · refine wpOpIn_step rfl fun K hK => ?_
        go_simp
        exact hK _ _ (RFNext.pure (d := 24) rfl hI (hz' (by omega)) rfl rfl)
      · have f24 := at_slot hj.size (show Act.eval _ (.tmp 24) = spanV x0 x1 from (List.cons.inj (hj.fact 7 (by decide) (dep hr (by kernel_rfl)))).1) (by omega)
        refine wpOpIn_step rfl fun K hK => ?_
        go_simp
        refine (spanLimits_any x0 x1 0 9999 w).mono ?_
        rintro e w' ⟨v, rfl, hl, hb'⟩
        exact hK _ _ (RFNext.grow (d := 25) (fun i vs h => ChkG.below _ _ _ _ _ _ _ _ _ _ _ _ hb' i vs h) rfl (hI.trans (hb'.mono hI.size)) (hz' (by omega)) rfl ⟨_, rfl, hl.is⟩)
      · have f18 := at_slot hj.size (show Act.eval _ (.tmp 18) = .func (.func 56) #[stockV rs rl rw many A n c] #[] from (List.cons.inj (hj.fact 1 (by decide) (dep hr (by kernel_rfl)))).1) (by omega)
        obtain ⟨v21, g21, p21⟩ := hj.fact 4 (by decide) (dep hr (by kernel_rfl))
        have f21 := at_slot hj.size (show Act.eval _ (.tmp 21) = v21 from (List.cons.inj g21).1) (by omega)
        obtain ⟨v23, g23, p23⟩ := hj.fact 6 (by decide) (dep hr (by kernel_rfl))
        have f23 := at_slot hj.size (show Act.eval _ (.tmp 23) = v23 from (List.cons.inj g23).1) (by omega)
        obtain ⟨v25, g25, p25⟩ := hj.fact 8 (by decide) (dep hr (by kernel_rfl))
        have f25 := at_slot hj.size (show Act.eval _ (.tmp 25) = v25 from (List.cons.inj g25).1) (by omega)
        obtain ⟨i21, y21, z21, rfl⟩ := p21.shape
        obtain ⟨i23, y23, z23, rfl⟩ := p23.shape
        obtain ⟨i25, y25, z25, rfl⟩ := p25.shape
        refine wpOpIn_step rfl fun K hK => ?_
        go_simp
        have hb' : Below w.heap.size w (w.alloc (.cells #[.func (.func 56) #[stockV rs rl rw many A n c] #[], .func (.func i21) y21 z21, .func (.func i23) y23 z23, .func (.func i25) y25 z25] 101)) := (Below.refl _ _).alloc (Nat.le_refl _) _
        refine hK _ _ (RFNext.grow (d := 26) (fun i vs h => ChkG.below _ _ _ _ _ _ _ _ _ _ _ _ hb' i vs h) rfl (hI.trans (hb'.mono hI.size)) (hz' (by omega)) rfl ⟨w.heap.size, rfl, fun i hi => ?_⟩)
        have hi4 : i = 0 ∨ i = 1 ∨ i = 2 ∨ i = 3 := by omega
        rcases hi4 with rfl | rfl | rfl | rfl
        · exact ⟨_, by simp, .inl ⟨56, _, by simp, rfl, fun w' hw => check_any rs rl rw many _ n c sh w' hn hc (Lib.hid (hsh.out.below ((hW4.out.trans ((hI.trans (hb'.mono hI.size)).mono hW4.out.size)).trans (hw.mono (by have := hW4.out.size; have := hI.size; simp; omega))))) hln⟩⟩
        · exact ⟨_, by simp, p21.below hb'⟩
        · exact ⟨_, by simp, p23.below hb'⟩
        · exact ⟨_, by simp, p25.below hb'⟩
      · obtain ⟨g, g26, hall⟩ := hj.fact 9 (by decide) (dep hr (by kernel_rfl))
        have f26 := at_slot hj.size (show Act.eval _ (.tmp 26) = .slice (some ⟨g, 0, none⟩) 4 4 from (List.cons.inj g26).1) (by omega)
        refine wpOpIn_step rfl fun K hK => ?_
        go_simp
        refine (firstFoul_any g 4 4 (measF rs rl rw many n sh k m x0 x1) w (by omega) (Lib.hid hall)).mono ?_
        rintro e w' ⟨f, rfl, hf, hb'⟩
        exact hK _ _ (RFNext.grow (d := 27) (fun i vs h => ChkG.below _ _ _ _ _ _ _ _ _ _ _ _ hb' i vs h) rfl (hI.trans (hb'.mono hI.size)) (hz' (by omega)) rfl ⟨f, rfl, hf⟩)
      · obtain ⟨f, g27, hf⟩ := hj.fact 10 (by decide) (dep hr (by kernel_rfl))
        subst hf
        have f27 := at_slot hj.size (show Act.eval _ (.tmp 27) = .int .i64 (firstZ (measF rs rl rw many n sh k m x0 x1) 4) from (List.cons.inj g27).1) (by omega)
        refine wpOpIn_step rfl fun K hK => ?_
        go_simp
        exact hK _ _ (RFNext.pure (d := 11) rfl hI (hz' (by omega)) rfl ⟨_, rfl, rfl⟩)
    · obtain ⟨f, g11, hf⟩ := hall 11 (by decide)
      have e11 : a.eval (.tmp 11) = .int .i64 f := (List.cons.inj g11).1
      refine ⟨a.eval (.tmp 17), a.eval (.tmp 18), a.eval (.tmp 19), a.eval (.tmp 20), a.eval (.tmp 21), a.eval (.tmp 22), a.eval (.tmp 23), a.eval (.tmp 24), a.eval (.tmp 25), a.eval (.tmp 26), a.eval (.tmp 27), f, ?_, hf, hj.inv⟩
      have e := hj.act rfl [17, 18, 19, 20, 21, 22, 23, 24, 25, 26, 27, 11] (by kernel_rfl)
      simp only [List.map_cons, List.map_nil, List.foldl_cons, List.foldl_nil, e11] at e
      exact e.trans (by kernel_rfl)
  · rintro a w ⟨x17, x18, x19, x20, x21, x22, x23, x24, x25, x26, x27, f, rfl, hf, hb⟩
    have y0 : w.heap[W.heap.size]? = _ := (hb.block _ (by omega)).trans b0
    have y1 : w.heap[W.heap.size + 1]? = _ := (hb.block _ (by omega)).trans b1
    have y2 : w.heap[W.heap.size + 1 + 1]? = _ := (hb.block _ (by omega)).trans b2
    have ls : W.heap.size + 4 ≤ w.heap.size := hs4 ▸ hb.size
    have HB : Hid (Below W.heap.size W w) := Lib.hid (hW4.out.trans (hb.mono hW4.out.size))
    have HF := Lib.hid hf
    clear hb hf b0 b1 b2 b3 hs4 hW4
    have h0 : f ≠ 0 := fun e => hz.out (HF.out.symm.trans e)
    have HZ : Hid (measZ rs rl rw many n sh k m x0 x1 = f) := Lib.hid HF.out.symm
    have e0 : w.cell? ⟨W.heap.size + 1 + 1, 0, none⟩ = some (.int .i64 0) := by simp [World.cell?, y2]
    have e1 : w.cell? ⟨W.heap.size + 1 + 1, 1, none⟩ = some (.int .i64 0) := by simp [World.cell?, y2]
    have e2 : w.cell? ⟨W.heap.size + 1 + 1, 2, none⟩ = some (.int .i64 0) := by simp [World.cell?, y2]
    have e3 : w.cell? ⟨W.heap.size + 1 + 1, 3, none⟩ = some (.int .i64 0) := by simp [World.cell?, y2]
    have e4 : w.cell? ⟨W.heap.size + 1 + 1, 4, none⟩ = some (.slice none 0 0) := by simp [World.cell?, y2]
    have z2 := frozen_no y2
    clear y0 y1 y2
    gi_wp2
    refine bodyPost_ret (v := .tuple #[stockV 0 0 0 0 none 0 0, .int .i64 f]) (results_measure rfl rfl rfl (by go_simp) (by go_simp) (by go_simp) (by go_simp) (by go_simp)) rfl ?_
    rw [HZ.out]
    refine ⟨rfl, ?_⟩
    have l2 : W.heap.size ≤ W.heap.size + 1 + 1 := by omega
    exact ((((HB.out.setCell l2 _).setCell l2 _).setCell l2 _).setCell l2 _).setCell l2 _
theorem stock_ok {rs rl rw many : Int} {n : Nat} {sh : Nat → Shaft} (h : stockZ rs rl rw many n sh = 0) : StockOk rs rl rw many n sh := by
  have hr : RuleOk rs rl rw many := ruleZ_zero.1 (firstZ_zero.1 h 0 (by omega))
  have hn := stock_small h
  rw [stock_of hr hn] at h
  have hz := firstZ_zero.1 h
  have key : ∀ k, k < n → NameOk (sh k).name ∧ (¬ ∃ j, j < k ∧ sameN sh j k = true) ∧ ∀ u, u < 3 → outZ (spanA (sh k) u) (spanB (sh k) u) 0 9999 = 0 := fun k hk => by
    have h1 := hz k hk
    simp only [shaftZ] at h1
    split at h1
    · next h2 =>
      split at h1
      · cases h1
      · next h3 => exact ⟨h2, h3, firstZ_zero.1 h1⟩
    · cases h1
  have out : ∀ {a b : Int}, outZ a b 0 9999 = 0 → 0 ≤ a ∧ a ≤ b ∧ b ≤ 9999 := fun {a b} h => by
    unfold outZ at h
    split at h
    · assumption
    · cases h
  refine ⟨hr, hn, fun k hk => ?_, fun j k hj hk => ?_⟩
  · obtain ⟨h1, _, h3⟩ := key k hk
    have q0 := out (h3 0 (by omega))
    have q1 := out (h3 1 (by omega))
    have q2 := out (h3 2 (by omega))
    exact ⟨h1, q0.1, q0.2.1, q0.2.2, q1.1, q1.2.1, q1.2.2, q2.1, q2.2.1, q2.2.2⟩
  · obtain ⟨_, h2, _⟩ := key k hk
    cases h : ((sh j).name.toList == (sh k).name.toList) with
    | false => rfl
    | true => exact absurd ⟨j, hj, h⟩ h2
theorem Measure_exact (rs rl rw many : Int) (A : Option Addr) (n c : Nat) (sh : Nat → Shaft) (k m x0 x1 : Int) (W : World) (hn : n ≤ 20) (hc : n ≤ c) (hsh : Hid (ShaftsAt W A n sh)) (hnm : Hid (∀ k, k < n → (sh k).name.size ≤ 100)) :
    CallsIn Fc 0 Tryz.prog 30 #[stockV rs rl rw many A n c, .int .i64 k, .int .i64 m, spanV x0 x1] W (MeasRel rs rl rw many n sh k m x0 x1 W) := by
  by_cases hz : measZ rs rl rw many n sh k m x0 x1 = 0
  · obtain ⟨h0, h1, h2, h3⟩ := measZ_zero.1 hz
    have hk : 0 ≤ k ∧ k < n := by
      unfold hasZ at h1
      split at h1
      · assumption
      · cases h1
    have hm := limZ_zero.1 h2
    obtain ⟨k', rfl⟩ : ∃ k' : Nat, k = k' := ⟨k.toNat, by omega⟩
    obtain ⟨m', rfl⟩ : ∃ m' : Nat, m = m' := ⟨m.toNat, by omega⟩
    refine (Measure_any rs rl rw many A n c k' m' sh x0 x1 W (by omega) hc (by omega) (Lib.hid (stock_ok h0)) hsh).mono ?_
    rintro e w' ⟨hb, ⟨f, hf, hno, h10, rfl⟩ | ⟨hok, A1, c1, rfl, hc1, hrow⟩⟩
    · obtain rfl := h10 h3
      exact ⟨hb, .inr ⟨hz, .inl ⟨fun h => hno ⟨h3, h⟩, rfl⟩⟩⟩
    · exact ⟨hb, .inr ⟨hz, .inr ⟨hok.2, A1, c1, rfl, hc1, hrow⟩⟩⟩
  · refine (Measure_foul rs rl rw many A n c sh k m x0 x1 W hn hc hsh (Lib.hid fun k hk => Nat.le_trans (hnm.out k hk) (by omega)) (Lib.hid hz)).mono ?_
    rintro e w' ⟨rfl, hb⟩
    exact ⟨hb, .inl ⟨hz, rfl⟩⟩
end Go.Proofs.YtpdmgecbapmgdaaGreat
end
section
namespace Go.Proofs.YtpdmgecbapmgdaaGreat
open Go.RowKit Go.Cx Go.Conc
def CallsFn (P : Program) (o : Op) : Prop := ∃ (f : FuncId) (args : Array Operand) (ats : Array TypeId) (fn : Func), o = .call { callee := .value (.func f), args, argTypes := ats } ∧ P.funcs[f]? = some fn ∧ (fn.name == "runtime.NumGoroutine") = false ∧ fn.body.isNone = false
section
variable {F : Fence} {n : Nat} {P : Program} {Post : Act → World → Prop} {a : Act} {w : World} {b : Frame} {k : List Item} {cs : List Frame}
theorem comes_call {ops : Array Oper} {i : Nat} {l : List Nat} {o : Oper} {S : FuncId} {args : Array Value} {w1 : World} {next : Act → World → Prop} (ho : ops[i]? = some o) (hw : Region.wanted o (yielded ops a.tmps) = true) (hro : b.roundOf = F.round) (hb : F.fn b.fn) (hr : F.room (cs.length + 1 + n))
    (hrun : (o.semAt F.round a.eval).run P w = .ok (.enter S args) w1) (h : o.wpIn F n P a w next (Through Post)) :
    ∃ v w2, next (a.put o.dst v) w2 ∧ Comes F P b cs a (.inRegion ops (i :: l) :: k) w (a.put o.dst v) (.inRegion ops l :: k) w2 := by
  obtain ⟨hab, h⟩ := h
  rw [hrun] at h
  simp only [Oper.uponIn] at h
  obtain ⟨hn, hF, h⟩ := h
  have h0 : (lone (b.atR a (.inRegion ops (i :: l) :: k)) cs w).fenced P F := fenced_oper hb hr ho hab
  have hg := stepGR_op (P := P) (b := b) (k := k) (cs := cs) (w := w) (rest := l) ho hw
  rw [hro] at hg
  have hroom : F.room ((b.atR a (.inRegion ops (i :: l) :: k) :: cs).length + 1 + (n - 1)) := Fence.room_enter hr hn
  obtain ⟨e, w2, fr, hR, hsteps, hfn, hleave⟩ := h (b.atR a (.inRegion ops (i :: l) :: k) :: cs) hroom
  have henter : step P (lone (b.atR a (.inRegion ops (i :: l) :: k)) cs w) = .next (lone (Frame.enter P S args .normal) (b.atR a (.inRegion ops (i :: l) :: k) :: cs) w1) :=
    step_lone_go (by rw [hg]; simp [stepG.apply, hrun, Frame.atR])
  cases e with
  | returned v =>
    refine ⟨v, w2, hR, .head h0 henter (StepsIn.trans hsteps (.one (fenced_leaving (hfn ▸ hF) hroom hleave) ?_))⟩
    have hfin : (b.atR a (.inRegion ops (i :: l) :: k)).finish v = b.atR (a.put o.dst v) (.inRegion ops l :: k) := by rw [Frame.finish_atR, ho]; rfl
    rw [← hfin]
    exact step_leave_returned hleave
  | panicked chain => exact hR.elim
  | outgrown => obtain ⟨_, _, hq⟩ := hR; exact hq.elim
theorem comes_list {ops : Array Oper} (l : List Oper) : ∀ (i : Nat) (rest : List Nat) (a : Act) (w : World), (∀ j, j < l.length → ops[i + j]? = l[j]?) → (∀ o ∈ l, reckons o.op = true ∨ CallsFn P o.op) →
    wpListIn F n P ops (Through Post) l a w → b.roundOf = F.round → F.fn b.fn → F.room (cs.length + 1 + n) →
    ∃ a' w', Post a' w' ∧ Comes F P b cs a (.inRegion ops (List.range' i l.length ++ rest) :: k) w a' (.inRegion ops rest :: k) w' := by
  induction l with
  | nil => exact fun i rest a w _ _ h _ _ _ => ⟨a, w, h, .refl _⟩
  | cons o l ih =>
    intro i rest a w hops hall h hro hb hr
    have ho : ops[i]? = some o := by simpa using hops 0 (by simp)
    have hops' : ∀ j, j < l.length → ops[i + 1 + j]? = l[j]? := fun j hj => by
      have := hops (j + 1) (by simp; omega)
      simpa [Nat.add_assoc, Nat.add_comm 1 j] using this
    have hall' : ∀ o ∈ l, reckons o.op = true ∨ CallsFn P o.op := fun o ho => hall o (List.mem_cons_of_mem _ ho)
    rw [List.length_cons, List.range'_succ, List.cons_append]
    simp only [wpListIn] at h
    by_cases hw : Region.wanted o (yielded ops a.tmps) = true
    · rw [if_pos hw] at h
      rcases hall o (List.mem_cons_self ..) with hrk | ⟨f, args, ats, fn, hop, hf, hname, hbody⟩
      · have h1 : wpListIn F n P ops (Through fun a w => wpListIn F n P ops (Through Post) l a w) [o] a w := by
          simp only [wpListIn]
          rw [if_pos hw]
          refine ⟨h.1, ?_⟩
          have h2 := h.2
          revert h2
          have hsem : o.semAt F.round a.eval = execOp a.eval o := Oper.semAt_eq _ _ _ fun c hc => by rw [hc] at hrk; exact absurd hrk (by simp [reckons])
          rw [hsem]
          rcases reckons_run hrk P w a.eval with ⟨v, w1, hrun⟩ | ⟨x, w1, hrun⟩
          · rw [hrun]; exact fun h => h
          · rw [hrun]; cases x <;> exact fun h => h
        obtain ⟨a1, w1, h2, h3⟩ := comes_pre (b := b) (cs := cs) (k := k) (ops := ops) [o] i (List.range' (i + 1) l.length ++ rest) a w (fun j hj => by simp at hj; subst hj; simpa using ho) (by simpa using hrk) h1 hro hb hr
        obtain ⟨a', w', hp, hs⟩ := ih (i + 1) rest a1 w1 hops' hall' h2 hro hb hr
        exact ⟨a', w', hp, StepsIn.trans (by simpa using h3) hs⟩
      · have hsem : o.semAt F.round a.eval = execOp a.eval o := Oper.semAt_eq _ _ _ fun c hc => by rw [hop] at hc; cases hc
        obtain ⟨v, w2, h2, h3⟩ := comes_call (l := List.range' (i + 1) l.length ++ rest) ho hw hro hb hr (by rw [hsem]; exact run_call_body hop hf hname hbody) h
        obtain ⟨a', w', hp, hs⟩ := ih (i + 1) rest _ w2 hops' hall' h2 hro hb hr
        exact ⟨a', w', hp, StepsIn.trans h3 hs⟩
    · rw [if_neg hw] at h
      obtain ⟨a', w', hp, hs⟩ := ih (i + 1) rest _ _ hops' hall' h.2 hro hb hr
      have hk := stepR_op_skip (P := P) (b := b) (a := a) (k := k) (cs := cs) (w := w) (ops := ops) (i := i) (rest := List.range' (i + 1) l.length ++ rest) (by simp [ho]; simpa using hw)
      simp only [ho, Option.bind_some] at hk
      exact ⟨a', w', hp, .head (fenced_oper hb hr ho h.1) hk hs⟩
theorem reach_list {S : Act → List Item → World → Prop} {ops : Array Oper} (t : Nat) (rest : List Nat) (hr2 : List.range ops.size = List.range' 0 (ops.toList.take t).length ++ rest) (hall : ∀ o ∈ ops.toList.take t, reckons o.op = true ∨ CallsFn P o.op) (hro : b.roundOf = F.round) (hb : F.fn b.fn) (hr : F.room (cs.length + 1 + n))
    (h : ∀ R : Act → World → Prop, (∀ a' w', Reach F P b cs S a' (.inRegion ops rest :: k) w' → R a' w') → wpListIn F n P ops (Through R) (ops.toList.take t) a w) : Reach F P b cs S a (.inRegion ops (List.range ops.size) :: k) w := by
  rw [hr2]
  obtain ⟨a1, w1, ⟨a', k', w', h1, h2⟩, h3⟩ := comes_list (b := b) (cs := cs) (k := k) (ops.toList.take t) 0 rest a w (fun j hj => by
    rw [Nat.zero_add, List.getElem?_take, if_pos (Nat.lt_of_lt_of_le hj (List.length_take_le ..))]
    simp) hall (h (fun a' w' => Reach F P b cs S a' (.inRegion ops rest :: k) w') fun a' w' h => h) hro hb hr
  exact ⟨a', k', w', h1, h3.trans h2⟩
end
end Go.Proofs.YtpdmgecbapmgdaaGreat
end
section
namespace Go.Proofs.YtpdmgecbapmgdaaGreat
open Go.RowKit Go.Cx Go.Conc
noncomputable def A5 : Code := match Tryz.f5.body with
  | some c => c
  | none => .skip
theorem fin5 : Fc.fn (lawFr 5).fn := by show (5 : FuncId) ∈ _; simp
abbrev SeekM (W : World) (a : Act) (k : List Item) (w : World) : Prop := AtCallG 14 8 43 a k ∧ Below W.heap.size W w
theorem room5 : Fc.room (([] : List Frame).length + 1 + 0) := fun d hd => by cases hd
theorem measRel_cases (rs rl rw many : Int) (n : Nat) (sh : Nat → Shaft) (k m x0 x1 : Int) :
    (∃ g : Int, ∀ W e w', MeasRel rs rl rw many n sh k m x0 x1 W e w' → e = .returned (.tuple #[stockV 0 0 0 0 none 0 0, .int .i64 g]) ∧ Below W.heap.size W w') ∨
    (∃ T : Nat → Shaft, ∀ W e w', MeasRel rs rl rw many n sh k m x0 x1 W e w' → ∃ (A' : Option Addr) (c' : Nat), e = .returned (.tuple #[stockV rs rl rw many A' n c', .int .i64 0]) ∧ n ≤ c' ∧ ShaftsAt w' A' n T ∧ Below W.heap.size W w') := by
  by_cases h0 : measZ rs rl rw many n sh k m x0 x1 = 0
  · by_cases h1 : max (spanA (sh k.toNat) m.toNat) x0 ≤ min (spanB (sh k.toNat) m.toNat) x1
    · refine .inr ⟨putSh sh k.toNat m.toNat (max (spanA (sh k.toNat) m.toNat) x0) (min (spanB (sh k.toNat) m.toNat) x1), fun W e w' h => ?_⟩
      obtain ⟨hb, ⟨h2, _⟩ | ⟨_, ⟨h2, _⟩ | ⟨_, A', c', rfl, hc, hr⟩⟩⟩ := h
      · exact absurd h0 h2
      · exact absurd h1 h2
      · exact ⟨A', c', rfl, hc, hr, hb⟩
    · refine .inl ⟨10, fun W e w' h => ?_⟩
      obtain ⟨hb, ⟨h2, _⟩ | ⟨_, ⟨_, rfl⟩ | ⟨h2, _⟩⟩⟩ := h
      · exact absurd h0 h2
      · exact ⟨rfl, hb⟩
      · exact absurd h2 h1
  · refine .inl ⟨measZ rs rl rw many n sh k m x0 x1, fun W e w' h => ?_⟩
    obtain ⟨hb, ⟨_, rfl⟩ | ⟨h2, _⟩⟩ := h
    · exact ⟨rfl, hb⟩
    · exact absurd h2 h0
theorem meas_walk (rs rl rw many : Int) (A : Option Addr) (n c : Nat) (sh : Nat → Shaft) (k m x0 x1 : Int) (W : World) (hc : n ≤ c) (hsh : Hid (ShaftsAt W A n sh)) :
    Reach Fc Tryz.prog (lawFr 5) [] (SeekM W) { tmps := #[stockV rs rl rw many A n c, .int .i64 k, .int .i64 m, spanV x0 x1] ++ Array.replicate 39 undef, defers := [] } [.code A5] W := by
  have hB1 : ∀ x y, Below W.heap.size W ((W.alloc x).alloc y) := fun x y => ((Below.refl _ _).alloc (Nat.le_refl _) _).alloc (by simp) _
  have HB1 := Lib.hid hB1
  clear hB1
  generalize hS : SeekM W = S
  have HS := Lib.hid hS
  clear hS
  simp only [A5, Tryz.f5]
  simp only [List.size_toArray, List.length_cons, List.length_nil, Nat.reduceAdd, Nat.reduceSub, Array.replicate_succ, Array.replicate_zero, List.push_toArray, List.append_toArray, List.nil_append, List.cons_append]
  refine reach_seq fin5 room5 ?_
  refine reach_code (n := 0) rfl fin5 room5 fun R hR => ?_
  have HR := Lib.hid hR
  clear hR
  gi_wp2
  change R _ _
  refine HR.out _ _ ?_
  clear HR
  refine reach_seq fin5 room5 (reach_seq fin5 room5 ?_)
  refine reach_code (n := 0) rfl fin5 room5 fun R hR => ?_
  have HR := Lib.hid hR
  clear hR
  gi_wp2_with (gi_at_call 13; refine (Great_any _ _ _ _ _ _ _ sh _ hc (Lib.hid (hsh.out.below (HB1.out _ _)))).mono ?_; rintro e w2 ⟨gr, rfl, hgr, hb2⟩
               have e0 : w2.cell? ⟨W.heap.size, 0, none⟩ = some (.int .i64 rs) := Below.old hb2 (by go_simp)
               have e1 : w2.cell? ⟨W.heap.size, 1, none⟩ = some (.int .i64 rl) := Below.old hb2 (by go_simp)
               have e2 : w2.cell? ⟨W.heap.size, 2, none⟩ = some (.int .i64 rw) := Below.old hb2 (by go_simp)
               have e3 : w2.cell? ⟨W.heap.size, 3, none⟩ = some (.int .i64 many) := Below.old hb2 (by go_simp)
               have e4 : w2.cell? ⟨W.heap.size, 4, none⟩ = some (.slice A n c) := Below.old hb2 (by go_simp)
               have s0 : w2.cell? ⟨W.heap.size + 1, 0, none⟩ = some (.int .i64 x0) := Below.old hb2 (by go_simp)
               have s1 : w2.cell? ⟨W.heap.size + 1, 1, none⟩ = some (.int .i64 x1) := Below.old hb2 (by go_simp)
               have HB2 := Lib.hid ((HB1.out _ _).trans (hb2.mono (HB1.out _ _).size))
               have HGR := Lib.hid hgr
               clear hb2 hgr)
  change R _ _
  refine HR.out _ _ ?_
  clear HR
  refine reach_cond gr rfl fin5 room5 ?_
  cases gr with
  | true =>
    simp only [if_true]
    refine reach_seq fin5 room5 (reach_region fin5 room5 (Reach.here ?_))
    rw [← HS.out]
    exact ⟨.early _ _ _ 0 1 15 ⟨⟨_, rfl, rfl, rfl, rfl⟩, ⟨_, rfl, rfl, rfl, rfl⟩⟩ (by omega) rfl rfl, HB2.out⟩
  | false =>
    simp only [Bool.false_eq_true, if_false]
    refine reach_skip (n := 0) fin5 room5 rfl ?_
    obtain ⟨hn, hnm⟩ := HGR.out rfl
    have HNM : Hid (∀ k, k < n → (sh k).name.size ≤ 100) := Lib.hid hnm
    clear HGR hnm
    refine reach_seq fin5 room5 ?_
    refine reach_code (n := 0) rfl fin5 room5 fun R hR => ?_
    have HR := Lib.hid hR
    clear hR
    have hl1 := fun w (hb : Below W.heap.size W w) => Measure_exact rs rl rw many A n c sh k m x0 x1 w hn hc (Lib.hid (hsh.out.below hb)) HNM
    have hl2 := fun w (hb : Below W.heap.size W w) => RefMeasure_any rs rl rw many A n c sh k m x0 x1 w hn hc (Lib.hid (hsh.out.below hb)) HNM
    have H1 := Lib.hid hl1
    have H2 := Lib.hid hl2
    clear hl1 hl2
    rcases measRel_cases rs rl rw many n sh k m x0 x1 with ⟨g, hg⟩ | ⟨T, hT⟩
    · have HG := Lib.hid hg
      clear hg
      gi_wp2_with (gi_at_call 30; refine (H1.out _ HB2.out).mono ?_; intro e w3 he
                   obtain ⟨rfl, hb3⟩ := HG.out _ _ _ he
                   have e0 := Below.old hb3 e0
                   have e1 := Below.old hb3 e1
                   have e2 := Below.old hb3 e2
                   have e3 := Below.old hb3 e3
                   have e4 := Below.old hb3 e4
                   have s0 := Below.old hb3 s0
                   have s1 := Below.old hb3 s1
                   have HB3 := Lib.hid (HB2.out.trans (hb3.mono HB2.out.size))
                   clear hb3 he)
      change R _ _
      refine HR.out _ _ ?_
      clear HR
      have HBX : Hid (Below w3.heap.size w3 (w3.alloc (.cells #[.int .i64 0, .int .i64 0, .int .i64 0, .int .i64 0, .slice none 0 0] 26))) := Lib.hid ((Below.refl _ _).alloc (Nat.le_refl _) _)
      have e0 := Below.old HBX.out e0
      have e1 := Below.old HBX.out e1
      have e2 := Below.old HBX.out e2
      have e3 := Below.old HBX.out e3
      have e4 := Below.old HBX.out e4
      have s0 := Below.old HBX.out s0
      have s1 := Below.old HBX.out s1
      have HB4 := Lib.hid (HB3.out.trans (HBX.out.mono HB3.out.size))
      obtain ⟨b0, b1, b2, b3, b4⟩ := cells_of (heap_new w3 (.cells #[.int .i64 0, .int .i64 0, .int .i64 0, .int .i64 0, .slice none 0 0] 26))
      clear HBX
      generalize w3.alloc (.cells #[.int .i64 0, .int .i64 0, .int .i64 0, .int .i64 0, .slice none 0 0] 26) = w4 at *
      refine reach_seq fin5 room5 ?_
      refine reach_code (n := 0) rfl fin5 room5 fun R hR => ?_
      have HR := Lib.hid hR
      clear hR
      gi_wp2_with (gi_at_call 31; refine (H2.out _ HB4.out).mono ?_; intro e w5 he
                   obtain ⟨rfl, hb5⟩ := HG.out _ _ _ he
                   have b0 := Below.old hb5 b0
                   have b1 := Below.old hb5 b1
                   have b2 := Below.old hb5 b2
                   have b3 := Below.old hb5 b3
                   have b4 := Below.old hb5 b4
                   have HB5 := Lib.hid (HB4.out.trans (hb5.mono HB4.out.size))
                   clear hb5 he)
      change R _ _
      refine HR.out _ _ ?_
      clear HR
      have HBY : Hid (Below w5.heap.size w5 (w5.alloc (.cells #[.int .i64 0, .int .i64 0, .int .i64 0, .int .i64 0, .slice none 0 0] 26))) := Lib.hid ((Below.refl _ _).alloc (Nat.le_refl _) _)
      have b0 := Below.old HBY.out b0
      have b1 := Below.old HBY.out b1
      have b2 := Below.old HBY.out b2
      have b3 := Below.old HBY.out b3
      have b4 := Below.old HBY.out b4
      have HB6 := Lib.hid (HB5.out.trans (HBY.out.mono HB5.out.size))
      obtain ⟨d0, d1, d2, d3, d4⟩ := cells_of (heap_new w5 (.cells #[.int .i64 0, .int .i64 0, .int .i64 0, .int .i64 0, .slice none 0 0] 26))
      clear HBY
      generalize w5.alloc (.cells #[.int .i64 0, .int .i64 0, .int .i64 0, .int .i64 0, .slice none 0 0] 26) = w6 at *
      refine reach_seq fin5 room5 (reach_region fin5 room5 ?_)
      refine reach_list (n := 0) 9 [9, 10, 11] rfl (fun o ho => ?_) rfl fin5 room5 fun R hR => ?_
      · simp only [List.take_succ_cons, List.take_zero, List.mem_cons, List.not_mem_nil, or_false] at ho
        rcases ho with rfl | rfl | rfl | rfl | rfl | rfl | rfl | rfl | rfl
        all_goals first
          | exact .inl rfl
          | exact .inr ⟨32, _, _, _, rfl, Tryz.func32, by kernel_rfl, by kernel_rfl⟩
      · have HR := Lib.hid hR
        clear hR
        simp only [List.take_succ_cons, List.take_zero]
        gi_wp2_with (gi_at_call 32; refine (SameStocks_yes 0 0 0 0 none none 0 0 0 sh _ (by omega) (Nat.le_refl _) (Nat.le_refl _) (Lib.hid fun k hk => by omega) (Lib.hid fun k hk => by omega)).mono ?_; rintro e w7 ⟨rfl, hb7⟩
                     have HB7 := Lib.hid (HB6.out.trans (hb7.mono HB6.out.size))
                     clear hb7)
        change R _ _
        refine HR.out _ _ (Reach.here ?_)
        rw [← HS.out]
        exact ⟨.late _ _ _ 9 10 11 8 40 41 42 ⟨⟨_, rfl, rfl, rfl, rfl⟩, rfl, ⟨_, rfl, rfl, rfl, rfl⟩, ⟨_, rfl, rfl, rfl, rfl⟩, by decide⟩ (by omega) (by omega) rfl rfl (by first | rfl | simp) (by omega), HB7.out⟩
    · have HG := Lib.hid hT
      clear hT
      gi_wp2_with (gi_at_call 30; refine (H1.out _ HB2.out).mono ?_; intro e w3 he
                   obtain ⟨A1, c1, rfl, hc1, hr1, hb3⟩ := HG.out _ _ _ he
                   have HR1 := Lib.hid hr1
                   have e0 := Below.old hb3 e0
                   have e1 := Below.old hb3 e1
                   have e2 := Below.old hb3 e2
                   have e3 := Below.old hb3 e3
                   have e4 := Below.old hb3 e4
                   have s0 := Below.old hb3 s0
                   have s1 := Below.old hb3 s1
                   have HB3 := Lib.hid (HB2.out.trans (hb3.mono HB2.out.size))
                   clear hb3 he hr1)
      change R _ _
      refine HR.out _ _ ?_
      clear HR
      have HBX : Hid (Below w3.heap.size w3 (w3.alloc (.cells #[.int .i64 rs, .int .i64 rl, .int .i64 rw, .int .i64 many, .slice A1 n c1] 26))) := Lib.hid ((Below.refl _ _).alloc (Nat.le_refl _) _)
      have e0 := Below.old HBX.out e0
      have e1 := Below.old HBX.out e1
      have e2 := Below.old HBX.out e2
      have e3 := Below.old HBX.out e3
      have e4 := Below.old HBX.out e4
      have s0 := Below.old HBX.out s0
      have s1 := Below.old HBX.out s1
      have HB4 := Lib.hid (HB3.out.trans (HBX.out.mono HB3.out.size))
      obtain ⟨b0, b1, b2, b3, b4⟩ := cells_of (heap_new w3 (.cells #[.int .i64 rs, .int .i64 rl, .int .i64 rw, .int .i64 many, .slice A1 n c1] 26))
      have HR1 := Lib.hid (HR1.out.below HBX.out)
      clear HBX
      generalize w3.alloc (.cells #[.int .i64 rs, .int .i64 rl, .int .i64 rw, .int .i64 many, .slice A1 n c1] 26) = w4 at *
      refine reach_seq fin5 room5 ?_
      refine reach_code (n := 0) rfl fin5 room5 fun R hR => ?_
      have HR := Lib.hid hR
      clear hR
      gi_wp2_with (gi_at_call 31; refine (H2.out _ HB4.out).mono ?_; intro e w5 he
                   obtain ⟨A2, c2, rfl, hc2, hr2, hb5⟩ := HG.out _ _ _ he
                   have HR2 := Lib.hid hr2
                   have HR1 := Lib.hid (HR1.out.below hb5)
                   have b0 := Below.old hb5 b0
                   have b1 := Below.old hb5 b1
                   have b2 := Below.old hb5 b2
                   have b3 := Below.old hb5 b3
                   have b4 := Below.old hb5 b4
                   have HB5 := Lib.hid (HB4.out.trans (hb5.mono HB4.out.size))
                   clear hb5 he hr2)
      change R _ _
      refine HR.out _ _ ?_
      clear HR
      have HBY : Hid (Below w5.heap.size w5 (w5.alloc (.cells #[.int .i64 rs, .int .i64 rl, .int .i64 rw, .int .i64 many, .slice A2 n c2] 26))) := Lib.hid ((Below.refl _ _).alloc (Nat.le_refl _) _)
      have b0 := Below.old HBY.out b0
      have b1 := Below.old HBY.out b1
      have b2 := Below.old HBY.out b2
      have b3 := Below.old HBY.out b3
      have b4 := Below.old HBY.out b4
      have HB6 := Lib.hid (HB5.out.trans (HBY.out.mono HB5.out.size))
      obtain ⟨d0, d1, d2, d3, d4⟩ := cells_of (heap_new w5 (.cells #[.int .i64 rs, .int .i64 rl, .int .i64 rw, .int .i64 many, .slice A2 n c2] 26))
      have HR1 := Lib.hid (HR1.out.below HBY.out)
      have HR2 := Lib.hid (HR2.out.below HBY.out)
      clear HBY
      generalize w5.alloc (.cells #[.int .i64 rs, .int .i64 rl, .int .i64 rw, .int .i64 many, .slice A2 n c2] 26) = w6 at *
      refine reach_seq fin5 room5 (reach_region fin5 room5 ?_)
      refine reach_list (n := 0) 9 [9, 10, 11] rfl (fun o ho => ?_) rfl fin5 room5 fun R hR => ?_
      · simp only [List.take_succ_cons, List.take_zero, List.mem_cons, List.not_mem_nil, or_false] at ho
        rcases ho with rfl | rfl | rfl | rfl | rfl | rfl | rfl | rfl | rfl
        all_goals first
          | exact .inl rfl
          | exact .inr ⟨32, _, _, _, rfl, Tryz.func32, by kernel_rfl, by kernel_rfl⟩
      · have HR := Lib.hid hR
        clear hR
        simp only [List.take_succ_cons, List.take_zero]
        gi_wp2_with (gi_at_call 32; refine (SameStocks_yes rs rl rw many A1 A2 n c1 c2 T _ hn hc1 hc2 HR1 HR2).mono ?_; rintro e w7 ⟨rfl, hb7⟩
                     have HB7 := Lib.hid (HB6.out.trans (hb7.mono HB6.out.size))
                     clear hb7)
        change R _ _
        refine HR.out _ _ (Reach.here ?_)
        rw [← HS.out]
        exact ⟨.late _ _ _ 9 10 11 8 40 41 42 ⟨⟨_, rfl, rfl, rfl, rfl⟩, rfl, ⟨_, rfl, rfl, rfl, rfl⟩, ⟨_, rfl, rfl, rfl, rfl⟩, by decide⟩ (by omega) (by omega) rfl rfl (by first | rfl | simp) (by omega), HB7.out⟩
end Go.Proofs.YtpdmgecbapmgdaaGreat
end
section
namespace Go.Proofs.YtpdmgecbapmgdaaGreat
open Go.RowKit Go.Cx Go.Conc
end Go.Proofs.YtpdmgecbapmgdaaGreat
end
section
namespace Go.Proofs.YtpdmgecbapmgdaaGreat
open Go.RowKit Go.Cx Go.Conc
theorem fence_ok : FenceOk Tryz.prog Fc.fn := fenceOk_of (L := [7,33,34,15,13,18,55,56,57,58,59,62,63,64,65,66,77,96,97,98,99,100,101,102,103,104,105,106,107,108,109,110,124,138,78,159,160,161,125,172,3,5,6,8,16,17,19,20,21,30,31,32,35,36,37,38,39,40,41,43,60,61,67,75,76,79,80,81,82,83,84,111,123]) (by kernel_rfl)
theorem shafts_strike {W : World} {A : Option Addr} {n : Nat} {sh : Nat → Shaft} (h : ShaftsAt W A n sh) : ShaftsAt (strike W) A n sh := fun k hk => by
  obtain ⟨b, o, e, hx⟩ := h k hk
  have c := fun a => (twin_strike W).cell a
  exact ⟨b, o, e, by rw [← c]; exact hx.h0, by rw [← c]; exact hx.h1, by rw [← c]; exact hx.h2, by rw [← c]; exact hx.h3, by rw [← c]; exact hx.h4, by rw [← c]; exact hx.h5, by rw [← c]; exact hx.h6⟩
theorem shot_there : ∃ fn, Tryz.prog.funcs[14]? = some fn ∧ (fn.name == "runtime.NumGoroutine") = false ∧ fn.body.isNone = false := ⟨_, Tryz.func14, by kernel_rfl, by kernel_rfl⟩
theorem law_calls {f : FuncId} {r z : Nat} {C0 : Code} {a0 : Act} {args : Array Value} {W : World} (hen : Frame.enter Tryz.prog f args .normal = (lawFr f).atR a0 [.code C0]) (hin : Fc.fn f)
    (h : Reach Fc Tryz.prog (lawFr f) [] (fun a k w => AtCallG 14 r z a k ∧ Below (strike W).heap.size (strike W) w) a0 [.code C0] (strike W)) :
    ∃ a k w N t, AtCallG 14 r z a k ∧ Below W.heap.size W w ∧ Lone t ∧ runNT Tryz.prog N (solo (G (Frame.enter Tryz.prog f args .normal) []) W) #[] = (.next (solo (G (Frame.enter Tryz.prog 14 #[] .normal) [(lawFr f).at a k]) w), t) := by
  obtain ⟨a, k, v, ⟨hat, hb⟩, hs⟩ := h
  have hs : StepsIn (Machine.fenced Tryz.prog Fc) Tryz.prog (lone (Frame.enter Tryz.prog f args .normal) [] (strike W)) (lone ((lawFr f).atR a k) [] v) := by rw [hen]; exact hs
  obtain ⟨N, w, t, hr, hl, htw⟩ := chain_calm (Fc := Fc) rfl fence_ok hs (G (Frame.enter Tryz.prog f args .normal) []) (strike W) W #[] rfl
    ⟨_, [], rfl, frIn_enter fence_ok hin _, .inl rfl, fun c h => by simp at h⟩ (twin_strike W) (fun op h => by simp at h) ((lawFr f).atR a k) [] v rfl rfl
  have hsz : (strike W).heap.size = W.heap.size := by simp [strike]
  rw [hsz] at hb
  refine ⟨a, k, w, N + 1, t, hat, twin_below htw hb, hl, ?_⟩
  rw [runNT_add, hr]
  simp only [Frame.atR_of_none (show (lawFr f).roundOf = none from rfl), runNT, stepT_solo (show (G ((lawFr f).at a k) []).status = .running from rfl), runT_solo_go (call_step shot_there hat w)]
  simp [MemOp.ofEvents]
theorem env_below {w w1 : World} (h : Env (OldL w) w w1) : Below w.heap.size w w1 where
  os := h.os
  tape := h.tape
  output := h.output
  size := h.size
  block := by
    intro k hk
    have hs := h.same k w.heap[k] (by simp [hk])
    rw [Array.getElem?_eq_getElem hk]
    cases ho : w.heap[k] with
    | cells c e fr =>
      rw [ho] at hs
      obtain ⟨c', h1, h2, h3⟩ := hs
      rw [h1]
      have : c' = c := by
        apply Array.ext h2
        intro i hi hi'
        have := h3 i ⟨k, rfl, hk⟩
        rw [Array.getElem?_eq_getElem hi, Array.getElem?_eq_getElem hi'] at this
        exact Option.some.inj this
      rw [this]
    | _ => rw [ho] at hs; exact hs ⟨k, rfl, hk⟩
theorem entry_rel (hp : TabOk Tryz.tab) (b : Frame) (w : World) : XRel (fun _ => none) (fun _ => False) (fun _ => False) [b] Tryz.x0 (G (Frame.enter Tryz.prog 14 #[] .normal) [b]) w := by
  obtain ⟨fr, he⟩ : ∃ fr, enterA Tryz.tab 14 [] false = some fr := by
    cases h : enterA Tryz.tab 14 [] false with
    | some fr => exact ⟨fr, rfl⟩
    | none => exact absurd (show (enterA Tryz.tab 14 [] false).isSome = true by kernel_rfl) (by rw [h]; simp)
  have hr := enter_rel (f := fun _ => none) hp (args' := #[]) (kind := .normal) .nil he rfl
  unfold Tryz.x0
  rw [he]
  refine .plain (Bd := 0) ⟨⟨_, [], rfl, hr, .nil⟩, ?_⟩ (Nat.zero_le _) .nil
  exact {
    wf := ⟨fun b o h => by simp [T.get] at h, fun b c x r ba m h => by simp [T.get] at h, fun r m h => by simp [members, T.get] at h⟩
    obj := fun b x h => by cases h
    mine := fun b x h => by cases h
    part := fun b x i h => by cases h
    apart := fun b b' x x' o o' h => by cases h
    coord := fun b b' x x' o o' h => by cases h
    home := fun b x h => by cases h }
theorem law_run {f : FuncId} {fl : Func} {r z : Nat} {C0 : Code} {a0 : Act} {args : Array Value} {W : World} (hen : Frame.enter Tryz.prog f args .normal = (lawFr f).atR a0 [.code C0]) (hin : Fc.fn f) (hfl : Tryz.prog.funcs[f]? = some fl) (hres : fl.results = #[.tmp r]) (hrz : r < z)
    (h : Reach Fc Tryz.prog (lawFr f) [] (fun a k w => AtCallG 14 r z a k ∧ Below (strike W).heap.size (strike W) w) a0 [.code C0] (strike W)) :
    ∃ M last o w' t', runNT Tryz.prog (M + 1) (solo (G (Frame.enter Tryz.prog f args .normal) []) W) #[] = (.ended o w', t') ∧
      runN Tryz.prog M (solo (G (Frame.enter Tryz.prog f args .normal) []) W) = .next last ∧ Go.step Tryz.prog last = .ended o w' ∧
      Go.Conc.Good Tryz.prog (fun v w1 => v = .bool true ∧ Below W.heap.size W w1) last o w' t' := by
  obtain ⟨a, k, w, N, t, hat, hb, hl, hr⟩ := law_calls hen hin h
  obtain ⟨K, last, o, w2, t2, h1, h2, h3, h4⟩ := Tryz.shot_run (b := (lawFr f).at a k) (bot := []) (sl := none) hl (fun l h => h.elim) (entry_rel Tryz.tabOk _ w) (Post := fun v w1 => v = .bool true ∧ Env (OldL w) w w1) (n := 4) (fun w' he => after_callG fence_ok hin hfl hres hrz hat he)
  rw [← solo_eq_crowd] at h1 h2
  obtain ⟨r1, r2⟩ := run_then hr h1 h2
  exact ⟨N + K, last, o, w2, t2, r1, r2, h3, h4.mono fun v hp => ⟨hp.1, hb.trans ((env_below hp.2).mono hb.size)⟩⟩
end Go.Proofs.YtpdmgecbapmgdaaGreat
end
section
namespace Go.Proofs.YtpdmgecbapmgdaaGreat
open Go.RowKit Go.ChangeShapes Go.WideShapes Go.Joins
def fieldsOf (P : Program) (t : TypeId) : Option (List (Nat × TypeId)) := match P.underlying t with
  | some (.struct fs) => some (fs.toList.map fun f => (f.offset, f.type))
  | _ => none
theorem fields_two {P : Program} {t : TypeId} {o0 o1 : Nat} {t0 t1 : TypeId} (h : fieldsOf P t = some [(o0, t0), (o1, t1)]) : ∃ f0 f1 : Field, P.underlying t = some (.struct #[f0, f1]) ∧ f0.offset = o0 ∧ f0.type = t0 ∧ f1.offset = o1 ∧ f1.type = t1 := by
  unfold fieldsOf at h
  split at h
  · next fs e =>
    obtain ⟨l⟩ := fs
    match l, h with
    | [f0, f1], h =>
      simp at h
      exact ⟨f0, f1, e, h.1.1, h.1.2, h.2.1, h.2.2⟩
    | [], h => simp at h
    | [_], h => simp at h
    | _ :: _ :: _ :: _, h => simp at h
  · cases h
theorem fields_four {P : Program} {t : TypeId} {o0 o1 o2 o3 : Nat} {t0 t1 t2 t3 : TypeId} (h : fieldsOf P t = some [(o0, t0), (o1, t1), (o2, t2), (o3, t3)]) :
    ∃ f0 f1 f2 f3 : Field, P.underlying t = some (.struct #[f0, f1, f2, f3]) ∧ f0.offset = o0 ∧ f0.type = t0 ∧ f1.offset = o1 ∧ f1.type = t1 ∧ f2.offset = o2 ∧ f2.type = t2 ∧ f3.offset = o3 ∧ f3.type = t3 := by
  unfold fieldsOf at h
  split at h
  · next fs e =>
    obtain ⟨l⟩ := fs
    match l, h with
    | [f0, f1, f2, f3], h =>
      simp at h
      obtain ⟨⟨h1, h2⟩, ⟨h3, h4⟩, ⟨h5, h6⟩, h7, h8⟩ := h
      exact ⟨f0, f1, f2, f3, e, h1, h2, h3, h4, h5, h6, h7, h8⟩
    | [], h => simp at h
    | [_], h => simp at h
    | [_, _], h => simp at h
    | [_, _, _], h => simp at h
    | _ :: _ :: _ :: _ :: _ :: _, h => simp at h
  · cases h
theorem fo26 : fieldsOf Tryz.prog 26 = some [(0, 23), (4, 24)] := by kernel_rfl
theorem fo23 : fieldsOf Tryz.prog 23 = some [(0, 3), (1, 3), (2, 3), (3, 3)] := by kernel_rfl
theorem fo52 : fieldsOf Tryz.prog 52 = some [(0, 3), (1, 3)] := by kernel_rfl
theorem fo65 : fieldsOf Tryz.prog 65 = some [(0, 9), (1, 52), (3, 52), (5, 52)] := by kernel_rfl
theorem ul24 : Tryz.prog.underlying 24 = some (.slice 65) := by kernel_rfl
theorem ul3 : Tryz.prog.underlying 3 = some (.int .i64) := by kernel_rfl
theorem ul9 : Tryz.prog.underlying 9 = some .string := by kernel_rfl
theorem co26 : Tryz.prog.cellsOf 26 = 5 := by kernel_rfl
theorem co23 : Tryz.prog.cellsOf 23 = 4 := by kernel_rfl
theorem co24 : Tryz.prog.cellsOf 24 = 1 := by kernel_rfl
theorem co3 : Tryz.prog.cellsOf 3 = 1 := by kernel_rfl
theorem co9 : Tryz.prog.cellsOf 9 = 1 := by kernel_rfl
theorem co52 : Tryz.prog.cellsOf 52 = 2 := by kernel_rfl
theorem co65 : Tryz.prog.cellsOf 65 = 7 := by kernel_rfl
section
variable {H : Type} {enc : TypeId × Value → H} {W : World} {base : Nat} {sp : Nat → Bool} {held : Bool}
theorem open_span {fuel : Nat} {c0 c1 : Value} {x : DataW H × List MemPlace} (h : DataW.trod enc Tryz.prog W base sp held fuel 52 [c0, c1] = some x) : ∃ u v : Int, c0 = .int .i64 u ∧ c1 = .int .i64 v := by
  obtain ⟨f0, f1, e, a0, b0, a1, b1⟩ := fields_two fo52
  obtain ⟨y0, y1, n, _, _, t0, t1⟩ := trod_struct2 e h
  rw [a0, b0, co3] at t0
  rw [a1, b1, co3] at t1
  obtain ⟨u, h0, _⟩ := DataW.trod_int ul3 t0
  obtain ⟨v, h1, _⟩ := DataW.trod_int ul3 t1
  simp at h0 h1
  exact ⟨u, v, h0, h1⟩
theorem open_rule {fuel : Nat} {c0 c1 c2 c3 : Value} {x : DataW H × List MemPlace} (h : DataW.trod enc Tryz.prog W base sp held fuel 23 [c0, c1, c2, c3] = some x) :
    ∃ a b c d : Int, c0 = .int .i64 a ∧ c1 = .int .i64 b ∧ c2 = .int .i64 c ∧ c3 = .int .i64 d := by
  obtain ⟨f0, f1, f2, f3, e, a0, b0, a1, b1, a2, b2, a3, b3⟩ := fields_four fo23
  obtain ⟨y0, y1, y2, y3, n, _, _, t0, t1, t2, t3⟩ := trod_struct4 e h
  rw [a0, b0, co3] at t0
  rw [a1, b1, co3] at t1
  rw [a2, b2, co3] at t2
  rw [a3, b3, co3] at t3
  obtain ⟨u0, h0, _⟩ := DataW.trod_int ul3 t0
  obtain ⟨u1, h1, _⟩ := DataW.trod_int ul3 t1
  obtain ⟨u2, h2, _⟩ := DataW.trod_int ul3 t2
  obtain ⟨u3, h3, _⟩ := DataW.trod_int ul3 t3
  simp at h0 h1 h2 h3
  exact ⟨u0, u1, u2, u3, h0, h1, h2, h3⟩
theorem open_shaft {fuel : Nat} {cs : List Value} {x : DataW H × List MemPlace} (h : DataW.trod enc Tryz.prog W base sp held fuel 65 cs = some x) :
    ∃ y : Shaft, cs = [.string y.name, .int .i64 y.s0, .int .i64 y.s1, .int .i64 y.l0, .int .i64 y.l1, .int .i64 y.w0, .int .i64 y.w1] := by
  obtain ⟨f0, f1, f2, f3, e, a0, b0, a1, b1, a2, b2, a3, b3⟩ := fields_four fo65
  obtain ⟨y0, y1, y2, y3, n, _, hl, t0, t1, t2, t3⟩ := trod_struct4 e h
  rw [co65] at hl
  match cs, hl with
  | [c0, c1, c2, c3, c4, c5, c6], _ =>
    rw [a0, b0, co9] at t0
    rw [a1, b1, co52] at t1
    rw [a2, b2, co52] at t2
    rw [a3, b3, co52] at t3
    simp only [List.drop, List.take] at t0 t1 t2 t3
    obtain ⟨s, h0, _⟩ := DataW.trod_string ul9 t0
    obtain ⟨u1, v1, rfl, rfl⟩ := open_span t1
    obtain ⟨u2, v2, rfl, rfl⟩ := open_span t2
    obtain ⟨u3, v3, rfl, rfl⟩ := open_span t3
    simp at h0
    subst h0
    exact ⟨⟨s, u1, v1, u2, v2, u3, v3⟩, rfl⟩
theorem add_spot {a : Addr} {w : World} {v : Value} {k : Nat} (h : w.cell? (a.add k) = some v) (hk : k = 0) : a = ⟨a.block, a.off, none⟩ := by
  subst hk
  simp only [Addr.add, if_true] at h
  unfold World.cell? at h
  obtain ⟨b, o, sp⟩ := a
  cases sp with
  | none => rfl
  | some s =>
    dsimp only at h
    split at h
    · simp at h
    · cases h
theorem open_shafts {fuel : Nat} {v : Value} {x : DataW H × List MemPlace} (h : DataW.trod enc Tryz.prog W base sp held fuel 24 [v] = some x) : ∃ (A : Option Addr) (n c : Nat) (sh : Nat → Shaft), v = .slice A n c ∧ n ≤ c ∧ ShaftsAt W A n sh := by
  rcases Go.Deep.open_slice ul24 h with ⟨h0, _⟩ | ⟨a, len, cap, m, n, D, Pl, h0, hb, hl, hm, hmm, rfl, hx⟩
  · simp at h0
    subst h0
    exact ⟨none, 0, 0, fun _ => ⟨.empty, 0, 0, 0, 0, 0, 0⟩, rfl, Nat.le_refl _, fun k hk => by omega⟩
  · simp at h0
    subst h0
    have hlm : len ≤ m := by rw [hmm]; split <;> omega
    have each : ∀ i, i < len → ∃ y : Shaft, a = ⟨a.block, a.off, none⟩ ∧ ShaftAt W a.block (a.off + i * 7) y := by
      intro i hi
      obtain ⟨cs', h1, h2⟩ := hx i (by omega)
      rw [co65] at h1
      obtain ⟨_, hlen, hcell⟩ := World.cells?_some h1
      obtain ⟨y, rfl⟩ := open_shaft h2
      have hsp : a = ⟨a.block, a.off, none⟩ := by
        obtain ⟨cs0, g1, g2⟩ := hx 0 (by omega)
        rw [co65] at g1
        obtain ⟨_, glen, gcell⟩ := World.cells?_some g1
        obtain ⟨z, rfl⟩ := open_shaft g2
        have g0 := gcell 0 (by omega)
        simp only [Nat.zero_mul] at g0
        have g3 : ((a.add 0).add 0) = a.add 0 := by simp [Addr.add]
        rw [g3] at g0
        exact add_spot (k := 0) g0 rfl
      refine ⟨y, hsp, ?_⟩
      have key : ∀ j, (a.add (i * 7)).add j = ⟨a.block, a.off + i * 7 + j, none⟩ := by
        intro j
        rw [hsp]
        unfold Addr.add
        by_cases h1 : i * 7 = 0 <;> by_cases h2 : j = 0 <;> simp [h1, h2]
      have e0 := hcell 0 (by omega)
      have e1 := hcell 1 (by omega)
      have e2 := hcell 2 (by omega)
      have e3 := hcell 3 (by omega)
      have e4 := hcell 4 (by omega)
      have e5 := hcell 5 (by omega)
      have e6 := hcell 6 (by omega)
      rw [key] at e0 e1 e2 e3 e4 e5 e6
      exact ⟨by simpa using e0, by simpa using e1, by simpa using e2, by simpa using e3, by simpa using e4, by simpa using e5, by simpa using e6⟩
    refine ⟨some a, len, cap, fun i => if hi : i < len then (each i hi).choose else ⟨.empty, 0, 0, 0, 0, 0, 0⟩, rfl, hl, fun k hk => ⟨a.block, a.off, ?_, ?_⟩⟩
    · rw [← (each k hk).choose_spec.1]
    · dsimp only
      rw [dif_pos hk]
      exact (each k hk).choose_spec.2
theorem open_stock {fuel : Nat} {cs : List Value} {x : DataW H × List MemPlace} (h : DataW.trod enc Tryz.prog W base sp held fuel 26 cs = some x) :
    ∃ (rs rl rw many : Int) (A : Option Addr) (n c : Nat) (sh : Nat → Shaft), cs = [.int .i64 rs, .int .i64 rl, .int .i64 rw, .int .i64 many, .slice A n c] ∧ n ≤ c ∧ ShaftsAt W A n sh := by
  obtain ⟨f0, f1, e, a0, b0, a1, b1⟩ := fields_two fo26
  obtain ⟨y0, y1, n, _, hl, t0, t1⟩ := trod_struct2 e h
  rw [co26] at hl
  match cs, hl with
  | [c0, c1, c2, c3, c4], _ =>
    rw [a0, b0, co23] at t0
    rw [a1, b1, co24] at t1
    simp only [List.drop, List.take] at t0 t1
    obtain ⟨a, b, c, d, rfl, rfl, rfl, rfl⟩ := open_rule t0
    obtain ⟨A, n', cap, sh, rfl, h1, h2⟩ := open_shafts t1
    exact ⟨a, b, c, d, A, n', cap, sh, rfl, h1, h2⟩
end
end Go.Proofs.YtpdmgecbapmgdaaGreat
end
section
namespace Go.Proofs.YtpdmgecbapmgdaaGreat
open Go.RowKit Go.Cx Go.Conc Go.ChangeShapes Go.WideShapes Go.ChangeAt
theorem own : ownKnob Tryz.prog.godebug = none := by kernel_rfl
theorem laidOut : laidOutB Tryz.prog = true := by kernel_rfl
theorem ul4 : Tryz.prog.underlying 4 = some .bool := by kernel_rfl
theorem shut_true {H : Type} {enc : TypeId × Value → H} {w : World} {base : Nat} {sp : Nat → Bool} {held : Bool} : DataW.Trod enc Tryz.prog w base sp held 4 (.bool true) (.lit (.bool true)) [] := by
  refine ⟨1, ?_⟩
  simp only [DataW.trod, Value.cells, ul4]
end Go.Proofs.YtpdmgecbapmgdaaGreat
end
section
namespace Go.Proofs.YtpdmgecbapmgdaaGreat
open Go.RowKit Go.Cx Go.Conc Go.ChangeShapes Go.WideShapes Go.ChangeAt
theorem enter5 (v0 v1 v2 v3 : Value) : Frame.enter Tryz.prog 5 #[v0, v1, v2, v3] .normal = (lawFr 5).atR { tmps := #[v0, v1, v2, v3] ++ Array.replicate 39 undef, defers := [] } [.code A5] := by
  have hb : Tryz.f5.body = some A5 := rfl
  simp [Frame.enter, Frame.atR, Tryz.func5, hb]
theorem meas_run (rs rl rw many : Int) (A : Option Addr) (n c : Nat) (sh : Nat → Shaft) (k m x0 x1 : Int) (W : World) (hc : n ≤ c) (hsh : ShaftsAt W A n sh) :
    ∃ M last o w' t', runNT Tryz.prog (M + 1) (solo (G (Frame.enter Tryz.prog 5 #[stockV rs rl rw many A n c, .int .i64 k, .int .i64 m, spanV x0 x1] .normal) []) W) #[] = (.ended o w', t') ∧
      runN Tryz.prog M (solo (G (Frame.enter Tryz.prog 5 #[stockV rs rl rw many A n c, .int .i64 k, .int .i64 m, spanV x0 x1] .normal) []) W) = .next last ∧ Go.step Tryz.prog last = .ended o w' ∧
      Go.Conc.Good Tryz.prog (fun v w1 => v = .bool true ∧ Below W.heap.size W w1) last o w' t' :=
  law_run (enter5 _ _ _ _) fin5 Tryz.func5 rfl (by omega) (meas_walk rs rl rw many A n c sh k m x0 x1 (strike W) hc (Lib.hid (shafts_strike hsh)))
theorem two_ofM {l : List Value} (h : l.length = 2) : ∃ a b, l = [a, b] := by
  cases l with
  | nil => cases h
  | cons a l =>
    cases l with
    | nil => cases h
    | cons b l =>
      cases l with
      | nil => exact ⟨a, b, rfl⟩
      | cons c l => simp at h
theorem open_spanM {H : Type} {enc : TypeId × Value → H} {W : World} {b0 base : Nat} {r : Go.Reach} {sp : Nat → Bool} {held : Bool} {v : Value} {d : DataW H} {ps : List MemPlace} (hv4 : Value.okWide Tryz.prog W r b0 52 v) (h : DataW.Trod enc Tryz.prog W base sp held 52 v d ps) : ∃ x0 x1 : Int, v = spanV x0 x1 := by
  obtain ⟨f2, f3, e52, _⟩ := fields_two fo52
  obtain ⟨fuel4, hf4⟩ := h
  have hagg4 : ∃ cs, v = .agg cs := by
    unfold Value.okWide at hv4
    rw [e52] at hv4
    obtain ⟨cs, h, _⟩ := hv4
    exact ⟨cs, h⟩
  obtain ⟨⟨l⟩, rfl⟩ := hagg4
  have hf5 : DataW.trod enc Tryz.prog W base sp held fuel4 52 l = some (d, ps) := hf4
  obtain ⟨y0, y1, m, _, hl, t0, t1⟩ := trod_struct2 e52 hf5
  rw [co52] at hl
  obtain ⟨c0, c1, rfl⟩ := two_ofM hl
  obtain ⟨u, v, rfl, rfl⟩ := open_span hf5
  exact ⟨u, v, rfl⟩
theorem ul50 : Tryz.prog.underlying 50 = some (.int .i64) := by kernel_rfl
theorem ul3M : Tryz.prog.underlying 3 = some (.int .i64) := by kernel_rfl
theorem params5 : Tryz.f5.params.toList = [26, 3, 50, 52] := rfl
theorem meas_lifted (os : Os) (started : os.Started) (H : Type) (enc : TypeId × Value → H) :
    ReturnsInLeavingWide {} Tryz.checked os 5 .any (Rows.arrowMeasuresSpec.pre6 enc Tryz.prog Tryz.f5 Rows.arrowMeasuresRow.domain false) (Rows.arrowMeasuresSpec.post enc Tryz.prog Tryz.f5 false true false false) := by
  refine returnsInLeavingWide_of_change_sized (C := Tryz.checked) own started Tryz.func5
    (ChangeSpec.witness6 (enc := enc) (C := Tryz.checked) false ⟨#[], #[.agg #[.int .i64 0, .int .i64 0, .int .i64 0, .int .i64 0, .slice none 0 0], .int .i64 0, .int .i64 0, .agg #[.int .i64 0, .int .i64 0]], []⟩ 8 (by kernel_rfl) (by kernel_rfl) (by kernel_rfl) (by kernel_rfl)) ?_
  intro W base args ds gs before hval0 hW _ _ _
  have hval : ∀ (j : Nat) t v, Tryz.f5.params[j]? = some t → args[j]? = some v → Value.okWide Tryz.prog W .any base t v := hval0
  have hW' := hW
  obtain ⟨p, q, hA0, hV, rfl, _, _⟩ := hW
  have hA : DataW.TrodAll enc Tryz.prog W 0 (fun _ => true) true Tryz.f5.params.toList args.toList ds p := hA0
  rw [params5] at hA
  obtain ⟨v0, v1, v2, v3, d0, d1, d2, d3, p0, p1, p2, p3, rfl, rfl, rfl, h0, h1, h2, h3⟩ := trodAll_four hA
  obtain ⟨rfl, rfl⟩ := trodVars_none hV
  obtain ⟨k, rfl, rfl, rfl, hwk⟩ := open_int ul3M (hval 1 3 v1 rfl rfl) h1
  obtain ⟨m, rfl, rfl, rfl, hwm⟩ := open_int ul50 (hval 2 50 v2 rfl rfl) h2
  have hv0 := hval 0 26 v0 rfl rfl
  obtain ⟨f0, f1, e26, _⟩ := fields_two fo26
  have hagg : ∃ cs, v0 = .agg cs := by
    unfold Value.okWide at hv0
    rw [e26] at hv0
    obtain ⟨cs, h, _⟩ := hv0
    exact ⟨cs, h⟩
  obtain ⟨cs, rfl⟩ := hagg
  obtain ⟨x0, x1, rfl⟩ := open_spanM (hval 3 52 v3 rfl rfl) h3
  have h0k := h0
  have h3k := h3
  obtain ⟨fuel, hf⟩ := h0
  obtain ⟨rs, rl, rw', many, A, n, c, sh, hcs, hc, hsh⟩ := open_stock hf
  have hcs' : cs = #[.int .i64 rs, .int .i64 rl, .int .i64 rw', .int .i64 many, .slice A n c] := by
    have : cs.toList = [.int .i64 rs, .int .i64 rl, .int .i64 rw', .int .i64 many, .slice A n c] := hcs
    exact Array.toList_inj.1 this
  subst hcs'
  clear hA0 hval0
  have hlt : ∀ x, x ∈ p0 ∨ x ∈ p3 → x.block < W.heap.size := fun x hx => hW'.lt x (by simp; rcases hx with h | h <;> simp [h])
  obtain ⟨M, last, o, w', t', r1, r2, r3, r4⟩ := meas_run rs rl rw' many A n c sh k m x0 x1 W hc hsh
  refine ⟨M, last, o, w', t', r1, r2, r3, r4.mono fun v hF => ?_⟩
  obtain ⟨rfl, hb⟩ := hF
  refine ⟨_, _, _, [], p0 ++ ([] ++ ([] ++ p3)), [], hW', ?_, ?_, rfl, hb.frame _, fun h => by cases h⟩
  · exact trodAll_mk1 (t := 4) (v := .bool true) (d := .lit (.bool true)) shut_true
  · exact trodAll_mk4 (Below.trod laidOut (by kernel_rfl) (of_decide_eq_true (by kernel_rfl)) h0k hb fun x hx => hlt x (.inl hx)) (shut_int (enc := enc) (w := w') (base := 0) (spare := fun b => decide (b < W.heap.size)) (held := true) ul3M hwk)
      (shut_int (enc := enc) (w := w') (base := 0) (spare := fun b => decide (b < W.heap.size)) (held := true) ul50 hwm) (Below.trod laidOut (by kernel_rfl) (of_decide_eq_true (by kernel_rfl)) h3k hb fun x hx => hlt x (.inr hx))
theorem arrowMeasures_holds : Rows.ArrowMeasuresSaid :=
  OpenClaim.holds_of_wide_leaving 5 Tryz.f5 rfl rfl rfl rfl rfl rfl rfl ⟨rfl, rfl, rfl, rfl, rfl⟩ rfl rfl rfl rfl rfl (by kernel_rfl) Tryz.func5 (by kernel_rfl)
    (of_decide_eq_true (by kernel_rfl)) (by unfold Func.isWrapper; first | (rw [if_pos (by decide +kernel)]; kernel_rfl) | (rw [if_neg (by decide +kernel)]; exact ⟨rfl, rfl⟩))
    (fun os started H enc _ => meas_lifted os started H enc)
end Go.Proofs.YtpdmgecbapmgdaaGreat
end
