/- A part of the proof that ArrowTrue returns true for every input: no further condition. -/
import Derived.Test.YtpdmgecbapmgdaaGreatGp3
import Derived.Test.YtpdmgecbapmgdaaGreatGp2
import Derived.Maps.OwnIn
import Derived.Stop.RegionWithIn
set_option linter.unusedSimpArgs false
set_option linter.unusedVariables false
set_option maxHeartbeats 2000000
set_option maxRecDepth 100000
section
namespace Go.Proofs.YtpdmgecbapmgdaaGreat
open Go.RowKit
def HandsStock (rs rl rw many : Int) (n : Nat) (sh : Nat → Shaft) (W : World) (e : Ending) (w' : World) : Prop := ∃ (A : Option Addr) (c : Nat), e = .returned (stockV rs rl rw many A n c) ∧ n ≤ c ∧ ShaftsAt w' A n sh ∧ Below W.heap.size W w'
def shaftCs (x : Shaft) : List Value := [.string x.name, .int .i64 x.s0, .int .i64 x.s1, .int .i64 x.l0, .int .i64 x.l1, .int .i64 x.w0, .int .i64 x.w1]
def shVs (sh : Nat → Shaft) : Nat → List Value
  | 0 => []
  | n + 1 => shVs sh n ++ shaftCs (sh n)
theorem shVs_len (sh : Nat → Shaft) : ∀ n, (shVs sh n).length = n * 7
  | 0 => rfl
  | n + 1 => by simp [shVs, shVs_len sh n, shaftCs]; omega
theorem shVs_get (sh : Nat → Shaft) : ∀ (n k i : Nat), k < n → i < 7 → (shVs sh n)[k * 7 + i]? = (shaftCs (sh k))[i]?
  | 0, k, i, h, _ => absurd h (by omega)
  | n + 1, k, i, h, hi => by
    simp only [shVs]
    by_cases e : k < n
    · rw [List.getElem?_append_left (by rw [shVs_len]; omega)]
      exact shVs_get sh n k i e hi
    · obtain rfl : k = n := by omega
      rw [List.getElem?_append_right (by rw [shVs_len]; omega), shVs_len, show k * 7 + i - k * 7 = i by omega]
theorem shVs_cells {w : World} {b o n : Nat} {sh : Nat → Shaft} (h : ShaftsAt w (some ⟨b, o, none⟩) n sh) : ∀ (j : Nat) (u : Value), (shVs sh n)[j]? = some u → w.cell? (Addr.add ⟨b, o, none⟩ j) = some u := by
  intro j u hj
  have hlen : j < n * 7 := by rw [← shVs_len sh n]; exact (List.getElem?_eq_some_iff.1 hj).1
  obtain ⟨k, i, hi, rfl⟩ : ∃ k i, i < 7 ∧ j = k * 7 + i := ⟨j / 7, j % 7, by omega, by omega⟩
  have hk : k < n := by omega
  rw [shVs_get sh n k i hk hi] at hj
  obtain ⟨b', o', e, hx⟩ := h k hk
  cases e
  have e1 : Addr.add ⟨b, o, none⟩ (k * 7 + i) = ⟨b, o + k * 7 + i, none⟩ := by
    unfold Addr.add
    split
    · next h0 => rw [Addr.mk.injEq]; exact ⟨rfl, by omega, rfl⟩
    · rw [Addr.mk.injEq]; exact ⟨rfl, by simp; omega, rfl⟩
  rw [e1]
  have h7 : i = 0 ∨ i = 1 ∨ i = 2 ∨ i = 3 ∨ i = 4 ∨ i = 5 ∨ i = 6 := by omega
  rcases h7 with rfl | rfl | rfl | rfl | rfl | rfl | rfl <;> (simp [shaftCs] at hj; subst hj)
  · exact hx.h0
  · exact hx.h1
  · exact hx.h2
  · exact hx.h3
  · exact hx.h4
  · exact hx.h5
  · exact hx.h6
theorem shVs_one (sh : Nat → Shaft) : ∀ n, ∀ u ∈ shVs sh n, u.oneCell' = true
  | 0, u, h => by cases h
  | n + 1, u, h => by
    simp only [shVs, List.mem_append] at h
    rcases h with h | h
    · exact shVs_one sh n u h
    · simp only [shaftCs, List.mem_cons, List.not_mem_nil, or_false] at h
      rcases h with rfl | rfl | rfl | rfl | rfl | rfl | rfl <;> rfl
theorem shafts_row {w : World} {g n : Nat} {cur : Array Value} {fz : Nat × Nat} {sh : Nat → Shaft} (hg : w.heap[g]? = some (.cells cur 65 fz)) (ht : cur.toList.take (n * 7) = shVs sh n) : ShaftsAt w (some ⟨g, 0, none⟩) n sh := by
  intro k hk
  have key : ∀ i, i < 7 → w.cell? ⟨g, 0 + k * 7 + i, none⟩ = (shaftCs (sh k))[i]? := by
    intro i hi
    have h1 := shVs_get sh n k i hk hi
    rw [← ht, List.getElem?_take, if_pos (by omega), Array.getElem?_toList] at h1
    simp only [World.cell?, hg, Nat.zero_add]
    exact h1
  exact ⟨g, 0, rfl, key 0 (by omega), key 1 (by omega), key 2 (by omega), key 3 (by omega), key 4 (by omega), key 5 (by omega), key 6 (by omega)⟩
theorem it65 : (Tryz.prog.info? 65).map (fun i => (i.zero, i.size, i.bytes)) = some (some (.agg #[.string .empty, .int .i64 0, .int .i64 0, .int .i64 0, .int .i64 0, .int .i64 0, .int .i64 0]), 7, 64) := by kernel_rfl
theorem ut24 : Tryz.prog.underlying 24 = some (.slice 65) := by kernel_rfl
theorem frozen_no {w : World} {p : Nat} {cs : Array Value} {t : TypeId} (h : w.heap[p]? = some (.cells cs t (0, 0))) : ∀ j, w.frozen? ⟨p, j, none⟩ = false := fun j => by simp [World.frozen?, h]
theorem heap_top (w : World) (o : Obj) {k : Nat} (h : w.heap.size = k) : (w.alloc o).heap[k]? = some o := by
  subst h
  exact heap_new _ _
theorem results_stock {fn : Func} {tmps : Array Value} {w : World} {g : Nat} {a0 a1 a2 a3 a4 : Value} (h : fn.results = #[.cell 8 26]) (ht : tmps.getD 8 undef = .pointer (some ⟨g, 0, none⟩)) (c0 : w.cell? ⟨g, 0, none⟩ = some a0) (c1 : w.cell? ⟨g, 1, none⟩ = some a1) (c2 : w.cell? ⟨g, 2, none⟩ = some a2) (c3 : w.cell? ⟨g, 3, none⟩ = some a3) (c4 : w.cell? ⟨g, 4, none⟩ = some a4) :
    (results fn tmps).run Tryz.prog w = .ok (.agg #[a0, a1, a2, a3, a4]) w := by
  have ht' : tmps[8]?.getD undef = .pointer (some ⟨g, 0, none⟩) := by rw [← ht, Array.getD_eq_getD_getElem?]
  unfold results
  rw [h]
  simp [ht', asAddr]
  go_simp
theorem shaft_get {w : World} {b p : Nat} {x : Shaft} (h : ShaftAt w b p x) : ∀ i, i < 7 → w.cell? ⟨b, p + i, none⟩ = (shaftCs x)[i]? := fun i hi => by
  have h7 : i = 0 ∨ i = 1 ∨ i = 2 ∨ i = 3 ∨ i = 4 ∨ i = 5 ∨ i = 6 := by omega
  rcases h7 with rfl | rfl | rfl | rfl | rfl | rfl | rfl
  · exact h.h0
  · exact h.h1
  · exact h.h2
  · exact h.h3
  · exact h.h4
  · exact h.h5
  · exact h.h6
theorem shaft_of {w : World} {b p : Nat} {x : Shaft} (h : ∀ i, i < 7 → w.cell? ⟨b, p + i, none⟩ = (shaftCs x)[i]?) : ShaftAt w b p x :=
  ⟨h 0 (by omega), h 1 (by omega), h 2 (by omega), h 3 (by omega), h 4 (by omega), h 5 (by omega), h 6 (by omega)⟩
theorem upd_cs (x : Shaft) {m i : Nat} (hm : m < 3) (hi : i < 7) (u v : Int) : (shaftCs (updSpan x m u v))[i]? = if i = 1 + 2 * m then some (.int .i64 u) else if i = 2 + 2 * m then some (.int .i64 v) else (shaftCs x)[i]? := by
  have h3 : m = 0 ∨ m = 1 ∨ m = 2 := by omega
  have h7 : i = 0 ∨ i = 1 ∨ i = 2 ∨ i = 3 ∨ i = 4 ∨ i = 5 ∨ i = 6 := by omega
  rcases h3 with rfl | rfl | rfl <;> rcases h7 with rfl | rfl | rfl | rfl | rfl | rfl | rfl <;> rfl
theorem shafts_put {w : World} {g n k m : Nat} {sh : Nat → Shaft} (h : ShaftsAt w (some ⟨g, 0, none⟩) n sh) (hk : k < n) (hm : m < 3) (u v : Int) :
    ShaftsAt ((w.setCell ⟨g, k * 7 + (1 + 2 * m), none⟩ (.int .i64 u)).setCell ⟨g, k * 7 + (2 + 2 * m), none⟩ (.int .i64 v)) (some ⟨g, 0, none⟩) n (putSh sh k m u v) := by
  intro j hj
  refine ⟨g, 0, rfl, shaft_of fun i hi => ?_⟩
  rw [Nat.zero_add]
  have hc : ∀ t i, t < n → i < 7 → w.cell? ⟨g, t * 7 + i, none⟩ = (shaftCs (sh t))[i]? := fun t i ht hi => by
    obtain ⟨b', o', e, hx⟩ := h t ht
    cases e
    have := shaft_get hx i hi
    rwa [Nat.zero_add] at this
  have h1 := hc k (1 + 2 * m) hk (by omega)
  have h2 := hc k (2 + 2 * m) hk (by omega)
  have s1 : ∃ y, (shaftCs (sh k))[1 + 2 * m]? = some y := ⟨_, List.getElem?_eq_getElem (by simp [shaftCs]; omega)⟩
  have s2 : ∃ y, (shaftCs (sh k))[2 + 2 * m]? = some y := ⟨_, List.getElem?_eq_getElem (by simp [shaftCs]; omega)⟩
  obtain ⟨y1, e1⟩ := s1
  obtain ⟨y2, e2⟩ := s2
  rw [e1] at h1
  rw [e2] at h2
  have ne : (⟨g, k * 7 + (1 + 2 * m), none⟩ : Addr) ≠ ⟨g, k * 7 + (2 + 2 * m), none⟩ := by intro e; simp only [Addr.mk.injEq] at e; omega
  by_cases ej : j = k
  · subst ej
    rw [show putSh sh j m u v j = updSpan (sh j) m u v by simp [putSh], upd_cs _ hm hi]
    by_cases i1 : i = 1 + 2 * m
    · subst i1
      rw [if_pos rfl, World.cell?_setCell_other _ _ _ _ (by intro e; simp only [Addr.mk.injEq] at e; omega), World.cell?_setCell_same _ _ _ h1]
    · rw [if_neg i1]
      by_cases i2 : i = 2 + 2 * m
      · subst i2
        rw [if_pos rfl, World.cell?_setCell_same _ _ _ (by rw [World.cell?_setCell_other _ _ _ _ (by intro e; simp only [Addr.mk.injEq] at e; omega)]; exact h2)]
      · rw [if_neg i2, World.cell?_setCell_other _ _ _ _ (by intro e; simp only [Addr.mk.injEq] at e; omega), World.cell?_setCell_other _ _ _ _ (by intro e; simp only [Addr.mk.injEq] at e; omega)]
        exact hc j i hj hi
  · rw [show putSh sh k m u v j = sh j by simp [putSh, ej], World.cell?_setCell_other _ _ _ _ (by intro e; simp only [Addr.mk.injEq] at e; omega), World.cell?_setCell_other _ _ _ _ (by intro e; simp only [Addr.mk.injEq] at e; omega)]
    exact hc j i hj hi
theorem shafts_far {w : World} {g n p j : Nat} {sh : Nat → Shaft} (h : ShaftsAt w (some ⟨g, 0, none⟩) n sh) (hp : p ≠ g) (x : Value) : ShaftsAt (w.setCell ⟨p, j, none⟩ x) (some ⟨g, 0, none⟩) n sh := by
  intro k hk
  obtain ⟨b', o', e, hx⟩ := h k hk
  cases e
  have ne : ∀ i, (⟨g, i, none⟩ : Addr) ≠ ⟨p, j, none⟩ := fun i e => by simp only [Addr.mk.injEq] at e; exact hp e.1.symm
  refine ⟨g, 0, rfl, shaft_of fun i hi => ?_⟩
  rw [World.cell?_setCell_other _ _ _ _ (by first | exact ne _ | exact (ne _).symm)]
  exact shaft_get hx i hi
structure PutAt (W w : World) (rs rl rw many u v : Int) (b o n c g : Nat) (sh : Nat → Shaft) : Prop where
  hg : W.heap.size + 4 ≤ g
  hb : Below W.heap.size W w
  hz : W.heap.size + 5 ≤ w.heap.size
  row : ShaftsAt w (some ⟨g, 0, none⟩) n sh
  a10 : w.cell? ⟨W.heap.size + 1, 0, none⟩ = some (.int .i64 u)
  a11 : w.cell? ⟨W.heap.size + 1, 1, none⟩ = some (.int .i64 v)
  a20 : w.cell? ⟨W.heap.size + 1 + 1, 0, none⟩ = some (.int .i64 0)
  a21 : w.cell? ⟨W.heap.size + 1 + 1, 1, none⟩ = some (.int .i64 0)
  a22 : w.cell? ⟨W.heap.size + 1 + 1, 2, none⟩ = some (.int .i64 0)
  a23 : w.cell? ⟨W.heap.size + 1 + 1, 3, none⟩ = some (.int .i64 0)
  a24 : w.cell? ⟨W.heap.size + 1 + 1, 4, none⟩ = some (.slice none 0 0)
  a30 : w.cell? ⟨W.heap.size + 1 + 1 + 1, 0, none⟩ = some (.int .i64 rs)
  a31 : w.cell? ⟨W.heap.size + 1 + 1 + 1, 1, none⟩ = some (.int .i64 rl)
  a32 : w.cell? ⟨W.heap.size + 1 + 1 + 1, 2, none⟩ = some (.int .i64 rw)
  a33 : w.cell? ⟨W.heap.size + 1 + 1 + 1, 3, none⟩ = some (.int .i64 many)
  a34 : w.cell? ⟨W.heap.size + 1 + 1 + 1, 4, none⟩ = some (.slice (some ⟨b, o, none⟩) n c)
  z2 : ∀ j, w.frozen? ⟨W.heap.size + 1 + 1, j, none⟩ = false
  z3 : ∀ j, w.frozen? ⟨W.heap.size + 1 + 1 + 1, j, none⟩ = false
  zg : ∀ j, w.frozen? ⟨g, j, none⟩ = false
theorem put_at {W w4 : World} {rs rl rw many u v : Int} {b o n c : Nat} {sh : Nat → Shaft} {v' : Value} {row : Option Nat} (hn : 0 < n) (hr : row = some (W.heap.size + 1 + 1 + 1 + 1)) (hg4 : World.grownBy (((((W.alloc (.cells #[.int .i64 rs, .int .i64 rl, .int .i64 rw, .int .i64 many, .slice (some ⟨b, o, none⟩) n c] 26)).alloc (.cells #[.int .i64 u, .int .i64 v] 52)).alloc (.cells #[.int .i64 0, .int .i64 0, .int .i64 0, .int .i64 0, .slice none 0 0] 26)).alloc (.cells #[.int .i64 rs, .int .i64 rl, .int .i64 rw, .int .i64 many, .slice (some ⟨b, o, none⟩) n c] 26)).alloc (.cells #[] 65)) w4 row) (hown4 : w4.ownsRow (W.heap.size + 4) 65 7 v' (0 + n) ([] ++ shVs sh n)) :
    ∃ g cap, v' = .slice (some ⟨g, 0, none⟩) n cap ∧ n ≤ cap ∧ PutAt W w4 rs rl rw many u v b o n c g sh := by
  subst hr
  have hB5 : Below W.heap.size W (((((W.alloc (.cells #[.int .i64 rs, .int .i64 rl, .int .i64 rw, .int .i64 many, .slice (some ⟨b, o, none⟩) n c] 26)).alloc (.cells #[.int .i64 u, .int .i64 v] 52)).alloc (.cells #[.int .i64 0, .int .i64 0, .int .i64 0, .int .i64 0, .slice none 0 0] 26)).alloc (.cells #[.int .i64 rs, .int .i64 rl, .int .i64 rw, .int .i64 many, .slice (some ⟨b, o, none⟩) n c] 26)).alloc (.cells #[] 65)) := (((((Below.refl _ _).alloc (Nat.le_refl _) _).alloc (by simp) _).alloc (by simp <;> omega) _).alloc (by simp <;> omega) _).alloc (by simp <;> omega) _
  obtain ⟨_, hv4⟩ := hown4
  rcases hv4 with ⟨_, hn0⟩ | ⟨g, cap, cur, rfl, hg0, hgb, hcap, hmx, hcs, htk⟩
  · exact absurd hn0 (by omega)
  rw [Nat.zero_add] at hcap htk ⊢
  have HBX := (Below.refl (W.heap.size + 4) _).grown hg4 (by simp <;> omega) (fun k e => by cases e; omega)
  have y1 : w4.heap[W.heap.size + 1]? = some (.cells #[.int .i64 u, .int .i64 v] 52 (0, 0)) := by rw [HBX.block _ (by omega), heap_alloc_old _ _ (by simp <;> omega), heap_alloc_old _ _ (by simp <;> omega), heap_alloc_old _ _ (by simp), heap_top _ _ (by simp)]
  have y2 : w4.heap[W.heap.size + 1 + 1]? = some (.cells #[.int .i64 0, .int .i64 0, .int .i64 0, .int .i64 0, .slice none 0 0] 26 (0, 0)) := by rw [HBX.block _ (by omega), heap_alloc_old _ _ (by simp <;> omega), heap_alloc_old _ _ (by simp), heap_top _ _ (by simp)]
  have y3 : w4.heap[W.heap.size + 1 + 1 + 1]? = some (.cells #[.int .i64 rs, .int .i64 rl, .int .i64 rw, .int .i64 many, .slice (some ⟨b, o, none⟩) n c] 26 (0, 0)) := by rw [HBX.block _ (by omega), heap_alloc_old _ _ (by simp), heap_top _ _ (by simp)]
  refine ⟨g, cap, rfl, hcap, ?_⟩
  exact {
    hg := hg0
    hb := hB5.grown hg4 (by simp <;> omega) (fun k e => by cases e; omega)
    hz := by have := hg4.size; simp at this; omega
    row := shafts_row hgb (by simpa using htk)
    a10 := by simp [World.cell?, y1]
    a11 := by simp [World.cell?, y1]
    a20 := by simp [World.cell?, y2]
    a21 := by simp [World.cell?, y2]
    a22 := by simp [World.cell?, y2]
    a23 := by simp [World.cell?, y2]
    a24 := by simp [World.cell?, y2]
    a30 := by simp [World.cell?, y3]
    a31 := by simp [World.cell?, y3]
    a32 := by simp [World.cell?, y3]
    a33 := by simp [World.cell?, y3]
    a34 := by simp [World.cell?, y3]
    z2 := frozen_no y2
    z3 := frozen_no y3
    zg := frozen_no hgb }
theorem Put_any (rs rl rw many : Int) (A : Option Addr) (n c k m : Nat) (sh : Nat → Shaft) (u v : Int) (W : World) (hn : n ≤ 9) (hk : k < n) (hc : n ≤ c) (hm : m < 3) (hsh : Hid (ShaftsAt W A n sh)) :
    CallsIn Fc 0 Tryz.prog 38 #[stockV rs rl rw many A n c, .int .i64 k, .int .i64 m, spanV u v] W (HandsStock rs rl rw many n (putSh sh k m u v) W) := by
  obtain ⟨i0, hi0, hz0, hz1, hz2⟩ := info_parts it65
  have HI0 := Lib.hid hi0
  have HZ0 := Lib.hid hz0
  have HZ1 := Lib.hid hz1
  have HZ2 := Lib.hid hz2
  clear hi0 hz0 hz1 hz2
  obtain ⟨b, o, rfl, _⟩ := hsh.out k hk
  have hB5 : ∀ x1 x2 x3 x4 x5, Below W.heap.size W (((((W.alloc x1).alloc x2).alloc x3).alloc x4).alloc x5) := fun x1 x2 x3 x4 x5 => (((((Below.refl _ _).alloc (Nat.le_refl _) x1).alloc (by simp) x2).alloc (by simp; omega) x3).alloc (by simp; omega) x4).alloc (by simp; omega) x5
  have HB5 := Lib.hid hB5
  clear hB5
  have h3 : m = 0 ∨ m = 1 ∨ m = 2 := by omega
  rcases h3 with rfl | rfl | rfl
  all_goals
    gi_enter Tryz.func38, Tryz.ntmps38
    gi_wp2_with
      (gi_at_builtin
       refine wpListIn_append_own _ rfl _ _ 24 rfl (W.heap.size + 4) 65 i0 (.agg #[.string .empty, .int .i64 0, .int .i64 0, .int .i64 0, .int .i64 0, .int .i64 0, .int .i64 0]) 7 64 ut24 HI0.out HZ0.out HZ1.out HZ2.out rfl (by decide) (.slice (some ⟨W.heap.size + 1 + 1 + 1 + 1, 0, none⟩) 0 0) 0 [] rfl ⟨rfl, .inr ⟨W.heap.size + 1 + 1 + 1 + 1, 0, #[], rfl, by omega, heap_top _ _ (by simp), by omega, by simp [maxLen], by simp, by simp⟩⟩ ⟨b, o, none⟩ n c (shVs sh n) rfl (shVs_len sh n) (shVs_cells (hsh.out.below (HB5.out _ _ _ _ _))) (shVs_one sh n) (by simp [maxLen]; omega) (by omega) (by simp) ?_; intro v' w4 hown4 hg4 hnil4
       obtain ⟨g, cap, rfl, hcap, hP⟩ := put_at (by omega) rfl hg4 hown4
       have HP := Lib.hid hP
       obtain ⟨hg0, _, hz5, hrow, a10, a11, a20, a21, a22, a23, a24, a30, a31, a32, a33, a34, z2, z3, zg⟩ := hP
       obtain ⟨g', o', e', x0, x1, x2, x3, x4, x5, x6⟩ := hrow k hk
       cases e'
       rw [Nat.zero_add] at x0 x1 x2 x3 x4 x5 x6
       clear hg4 hnil4 hown4 hrow)
    refine bodyPost_ret (v := stockV rs rl rw many (some ⟨g, 0, none⟩) n cap) (results_stock rfl rfl (by go_simp) (by go_simp) (by go_simp) (by go_simp) (by go_simp)) rfl ?_
    refine ⟨some ⟨g, 0, none⟩, cap, rfl, hcap, ?_, ?_⟩
    · have hne : ∀ p, p < W.heap.size + 4 → p ≠ g := fun p hp e => by omega
      have h1 := shafts_put (shafts_far (j := 4) HP.out.row (hne (W.heap.size + 1 + 1 + 1) (by omega)) (.slice (some ⟨g, 0, none⟩) n cap)) hk hm u v
      have n2 := hne (W.heap.size + 1 + 1) (by omega)
      exact shafts_far (shafts_far (shafts_far (shafts_far (shafts_far h1 n2 _) n2 _) n2 _) n2 _) n2 _
    · have l3 : W.heap.size ≤ W.heap.size + 1 + 1 + 1 := by omega
      have l2 : W.heap.size ≤ W.heap.size + 1 + 1 := by omega
      have lg : W.heap.size ≤ g := by omega
      exact (((((((HP.out.hb.setCell l3 _).setCell lg _).setCell lg _).setCell l2 _).setCell l2 _).setCell l2 _).setCell l2 _).setCell l2 _
end Go.Proofs.YtpdmgecbapmgdaaGreat
end
section
namespace Go.Proofs.YtpdmgecbapmgdaaGreat
open Go.RowKit
section
variable {F : Fence} {n : Nat} {P : Program} {ops : Array Oper} {Q : Exit → Act → World → Prop}
def depsOf (ops : Array Oper) (i : Nat) : List Nat := (List.range i).filter fun j => depB ops i j
def clos (ops : Array Oper) : Nat → List Nat → List Nat
  | 0, S => S
  | i + 1, S => clos ops i (if S.contains i then S ++ depsOf ops i else S)
def closB (ops : Array Oper) (k : Nat) : Bool := (List.range k).all fun j => (clos ops (k + 1) [k]).contains j
def chainB (ops : Array Oper) (k : Nat) : Bool := (List.range ops.size).all fun i => decide (i ≤ k) || depB ops i (i - 1)
theorem clos_listed {listed : Array Bool} {k : Nat} (hc : ∀ i, listed.getD i false = true → ∀ j, depB ops i j = true → listed.getD j false = true) (hk : ∀ j, depB ops k j = true → listed.getD j false = true) :
    ∀ (i : Nat) (S : List Nat), (∀ s ∈ S, s = k ∨ listed.getD s false = true) → ∀ s ∈ clos ops i S, s = k ∨ listed.getD s false = true
  | 0, S, h => h
  | i + 1, S, h => by
    unfold clos
    refine clos_listed hc hk i _ ?_
    split
    · next hi =>
      intro s hs
      rcases List.mem_append.1 hs with hs | hs
      · exact h s hs
      · have hd : depB ops i s = true := (List.mem_filter.1 hs).2
        rcases h i (by simpa using hi) with e | e
        · subst e; exact .inr (hk s hd)
        · exact .inr (hc i e s hd)
    · exact h
structure RD (ops : Array Oper) (k : Nat) (D : List (Nat × Value)) (I : World → Prop) (z : Nat) (a0 : Act) (listed : Array Bool) (a : Act) (w : World) : Prop where
  defers : a.defers = []
  size : a.tmps.size = z
  old : ∀ s, (∀ x ∈ D, x.1 ≠ s) → a.eval (.tmp s) = a0.eval (.tmp s)
  inv : I w
  fact : ∀ (j d : Nat) (v : Value), D[j]? = some (d, v) → listed.getD j false = true → a.eval (.tmp d) = v
  closed : ∀ i, listed.getD i false = true → ∀ j, depB ops i j = true → listed.getD j false = true
  none : ∀ i, k ≤ i → listed.getD i false = false
structure RL (F : Fence) (n : Nat) (P : Program) (ops : Array Oper) (Q : Exit → Act → World → Prop) (t : Nat) (listed : Array Bool) (a : Act) (w : World) : Prop where
  yes : ∀ i, i < t → listed.getD i false = true
  no : ∀ i, t ≤ i → listed.getD i false = false
  go : wpListIn F n P ops Q (ops.toList.drop t) a w
def nodupB (D : List Nat) : Bool := decide D.Nodup
theorem wpIn_region_L (k : Nat) (D : List (Nat × Value)) {I : World → Prop} {z : Nat} {a0 : Act} {id : Nat} {w : World} (hm : P.follows .mixedOrders = true) (hb : backB .any ops = true) (hcl : closB ops k = true) (hch : chainB ops k = true) (hk : k < ops.size)
    (hD : D.length = k ∧ (List.range k).all (fun j => dstAt ops j == (D.map (·.1))[j]?) = true) (hnd : nodupB (D.map (·.1)) = true) (hDz : (D.map (·.1)).all (fun d => decide (d < z)) = true) (hd : a0.defers = []) (hz : a0.tmps.size = z)
    (h0 : I { w with drawn := w.drawn + 1 })
    (hJ : ∀ j a w, j < k → a.defers = [] → a.tmps.size = z → (∀ s, (∀ x ∈ D.map (·.1), x ≠ s) → a.eval (.tmp s) = a0.eval (.tmp s)) → (∀ k d v, depB ops j k = true → D[k]? = some (d, v) → a.eval (.tmp d) = v) → I w →
      wpOpIn F n P ops Q j (fun a' w' => ∃ d v, D[j]? = some (d, v) ∧ a'.defers = [] ∧ a'.tmps = a.tmps.setIfInBounds d v ∧ I w') a w)
    (hL : ∀ w, I w → wpListIn F n P ops Q (ops.toList.drop k) { tmps := D.foldl (fun t x => t.setIfInBounds x.1 x.2) a0.tmps, defers := [] } w) : (Code.region id ops true).wpIn F n P Q a0 w := by
  obtain ⟨hlen, hdst⟩ := hD
  have hat : ∀ j, j < k → ∃ d v, D[j]? = some (d, v) ∧ dstAt ops j = some d ∧ d < z := fun j hj => by
    have hj' : j < D.length := by omega
    refine ⟨D[j].1, D[j].2, by simp [hj'], ?_, of_decide_eq_true (List.all_eq_true.1 hDz D[j].1 (List.mem_map.2 ⟨D[j], List.getElem_mem hj', rfl⟩))⟩
    have h1 := List.all_eq_true.1 hdst j (List.mem_range.2 hj)
    rw [List.getElem?_map] at h1
    simpa [hj'] using h1
  have hnd' : (D.map (·.1)).Nodup := of_decide_eq_true hnd
  have stepL : ∀ (t : Nat) (listed : Array Bool) (a : Act) (w : World) (i : Nat), RL F n P ops Q t listed a w → i = t → i ∈ Region.ready .any ops listed → wpOpIn F n P ops Q i (fun a' w' => RL F n P ops Q (t + 1) (listed.setIfInBounds i true) a' w') a w := by
    rintro t listed a w i h rfl hi
    have his : i < ops.size := by
      obtain ⟨_, o, h3, _⟩ := mem_ready.1 hi
      exact (Array.getElem?_eq_some_iff.1 h3).1
    have hgo := h.go
    rw [List.drop_eq_getElem_cons (by simpa using his)] at hgo
    have hop : wpOpIn F n P ops Q i (wpListIn F n P ops Q (ops.toList.drop (i + 1))) a w := by
      unfold wpOpIn
      rw [show ops[i]? = some ops[i] by simp [his]]
      simp only [Array.getElem_toList] at hgo
      simpa [wpListIn] using hgo
    refine wpOpIn_mono (fun a' w' h' => ⟨fun j hj => ?_, fun j hj => ?_, h'⟩) hop
    · by_cases e : j = i
      · subst e; exact set_self hi
      · rw [gset (fun e' => e e'.symm)]; exact h.yes j (by omega)
    · rw [gset (by omega)]; exact h.no j (by omega)
  refine wpIn_region_J (J := fun listed a w => RD ops k D I z a0 listed a w ∨ ∃ t, k < t ∧ RL F n P ops Q t listed a w) hm hb (.inl ?_) (fun listed a w i hJ' hi => ?_) fun listed a w hJ' hall => ?_
  · refine ⟨hd, hz, fun _ _ => rfl, h0, fun j d v _ hl => ?_, fun i hl => ?_, fun i hi => ?_⟩
    · rw [Array.getD_eq_getD_getElem?] at hl
      rcases Nat.lt_or_ge j ops.size with h | h <;> simp [h] at hl
    · rw [Array.getD_eq_getD_getElem?] at hl
      rcases Nat.lt_or_ge i ops.size with h | h <;> simp [h] at hl
    · rw [Array.getD_eq_getD_getElem?]
      rcases Nat.lt_or_ge i ops.size with h | h <;> simp [h]
  · have his : i < ops.size := by
      obtain ⟨_, o, h3, _⟩ := mem_ready.1 hi
      exact (Array.getElem?_eq_some_iff.1 h3).1
    rcases hJ' with hj | ⟨t, hkt, hl⟩
    · by_cases hik : i < k
      · obtain ⟨di, vi, hDi, hdi, hdz⟩ := hat i hik
        refine wpOpIn_mono (fun a' w' h => .inl ?_) (hJ i a w hik hj.defers hj.size (fun s hs => hj.old s fun x hx => hs x.1 (List.mem_map.2 ⟨x, hx, rfl⟩)) (fun m d v hdep e => hj.fact m d v e (dep hi hdep)) hj.inv)
        obtain ⟨d, v, e, h1, h2, h3⟩ := h
        rw [hDi] at e
        cases e
        have ha' : ∀ s, s ≠ di → a'.eval (.tmp s) = a.eval (.tmp s) := fun s hs => by
          simp only [Act.eval, h2]
          simp [Ne.symm hs]
        refine ⟨h1, by rw [h2]; simpa using hj.size, fun s hs => ?_, h3, fun j d v hjd hl => ?_, fun m hm m' hm' => ?_, fun m hm => ?_⟩
        · rw [ha' s fun e => hs (di, vi) (List.mem_iff_getElem?.2 ⟨i, hDi⟩) e.symm]
          exact hj.old s hs
        · by_cases e : j = i
          · subst e
            rw [hDi] at hjd
            cases hjd
            simp only [Act.eval, h2]
            simp [show di < a.tmps.size by rw [hj.size]; exact hdz]
          · rw [gset (fun e' => e e'.symm)] at hl
            have hne : d ≠ di := fun e' => by
              subst e'
              have q1 : (D.map (·.1))[j]? = some d := by rw [List.getElem?_map, hjd]; rfl
              have q2 : (D.map (·.1))[i]? = some d := by rw [List.getElem?_map, hDi]; rfl
              have hj' := (List.getElem?_eq_some_iff.1 q1).1
              exact e ((List.getElem?_inj hj' hnd').1 (q1.trans q2.symm))
            rw [ha' d hne]
            exact hj.fact j d v hjd hl
        · by_cases e : m = i
          · subst e
            by_cases e2 : m = m'
            · subst e2; exact set_self hi
            · rw [gset e2]; exact dep hi hm'
          · rw [gset (fun e' => e e'.symm)] at hm
            have := hj.closed m hm m' hm'
            by_cases e2 : i = m'
            · subst e2; exact set_self hi
            · rw [gset e2]; exact this
        · rw [gset (by omega)]; exact hj.none m hm
      ·
        have hik' : i = k := by
          rcases Nat.lt_or_ge k i with h | h
          · exfalso
            have h1 := List.all_eq_true.1 hch i (List.mem_range.2 his)
            simp only [show ¬ i ≤ k by omega, decide_false, Bool.false_or] at h1
            have h2 := dep hi h1
            rw [hj.none (i - 1) (by omega)] at h2
            cases h2
          · omega
        subst hik'
        have hyes : ∀ j, j < i → listed.getD j false = true := fun j hj' => by
          have h1 := List.all_eq_true.1 hcl j (List.mem_range.2 hj')
          have h2 := clos_listed (k := i) hj.closed (fun j h => dep hi h) (i + 1) [i] (fun s hs => .inl (by simpa using hs)) j (by simpa using h1)
          rcases h2 with e | e
          · omega
          · exact e
        have e : D.foldl (fun t x => t.setIfInBounds x.1 x.2) a0.tmps = a.tmps := by
          refine fold_set a D a0.tmps (by rw [hz, hj.size]) (fun x hx => ?_) fun s hs => (hj.old s hs).symm
          obtain ⟨j, hj', rfl⟩ := List.mem_iff_getElem.1 hx
          exact hj.fact j D[j].1 D[j].2 (by simp [hj']) (hyes j (by omega))
        have h1 := hL w hj.inv
        rw [e] at h1
        obtain ⟨tm, df⟩ := a
        have hdf := hj.defers
        simp only at hdf
        subst hdf
        exact wpOpIn_mono (fun a' w' h => .inr ⟨i + 1, by omega, h⟩) (stepL i listed _ w i ⟨hyes, fun j hj' => hj.none j hj', h1⟩ rfl hi)
    · have hit : i = t := by
        rcases Nat.lt_trichotomy i t with h | h | h
        · exfalso
          have h1 := hl.yes i h
          rw [not_yet hi] at h1
          cases h1
        · exact h
        · exfalso
          have h1 := List.all_eq_true.1 hch i (List.mem_range.2 his)
          simp only [show ¬ i ≤ k by omega, decide_false, Bool.false_or] at h1
          have h2 := dep hi h1
          rw [hl.no (i - 1) (by omega)] at h2
          cases h2
      exact wpOpIn_mono (fun a' w' h => .inr ⟨t + 1, by omega, h⟩) (stepL t listed a w i hl hit hi)
  · rcases hJ' with hj | ⟨t, hkt, hl⟩
    · have := hall k hk
      rw [hj.none k (Nat.le_refl _)] at this
      cases this
    · have ht : ops.size ≤ t := by
        rcases Nat.lt_or_ge t ops.size with h | h
        · have := hall t h
          rw [hl.no t (Nat.le_refl _)] at this
          cases this
        · exact h
      have hgo := hl.go
      rw [List.drop_eq_nil_of_le (by simpa using ht)] at hgo
      simpa [wpListIn] using hgo
end
end Go.Proofs.YtpdmgecbapmgdaaGreat
end
section
namespace Go.Proofs.YtpdmgecbapmgdaaGreat
open Go.RowKit
section
variable (sh : Nat → Shaft) (l : Nat → Nat)
def topZ (y : Nat) : Nat → Int
  | 0 => 0
  | i + 1 => max (topZ y i) (spanA (sh (l i)) y)
end
theorem field52_0 (a b : Value) (w : World) : (Instr.field 52 (.agg #[a, b]) 0).run Tryz.prog w = .ok a w := by kernel_rfl
theorem field52_1 (a b : Value) (w : World) : (Instr.field 52 (.agg #[a, b]) 1).run Tryz.prog w = .ok b w := by kernel_rfl
def closeZ (sh : Nat → Shaft) (l : Nat → Nat) (m y j : Nat) : Int := min (topZ sh l y m) (spanB (sh j) y)
def doneP (l : Nat → Nat) (m x i j y : Nat) : Prop := (y < x ∧ ∃ t, t < m ∧ l t = j) ∨ (y = x ∧ ∃ t, t < i ∧ l t = j)
structure CloAt (sh : Nat → Shaft) (l : Nat → Nat) (m n x i : Nat) (sh' : Nat → Shaft) : Prop where
  name : ∀ j, j < n → (sh' j).name = (sh j).name
  yes : ∀ j, j < n → ∀ y, y < 3 → doneP l m x i j y → spanA (sh' j) y = closeZ sh l m y j ∧ spanB (sh' j) y = closeZ sh l m y j
  no : ∀ j, j < n → ∀ y, y < 3 → ¬ doneP l m x i j y → spanA (sh' j) y = spanA (sh j) y ∧ spanB (sh' j) y = spanB (sh j) y
theorem CloAt.zero (sh : Nat → Shaft) (l : Nat → Nat) (m n : Nat) : CloAt sh l m n 0 0 sh :=
  ⟨fun _ _ => rfl, fun j _ y _ h => by rcases h with ⟨h, _⟩ | ⟨_, t, h, _⟩ <;> omega, fun _ _ _ _ _ => ⟨rfl, rfl⟩⟩
theorem CloAt.next {sh sh' : Nat → Shaft} {l : Nat → Nat} {m n x i : Nat} (h : CloAt sh l m n x i sh') (hx : x < 3) : CloAt sh l m n x (i + 1) (putSh sh' (l i) x (closeZ sh l m x (l i)) (closeZ sh l m x (l i))) where
  name := fun j hj => by rw [putSh_name]; exact h.name j hj
  yes := fun j hj y hy hd => by
    rw [putSh_A hx hy, putSh_B hx hy]
    by_cases e : j = l i ∧ y = x
    · rw [if_pos e, if_pos e]
      obtain ⟨rfl, rfl⟩ := e
      exact ⟨rfl, rfl⟩
    · rw [if_neg e, if_neg e]
      refine h.yes j hj y hy ?_
      rcases hd with hd | ⟨h1, t, h2, h3⟩
      · exact .inl hd
      · refine .inr ⟨h1, t, ?_, h3⟩
        rcases Nat.lt_succ_iff_lt_or_eq.1 h2 with h2 | rfl
        · exact h2
        · exact absurd ⟨h3.symm, h1⟩ e
  no := fun j hj y hy hd => by
    rw [putSh_A hx hy, putSh_B hx hy]
    have e : ¬ (j = l i ∧ y = x) := fun e => hd (.inr ⟨e.2, i, by omega, e.1.symm⟩)
    rw [if_neg e, if_neg e]
    refine h.no j hj y hy fun hd' => hd ?_
    rcases hd' with hd' | ⟨h1, t, h2, h3⟩
    · exact .inl hd'
    · exact .inr ⟨h1, t, by omega, h3⟩
theorem CloAt.turn {sh sh' : Nat → Shaft} {l : Nat → Nat} {m n x : Nat} (h : CloAt sh l m n x m sh') : CloAt sh l m n (x + 1) 0 sh' where
  name := h.name
  yes := fun j hj y hy hd => h.yes j hj y hy (by
    rcases hd with ⟨h1, h2⟩ | ⟨_, t, h2, _⟩
    · rcases Nat.lt_succ_iff_lt_or_eq.1 h1 with h1 | h1
      · exact .inl ⟨h1, h2⟩
      · exact .inr ⟨h1, h2⟩
    · omega)
  no := fun j hj y hy hd => h.no j hj y hy fun hd' => hd (by
    rcases hd' with ⟨h1, h2⟩ | ⟨h1, h2⟩
    · exact .inl ⟨by omega, h2⟩
    · exact .inl ⟨by omega, h2⟩)
def HandsClosest (rs rl rw many : Int) (n m : Nat) (sh : Nat → Shaft) (l : Nat → Nat) (W : World) (e : Ending) (w' : World) : Prop := ∃ (A : Option Addr) (c : Nat) (sh' : Nat → Shaft), e = .returned (stockV rs rl rw many A n c) ∧ n ≤ c ∧ ShaftsAt w' A n sh' ∧ CloAt sh l m n 3 0 sh' ∧ Below W.heap.size W w'
theorem results_stock4 {fn : Func} {tmps : Array Value} {w : World} {g : Nat} {a0 a1 a2 a3 a4 : Value} (h : fn.results = #[.cell 4 26]) (ht : tmps.getD 4 undef = .pointer (some ⟨g, 0, none⟩)) (c0 : w.cell? ⟨g, 0, none⟩ = some a0) (c1 : w.cell? ⟨g, 1, none⟩ = some a1) (c2 : w.cell? ⟨g, 2, none⟩ = some a2) (c3 : w.cell? ⟨g, 3, none⟩ = some a3) (c4 : w.cell? ⟨g, 4, none⟩ = some a4) :
    (results fn tmps).run Tryz.prog w = .ok (.agg #[a0, a1, a2, a3, a4]) w := by
  have ht' : tmps[4]?.getD undef = .pointer (some ⟨g, 0, none⟩) := by rw [← ht, Array.getD_eq_getD_getElem?]
  unfold results
  rw [h]
  simp [ht', asAddr]
  go_simp
structure CloMem (W w : World) (rs rl rw many : Int) (b o n c : Nat) (A' : Option Addr) (c' : Nat) (sh' : Nat → Shaft) : Prop where
  hb : Below W.heap.size W w
  hz : W.heap.size + 3 ≤ w.heap.size
  b0 : w.heap[W.heap.size]? = some (.cells #[.int .i64 rs, .int .i64 rl, .int .i64 rw, .int .i64 many, .slice (some ⟨b, o, none⟩) n c] 26 (0, 0))
  b1 : w.heap[W.heap.size + 1]? = some (.cells #[.int .i64 0, .int .i64 0, .int .i64 0, .int .i64 0, .slice none 0 0] 26 (0, 0))
  b2 : w.heap[W.heap.size + 1 + 1]? = some (.cells #[.int .i64 rs, .int .i64 rl, .int .i64 rw, .int .i64 many, .slice A' n c'] 26 (0, 0))
  hc : n ≤ c'
  row : ShaftsAt w A' n sh'
theorem CloMem.below {W w w' : World} {rs rl rw many : Int} {b o n c : Nat} {A' : Option Addr} {c' : Nat} {sh' : Nat → Shaft} (h : CloMem W w rs rl rw many b o n c A' c' sh') (hb : Below w.heap.size w w') : CloMem W w' rs rl rw many b o n c A' c' sh' where
  hb := h.hb.trans (hb.mono h.hb.size)
  hz := Nat.le_trans h.hz hb.size
  b0 := by rw [hb.block _ (by have := h.hz; omega)]; exact h.b0
  b1 := by rw [hb.block _ (by have := h.hz; omega)]; exact h.b1
  b2 := by rw [hb.block _ (by have := h.hz; omega)]; exact h.b2
  hc := h.hc
  row := h.row.below hb
theorem shafts_far' {w : World} {A : Option Addr} {n p j : Nat} {sh : Nat → Shaft} (h : ShaftsAt w A n sh) (hp : ∀ b o, A = some ⟨b, o, none⟩ → p ≠ b) (x : Value) : ShaftsAt (w.setCell ⟨p, j, none⟩ x) A n sh := by
  intro k hk
  obtain ⟨b', o', e, hx⟩ := h k hk
  have ne : ∀ i, (⟨b', i, none⟩ : Addr) ≠ ⟨p, j, none⟩ := fun i e' => by simp only [Addr.mk.injEq] at e'; exact hp _ _ e e'.1.symm
  refine ⟨b', o', e, shaft_of fun i hi => ?_⟩
  rw [World.cell?_setCell_other _ _ _ _ (by first | exact ne _ | exact (ne _).symm)]
  exact shaft_get hx i hi
theorem shafts_box {w : World} {A : Option Addr} {n q k : Nat} {sh : Nat → Shaft} {i0 i1 i2 i3 : Int} {v : Value} (h : ShaftsAt w A n sh) (hk : k < n) (hv : ∀ s, v ≠ .string s) (hq : w.heap[q]? = some (.cells #[.int .i64 i0, .int .i64 i1, .int .i64 i2, .int .i64 i3, v] 26 (0, 0))) : ∀ b o, A = some ⟨b, o, none⟩ → q ≠ b := by
  rintro b o rfl rfl
  obtain ⟨b', o', e, hx⟩ := h k hk
  cases e
  have h0 := hx.h0
  simp only [World.cell?, hq] at h0
  generalize o + k * 7 = t at h0
  match t, h0 with
  | 0, h0 => simp at h0
  | 1, h0 => simp at h0
  | 2, h0 => simp at h0
  | 3, h0 => simp at h0
  | 4, h0 => simp at h0; exact hv _ h0
  | t + 5, h0 => simp at h0
theorem CloMem.store {W w : World} {rs rl rw many : Int} {b o n c k : Nat} {A' A9 : Option Addr} {c' c9 : Nat} {sh' sh9 : Nat → Shaft} (h : CloMem W w rs rl rw many b o n c A' c' sh') (hk : k < n) (hc9 : n ≤ c9) (hr : ShaftsAt w A9 n sh9) :
    CloMem W (((((w.setCell ⟨W.heap.size + 1 + 1, 0, none⟩ (.int .i64 rs)).setCell ⟨W.heap.size + 1 + 1, 1, none⟩ (.int .i64 rl)).setCell ⟨W.heap.size + 1 + 1, 2, none⟩ (.int .i64 rw)).setCell ⟨W.heap.size + 1 + 1, 3, none⟩ (.int .i64 many)).setCell ⟨W.heap.size + 1 + 1, 4, none⟩ (.slice A9 n c9)) rs rl rw many b o n c A9 c9 sh9 := by
  have hne := shafts_box hr hk (fun s => by simp) h.b2
  have l2 : W.heap.size ≤ W.heap.size + 1 + 1 := by omega
  have hz := h.hz
  exact {
    hb := ((((h.hb.setCell l2 _).setCell l2 _).setCell l2 _).setCell l2 _).setCell l2 _
    hz := by simpa [World.setCell] using hz
    b0 := by simp [World.setCell, Array.getElem?_modify, h.b0, show ¬ W.heap.size + 1 + 1 = W.heap.size by omega]
    b1 := by simp [World.setCell, Array.getElem?_modify, h.b1, show ¬ W.heap.size + 1 + 1 = W.heap.size + 1 by omega]
    b2 := by simp [World.setCell, Array.getElem?_modify, h.b2]
    hc := hc9
    row := shafts_far' (shafts_far' (shafts_far' (shafts_far' (shafts_far' hr hne _) hne _) hne _) hne _) hne _ }
theorem CloMem.box {W w : World} {rs rl rw many : Int} {b o n c : Nat} {A' : Option Addr} {c' : Nat} {sh' : Nat → Shaft} (h : CloMem W w rs rl rw many b o n c A' c' sh') :
    w.cell? ⟨W.heap.size, 0, none⟩ = some (.int .i64 rs) ∧ w.cell? ⟨W.heap.size, 4, none⟩ = some (.slice (some ⟨b, o, none⟩) n c) ∧ w.cell? ⟨W.heap.size + 1 + 1, 0, none⟩ = some (.int .i64 rs) ∧ w.cell? ⟨W.heap.size + 1 + 1, 1, none⟩ = some (.int .i64 rl) ∧ w.cell? ⟨W.heap.size + 1 + 1, 2, none⟩ = some (.int .i64 rw) ∧ w.cell? ⟨W.heap.size + 1 + 1, 3, none⟩ = some (.int .i64 many) ∧ w.cell? ⟨W.heap.size + 1 + 1, 4, none⟩ = some (.slice A' n c') :=
  ⟨by simp [World.cell?, h.b0], by simp [World.cell?, h.b0], by simp [World.cell?, h.b2], by simp [World.cell?, h.b2], by simp [World.cell?, h.b2], by simp [World.cell?, h.b2], by simp [World.cell?, h.b2]⟩
theorem CloMem.res {W w : World} {rs rl rw many : Int} {b o n c : Nat} {A' : Option Addr} {c' : Nat} {sh' : Nat → Shaft} (h : CloMem W w rs rl rw many b o n c A' c' sh') :
    w.cell? ⟨W.heap.size + 1, 0, none⟩ = some (.int .i64 0) ∧ w.cell? ⟨W.heap.size + 1, 1, none⟩ = some (.int .i64 0) ∧ w.cell? ⟨W.heap.size + 1, 2, none⟩ = some (.int .i64 0) ∧ w.cell? ⟨W.heap.size + 1, 3, none⟩ = some (.int .i64 0) ∧ w.cell? ⟨W.heap.size + 1, 4, none⟩ = some (.slice none 0 0) :=
  ⟨by simp [World.cell?, h.b1], by simp [World.cell?, h.b1], by simp [World.cell?, h.b1], by simp [World.cell?, h.b1], by simp [World.cell?, h.b1]⟩
theorem closest_any (rs rl rw many : Int) (b o n c : Nat) (sh : Nat → Shaft) (LA : Option Addr) (m lc : Nat) (l : Nat → Nat) (W : World) (hn : n ≤ 9) (hc : n ≤ c) (hsh : Hid (ShaftsAt W (some ⟨b, o, none⟩) n sh)) (hm : m ≤ 9) (hmc : m ≤ lc) (hl : Hid (∀ k, k < m → l k < n)) (hi : Hid (IntsAt W LA m fun k => (l k : Int))) :
    CallsIn Fc 0 Tryz.prog 39 #[stockV rs rl rw many (some ⟨b, o, none⟩) n c, .slice LA m lc] W (HandsClosest rs rl rw many n m sh l W) := by
  have hfa := field52_0
  have hfb := field52_1
  gi_enter Tryz.func39, Tryz.ntmps39
  gi_wp2
  gi_loopw [6] (fun v wr => ∃ (x : Nat) (A' : Option Addr) (c' : Nat) (sh' : Nat → Shaft), x ≤ 3 ∧ v = .int .i64 x ∧ CloAt sh l m n x 0 sh' ∧ CloMem W wr rs rl rw many b o n c A' c' sh') (fun v _ => 3 - (intOf v).toNat)
  case atStart =>
    refine ⟨0, some ⟨b, o, none⟩, c, sh, by omega, rfl, CloAt.zero .., ?_⟩
    exact {
      hb := (((Below.refl _ _).alloc (Nat.le_refl _) _).alloc (by simp) _).alloc (by simp <;> omega) _
      hz := by simp
      b0 := by rw [heap_alloc_old _ _ (by simp; omega), heap_alloc_old _ _ (by simp), heap_top _ _ rfl]
      b1 := by rw [heap_alloc_old _ _ (by simp), heap_top _ _ (by simp)]
      b2 := by rw [heap_top _ _ (by simp)]
      hc := hc
      row := hsh.out.below ((((Below.refl _ _).alloc (Nat.le_refl _) _).alloc (by simp) _).alloc (by simp <;> omega) _) }
  case round =>
    obtain ⟨x, A', c', sh', hx, rfl, hclo, hmem⟩ := hrel
    have HM := Lib.hid hmem
    have HC := Lib.hid hclo
    clear hmem hclo
    by_cases hlt : x < 3
    · have hx2 : (x : Int) ≤ 2 := by omega
      gi_wp2
      rename World => wo
      gi_loopw [7, 8] (fun tv v wr => ∃ i : Nat, i ≤ m ∧ v = .int .i64 i ∧ tv = .int .i64 (topZ sh l x i) ∧ Below wo.heap.size wo wr) (fun _ v _ => m - (intOf v).toNat)
      case atStart => exact ⟨0, by omega, rfl, rfl, Below.refl _ _⟩
      case round =>
        obtain ⟨i, hi', rfl, rfl, hb⟩ := hrel
        have HB := Lib.hid hb
        clear hb
        by_cases hli : i < m
        · have HM1 := Lib.hid (HM.out.below HB.out)
          have HW := Lib.hid HM1.out.hb
          obtain ⟨k0, k4, _⟩ := HM1.out.box
          obtain ⟨b1, o1, rfl, hci⟩ := hi.out i hli
          have hci := Below.old HW.out hci
          obtain ⟨b2, o2, e2, hrow⟩ := hsh.out (l i) (hl.out i hli)
          cases e2
          obtain ⟨x0, x1, x2, x3, x4, x5, x6⟩ := hrow.below HW.out
          have hll := hl.out i hli
          gi_wp2
          gi_region_with (gi_at_call 36; refine (Measured_any (sh (l i)) x hlt _).mono ?_; rintro e w9 ⟨rfl, hb9⟩)
          all_goals
            gi_wp2
            all_goals
              go_roundw
              case rel => exact ⟨i + 1, by omega, by go_num, by rw [show topZ sh l x (i + 1) = if topZ sh l x i < spanA (sh (l i)) x then spanA (sh (l i)) x else topZ sh l x i by simp only [topZ]; split <;> omega], HB.out.drew.trans (hb9.mono HB.out.size)⟩
              case measure => simp [intOf]; omega
        · gi_wp2
          obtain rfl : i = m := by omega
          have HM := Lib.hid (HM.out.below HB.out)
          clear HB
          gi_loopw [9] (fun v wr => ∃ (k : Nat) (A' : Option Addr) (c' : Nat) (sh' : Nat → Shaft), k ≤ i ∧ v = .int .i64 k ∧ CloAt sh l i n x k sh' ∧ CloMem W wr rs rl rw many b o n c A' c' sh') (fun v _ => i - (intOf v).toNat)
          case atStart => exact ⟨0, A', c', sh', by omega, rfl, HC.out, HM.out⟩
          case round =>
            clear HC HM
            obtain ⟨k, A', c', sh', hk', rfl, hclo, hmem⟩ := hrel
            have HM := Lib.hid hmem
            have HC := Lib.hid hclo
            clear hmem hclo
            by_cases hlk : k < i
            · have HW := Lib.hid HM.out.hb
              obtain ⟨k0, k4, o0, o1', o2', o3, o4⟩ := HM.out.box
              obtain ⟨b1, o1, rfl, hci⟩ := hi.out k hlk
              have hcw := hci
              have hci := Below.old HW.out hci
              obtain ⟨b2, o2, e2, hrow⟩ := hsh.out (l k) (hl.out k hlk)
              cases e2
              obtain ⟨x0, x1, x2, x3, x4, x5, x6⟩ := hrow.below HW.out
              have hll := hl.out k hlk
              gi_wp2
              refine wpIn_region_D (D := [(41, .int .i64 (topZ sh l x i)), (42, .pointer (some ⟨W.heap.size, 4, none⟩)), (43, .slice (some ⟨b, o, none⟩) n c), (44, .slice (some ⟨b1, o1, none⟩) i lc), (45, .int .i64 k), (46, .pointer (some ⟨b1, o1 + k, none⟩)), (47, .int .i64 (l k)), (48, .pointer (some ⟨b, o + l k * 7, none⟩)), (49, .agg #[.string (sh (l k)).name, .int .i64 (sh (l k)).s0, .int .i64 (sh (l k)).s1, .int .i64 (sh (l k)).l0, .int .i64 (sh (l k)).l1, .int .i64 (sh (l k)).w0, .int .i64 (sh (l k)).w1]), (50, .int .i64 x), (51, .agg #[.int .i64 (spanA (sh (l k)) x), .int .i64 (spanB (sh (l k)) x)]), (52, .int .i64 (spanB (sh (l k)) x)), (53, .int .i64 (closeZ sh l i x (l k))), (10, .int .i64 (closeZ sh l i x (l k)))]) (I := fun w => CloMem W w rs rl rw many b o n c A' c' sh') (z := 65) (by kernel_rfl) (by kernel_rfl) (by kernel_rfl) (by kernel_rfl) (by kernel_rfl) rfl rfl (HM.out.below (Below.refl _ _).drew) ?_ ?_
              · intro j a w hj hd hz hold hf hI
                have HI := Lib.hid hI
                clear hI
                have HW := Lib.hid HI.out.hb
                have hrw := hrow.below HW.out
                obtain ⟨x0, x1, x2, x3, x4, x5, x6⟩ := hrw
                have hci := Below.old HW.out hcw
                obtain ⟨k0, k4, o0, o1', o2', o3, o4⟩ := HI.out.box
                have s1 := at_slot hz (hold 1 (by kernel_rfl)) (by omega)
                have s2 := at_slot hz (hold 2 (by kernel_rfl)) (by omega)
                have s6 := at_slot hz (hold 6 (by kernel_rfl)) (by omega)
                have s7 := at_slot hz (hold 7 (by kernel_rfl)) (by omega)
                have s9 := at_slot hz (hold 9 (by kernel_rfl)) (by omega)
                clear hold
                have hjs : j = 0 ∨ j = 1 ∨ j = 2 ∨ j = 3 ∨ j = 4 ∨ j = 5 ∨ j = 6 ∨ j = 7 ∨ j = 8 ∨ j = 9 ∨ j = 10 ∨ j = 11 ∨ j = 12 ∨ j = 13 := by have : j < 14 := hj; omega
                rcases hjs with rfl | rfl | rfl | rfl | rfl | rfl | rfl | rfl | rfl | rfl | rfl | rfl | rfl | rfl
                · refine wpOpIn_step rfl fun K hK => ?_
                  go_simp
                  exact hK _ _ ⟨_, _, rfl, rfl, rfl, HI.out⟩
                · refine wpOpIn_step rfl fun K hK => ?_
                  go_simp
                  exact hK _ _ ⟨_, _, rfl, rfl, rfl, HI.out⟩
                · have f42 := at_slot hz (hf 1 42 _ (by kernel_rfl) rfl) (by omega)
                  refine wpOpIn_step rfl fun K hK => ?_
                  go_simp
                  exact hK _ _ ⟨_, _, rfl, rfl, rfl, HI.out⟩
                · refine wpOpIn_step rfl fun K hK => ?_
                  go_simp
                  exact hK _ _ ⟨_, _, rfl, rfl, rfl, HI.out⟩
                · refine wpOpIn_step rfl fun K hK => ?_
                  go_simp
                  exact hK _ _ ⟨_, _, rfl, rfl, rfl, HI.out⟩
                · have f44 := at_slot hz (hf 3 44 _ (by kernel_rfl) rfl) (by omega)
                  have f45 := at_slot hz (hf 4 45 _ (by kernel_rfl) rfl) (by omega)
                  refine wpOpIn_step rfl fun K hK => ?_
                  go_simp
                  exact hK _ _ ⟨_, _, rfl, rfl, rfl, HI.out⟩
                · have f46 := at_slot hz (hf 5 46 _ (by kernel_rfl) rfl) (by omega)
                  refine wpOpIn_step rfl fun K hK => ?_
                  go_simp
                  exact hK _ _ ⟨_, _, rfl, rfl, rfl, HI.out⟩
                · have f43 := at_slot hz (hf 2 43 _ (by kernel_rfl) rfl) (by omega)
                  have f47 := at_slot hz (hf 6 47 _ (by kernel_rfl) rfl) (by omega)
                  refine wpOpIn_step rfl fun K hK => ?_
                  go_simp
                  exact hK _ _ ⟨_, _, rfl, rfl, rfl, HI.out⟩
                · have f48 := at_slot hz (hf 7 48 _ (by kernel_rfl) rfl) (by omega)
                  refine wpOpIn_step rfl fun K hK => ?_
                  go_simp
                  exact hK _ _ ⟨_, _, rfl, rfl, rfl, HI.out⟩
                · refine wpOpIn_step rfl fun K hK => ?_
                  go_simp
                  exact hK _ _ ⟨_, _, rfl, rfl, rfl, HI.out⟩
                · have f49 := at_slot hz (hf 8 49 _ (by kernel_rfl) rfl) (by omega)
                  have f50 := at_slot hz (hf 9 50 _ (by kernel_rfl) rfl) (by omega)
                  refine wpOpIn_step rfl fun K hK => ?_
                  go_simp
                  refine (Measured_any (sh (l k)) x hlt _).mono ?_
                  rintro e w' ⟨rfl, hb'⟩
                  exact hK _ _ ⟨_, _, rfl, rfl, rfl, HI.out.below hb'⟩
                · have f51 := at_slot hz (hf 10 51 _ (by kernel_rfl) rfl) (by omega)
                  refine wpOpIn_step rfl fun K hK => ?_
                  go_simp
                  exact hK _ _ ⟨_, _, rfl, rfl, rfl, HI.out⟩
                · have f41 := at_slot hz (hf 0 41 _ (by kernel_rfl) rfl) (by omega)
                  have f52 := at_slot hz (hf 11 52 _ (by kernel_rfl) rfl) (by omega)
                  refine wpOpIn_step rfl fun K hK => ?_
                  go_simp
                  exact hK _ _ ⟨_, _, rfl, rfl, by rw [show closeZ sh l i x (l k) = if spanB (sh (l k)) x < topZ sh l x i then spanB (sh (l k)) x else topZ sh l x i by unfold closeZ; split <;> omega], HI.out⟩
                · have f53 := at_slot hz (hf 12 53 _ (by kernel_rfl) rfl) (by omega)
                  refine wpOpIn_step rfl fun K hK => ?_
                  go_simp
                  exact hK _ _ ⟨_, _, rfl, rfl, rfl, HI.out⟩
              · intro w hI
                have HM := Lib.hid hI
                clear hI
                simp only [List.foldl_cons, List.foldl_nil, List.setIfInBounds_toArray, List.set_cons_succ, List.set_cons_zero]
                gi_wp2
                refine wpIn_region_L 9 [(54, stockV rs rl rw many A' n c'), (55, .slice (some ⟨b1, o1, none⟩) i lc), (56, .int .i64 k), (57, .pointer (some ⟨b1, o1 + k, none⟩)), (58, .int .i64 (l k)), (59, .int .i64 x), (60, .int .i64 (closeZ sh l i x (l k))), (61, .int .i64 (closeZ sh l i x (l k))), (62, .agg #[.int .i64 (closeZ sh l i x (l k)), .int .i64 (closeZ sh l i x (l k))])] (I := fun w => CloMem W w rs rl rw many b o n c A' c' sh') (z := 65) (by kernel_rfl) (by kernel_rfl) (by kernel_rfl) (by kernel_rfl) (by show 9 < 11; omega) ⟨rfl, by kernel_rfl⟩ (by kernel_rfl) (by kernel_rfl) rfl rfl (HM.out.below (Below.refl _ _).drew) ?_ ?_
                · intro j a w hj hd hz hold hf hI
                  have HI := Lib.hid hI
                  clear hI
                  have HW := Lib.hid HI.out.hb
                  have hci := Below.old HW.out hcw
                  obtain ⟨k0, k4, o0, o1', o2', o3, o4⟩ := HI.out.box
                  have s1 := at_slot hz (hold 1 (by intro y hy e; subst e; simp at hy)) (by omega)
                  have s5 := at_slot hz (hold 5 (by intro y hy e; subst e; simp at hy)) (by omega)
                  have s6 := at_slot hz (hold 6 (by intro y hy e; subst e; simp at hy)) (by omega)
                  have s9 := at_slot hz (hold 9 (by intro y hy e; subst e; simp at hy)) (by omega)
                  have s10 := at_slot hz (hold 10 (by intro y hy e; subst e; simp at hy)) (by omega)
                  clear hold
                  have hjs : j = 0 ∨ j = 1 ∨ j = 2 ∨ j = 3 ∨ j = 4 ∨ j = 5 ∨ j = 6 ∨ j = 7 ∨ j = 8 := by have : j < 9 := hj; omega
                  rcases hjs with rfl | rfl | rfl | rfl | rfl | rfl | rfl | rfl | rfl
                  · refine wpOpIn_step rfl fun K hK => ?_
                    go_simp
                    exact hK _ _ ⟨_, _, rfl, rfl, rfl, HI.out⟩
                  · refine wpOpIn_step rfl fun K hK => ?_
                    go_simp
                    exact hK _ _ ⟨_, _, rfl, rfl, rfl, HI.out⟩
                  · refine wpOpIn_step rfl fun K hK => ?_
                    go_simp
                    exact hK _ _ ⟨_, _, rfl, rfl, rfl, HI.out⟩
                  · have f55 := at_slot hz (hf 1 55 _ (by kernel_rfl) rfl) (by omega)
                    have f56 := at_slot hz (hf 2 56 _ (by kernel_rfl) rfl) (by omega)
                    refine wpOpIn_step rfl fun K hK => ?_
                    go_simp
                    exact hK _ _ ⟨_, _, rfl, rfl, rfl, HI.out⟩
                  · have f57 := at_slot hz (hf 3 57 _ (by kernel_rfl) rfl) (by omega)
                    refine wpOpIn_step rfl fun K hK => ?_
                    go_simp
                    exact hK _ _ ⟨_, _, rfl, rfl, rfl, HI.out⟩
                  · refine wpOpIn_step rfl fun K hK => ?_
                    go_simp
                    exact hK _ _ ⟨_, _, rfl, rfl, rfl, HI.out⟩
                  · refine wpOpIn_step rfl fun K hK => ?_
                    go_simp
                    exact hK _ _ ⟨_, _, rfl, rfl, rfl, HI.out⟩
                  · refine wpOpIn_step rfl fun K hK => ?_
                    go_simp
                    exact hK _ _ ⟨_, _, rfl, rfl, rfl, HI.out⟩
                  · have f60 := at_slot hz (hf 6 60 _ (by kernel_rfl) rfl) (by omega)
                    have f61 := at_slot hz (hf 7 61 _ (by kernel_rfl) rfl) (by omega)
                    refine wpOpIn_step rfl fun K hK => ?_
                    go_simp
                    refine (to_any _ _ _).mono ?_
                    rintro e w' ⟨rfl, hb'⟩
                    exact hK _ _ ⟨_, _, rfl, rfl, rfl, HI.out.below hb'⟩
                · intro w hI
                  have HM := Lib.hid hI
                  clear hI
                  simp only [List.foldl_cons, List.foldl_nil, List.setIfInBounds_toArray, List.set_cons_succ, List.set_cons_zero, List.drop_succ_cons, List.drop_zero]
                  gi_wp2_with (gi_at_call 38; refine (Put_any rs rl rw many A' n c' (l k) x sh' _ _ _ hn hll HM.out.hc hlt (Lib.hid HM.out.row)).mono ?_; rintro e w11 ⟨A9, c9, rfl, hc9, hrow9, hb11⟩; have HM11 := Lib.hid (HM.out.below hb11); have HR9 := Lib.hid hrow9; obtain ⟨_, _, q0, q1, q2, q3, q4⟩ := HM11.out.box; have zq := frozen_no HM11.out.b2; clear hb11 hrow9)
                  go_roundw
                  case rel => exact ⟨k + 1, A9, c9, _, by omega, by go_num, HC.out.next hlt, HM11.out.store hll hc9 HR9.out⟩
                  case measure => simp [intOf]; omega
            · gi_wp2
              obtain rfl : k = i := by omega
              go_roundw
              case rel => exact ⟨x + 1, A', c', sh', by omega, by go_num, HC.out.turn, HM.out⟩
              case measure => simp [intOf]; omega
    · obtain rfl : x = 3 := by omega
      obtain ⟨k0, k4, o0, o1, o2, o3, o4⟩ := HM.out.box
      obtain ⟨r0, r1, r2, r3, r4⟩ := HM.out.res
      have z1 := frozen_no HM.out.b1
      have hz := HM.out.hz
      gi_wp2
      refine bodyPost_ret (v := stockV rs rl rw many A' n c') (results_stock4 rfl rfl (by go_simp) (by go_simp) (by go_simp) (by go_simp) (by go_simp)) rfl ?_
      refine ⟨A', c', sh', rfl, HM.out.hc, ?_, HC.out, ?_⟩
      · have hne : n = 0 ∨ 0 < n := by omega
        rcases hne with rfl | hne
        · intro k hk; omega
        · have hb1 := shafts_box HM.out.row hne (fun s => by simp) HM.out.b1
          exact shafts_far' (shafts_far' (shafts_far' (shafts_far' (shafts_far' HM.out.row hb1 _) hb1 _) hb1 _) hb1 _) hb1 _
      · have l1 : W.heap.size ≤ W.heap.size + 1 := by omega
        exact ((((HM.out.hb.setCell l1 _).setCell l1 _).setCell l1 _).setCell l1 _).setCell l1 _
end Go.Proofs.YtpdmgecbapmgdaaGreat
end
section
namespace Go.Proofs.YtpdmgecbapmgdaaGreat
open Go.RowKit
section
variable {F : Fence} {n : Nat} {P : Program} {ops : Array Oper} {Q : Exit → Act → World → Prop}
structure RB (ops : Array Oper) (k : Nat) (D : List (Nat × Value)) (I : World → Prop) (lo z sa sb : Nat) (u1 v1 u2 v2 : Int) (a0 : Act) (listed : Array Bool) (a : Act) (w : World) : Prop where
  defers : a.defers = []
  size : a.tmps.size = z
  old : ∀ s, (∀ x ∈ D, x.1 ≠ s) → s ≠ sa → s ≠ sb → a.eval (.tmp s) = a0.eval (.tmp s)
  inv : I w
  fact : ∀ (j d : Nat) (v : Value), D[j]? = some (d, v) → listed.getD j false = true → a.eval (.tmp d) = v
  closed : ∀ i, listed.getD i false = true → ∀ j, depB ops i j = true → listed.getD j false = true
  ga : listed.getD k false = true → ∃ (p : Nat) (u v : Int), a.eval (.tmp sa) = .pointer (some ⟨p, 0, none⟩) ∧ lo ≤ p ∧ SpanAt w p u v ∧ (listed.getD (k + 2) false = true → u = u1 ∧ v = v1)
  gb : listed.getD (k + 1) false = true → ∃ (p : Nat) (u v : Int), a.eval (.tmp sb) = .pointer (some ⟨p, 0, none⟩) ∧ lo ≤ p ∧ SpanAt w p u v ∧ (listed.getD (k + 3) false = true → u = u2 ∧ v = v2)
  ne : listed.getD k false = true → listed.getD (k + 1) false = true → a.eval (.tmp sa) ≠ a.eval (.tmp sb)
def twoDst (D : List (Nat × Value)) (sa sb z : Nat) : Bool := nodupB (D.map (·.1) ++ [sa, sb]) && (D.map (·.1) ++ [sa, sb]).all fun d => decide (d < z)
theorem wpIn_region_two (k sa sb : Nat) (D : List (Nat × Value)) {I : World → Prop} {lo z : Nat} {u1 v1 u2 v2 : Int} {a0 : Act} {id : Nat} {w : World} (hm : P.follows .mixedOrders = true) (hb : backB .any ops = true) (hsz : ops.size = k + 4) (hlen : D.length = k) (hnd : twoDst D sa sb z = true)
    (hda : depB ops (k + 2) k = true) (hdb : depB ops (k + 3) (k + 1) = true) (hd : a0.defers = []) (hz : a0.tmps.size = z)
    (hlo : ∀ w, I w → lo ≤ w.heap.size) (hIg : ∀ w o, I w → I (w.alloc o)) (hIs : ∀ w p j x, I w → lo ≤ p → I (w.setCell ⟨p, j, none⟩ x))
    (h0 : I { w with drawn := w.drawn + 1 })
    (hJ : ∀ j a w, j < k → a.defers = [] → a.tmps.size = z → (∀ s, (∀ x ∈ D.map (·.1) ++ [sa, sb], x ≠ s) → a.eval (.tmp s) = a0.eval (.tmp s)) → (∀ k d v, depB ops j k = true → D[k]? = some (d, v) → a.eval (.tmp d) = v) → I w →
      wpOpIn F n P ops Q j (fun a' w' => ∃ d v, D[j]? = some (d, v) ∧ a'.defers = [] ∧ a'.tmps = a.tmps.setIfInBounds d v ∧ I w' ∧ Below w.heap.size w w') a w)
    (hA1 : ∀ a w, a.defers = [] → a.tmps.size = z → wpOpIn F n P ops Q k (fun a' w' => a'.defers = [] ∧ a'.tmps = a.tmps.setIfInBounds sa (.pointer (some ⟨w.heap.size, 0, none⟩)) ∧ w' = w.alloc (.cells #[.int .i64 0, .int .i64 0] 52)) a w)
    (hA2 : ∀ a w, a.defers = [] → a.tmps.size = z → wpOpIn F n P ops Q (k + 1) (fun a' w' => a'.defers = [] ∧ a'.tmps = a.tmps.setIfInBounds sb (.pointer (some ⟨w.heap.size, 0, none⟩)) ∧ w' = w.alloc (.cells #[.int .i64 0, .int .i64 0] 52)) a w)
    (hS1 : ∀ a w p u v, a.defers = [] → a.tmps.size = z → a.eval (.tmp sa) = .pointer (some ⟨p, 0, none⟩) → SpanAt w p u v → (∀ m d v, depB ops (k + 2) m = true → D[m]? = some (d, v) → a.eval (.tmp d) = v) →
      wpOpIn F n P ops Q (k + 2) (fun a' w' => a'.defers = [] ∧ a'.tmps = a.tmps ∧ w' = (w.setCell ⟨p, 0, none⟩ (.int .i64 u1)).setCell ⟨p, 1, none⟩ (.int .i64 v1)) a w)
    (hS2 : ∀ a w p u v, a.defers = [] → a.tmps.size = z → a.eval (.tmp sb) = .pointer (some ⟨p, 0, none⟩) → SpanAt w p u v → (∀ m d v, depB ops (k + 3) m = true → D[m]? = some (d, v) → a.eval (.tmp d) = v) →
      wpOpIn F n P ops Q (k + 3) (fun a' w' => a'.defers = [] ∧ a'.tmps = a.tmps ∧ w' = (w.setCell ⟨p, 0, none⟩ (.int .i64 u2)).setCell ⟨p, 1, none⟩ (.int .i64 v2)) a w)
    (hE : ∀ w p q, I w → p ≠ q → lo ≤ p → lo ≤ q → SpanAt w p u1 v1 → SpanAt w q u2 v2 → Q .normal { tmps := ((D.foldl (fun t x => t.setIfInBounds x.1 x.2) a0.tmps).setIfInBounds sa (.pointer (some ⟨p, 0, none⟩))).setIfInBounds sb (.pointer (some ⟨q, 0, none⟩)), defers := [] } w) : (Code.region id ops true).wpIn F n P Q a0 w := by
  unfold twoDst at hnd
  simp only [Bool.and_eq_true] at hnd
  obtain ⟨hnd, hall⟩ := hnd
  have hnd : (D.map (·.1) ++ [sa, sb]).Nodup := of_decide_eq_true hnd
  have hltz : ∀ d ∈ D.map (·.1) ++ [sa, sb], d < z := fun d hd => of_decide_eq_true (List.all_eq_true.1 hall d hd)
  have hsa : sa < z := hltz sa (by simp)
  have hsb : sb < z := hltz sb (by simp)
  have hab : sa ≠ sb := by
    have := (List.nodup_append.1 hnd).2.1
    simpa using this
  have hDs : ∀ x ∈ D, x.1 ≠ sa ∧ x.1 ≠ sb := fun x hx => by
    have h2 := (List.nodup_append.1 hnd).2.2 x.1 (List.mem_map.2 ⟨x, hx, rfl⟩)
    exact ⟨h2 sa (by simp), h2 sb (by simp)⟩
  have hndD : (D.map (·.1)).Nodup := (List.nodup_append.1 hnd).1
  have evs : ∀ (a a' : Act) (d : Nat) (v : Value), a'.tmps = a.tmps.setIfInBounds d v → (∀ s, s ≠ d → a'.eval (.tmp s) = a.eval (.tmp s)) ∧ (d < a.tmps.size → a'.eval (.tmp d) = v) := fun a a' d v h => by
    constructor
    · intro s hs
      simp only [Act.eval, h]
      simp [Ne.symm hs]
    · intro hd
      simp only [Act.eval, h]
      simp [hd]
  have evn : ∀ (a a' : Act), a'.tmps = a.tmps → ∀ s, a'.eval (.tmp s) = a.eval (.tmp s) := fun a a' h s => by simp only [Act.eval, h]
  have clo : ∀ (listed : Array Bool) (i : Nat), i ∈ Region.ready .any ops listed → (∀ i, listed.getD i false = true → ∀ j, depB ops i j = true → listed.getD j false = true) → ∀ m, (listed.setIfInBounds i true).getD m false = true → ∀ m', depB ops m m' = true → (listed.setIfInBounds i true).getD m' false = true := fun listed i hi hc m hm m' hm' => by
    have key : listed.getD m' false = true := by
      by_cases e : m = i
      · subst e; exact dep hi hm'
      · rw [gset (fun e' => e e'.symm)] at hm
        exact hc m hm m' hm'
    by_cases e2 : i = m'
    · subst e2; exact set_self hi
    · rw [gset e2]; exact key
  refine wpIn_region_J (J := RB ops k D I lo z sa sb u1 v1 u2 v2 a0) hm hb ?_ (fun listed a w i hj hi => ?_) fun listed a w hj hall => ?_
  · have hno : ∀ i, (Array.replicate ops.size false).getD i false = true → False := fun i hl => by
      rw [Array.getD_eq_getD_getElem?] at hl
      rcases Nat.lt_or_ge i ops.size with h | h <;> simp [h] at hl
    exact ⟨hd, hz, fun _ _ _ _ => rfl, h0, fun j d v _ hl => (hno j hl).elim, fun i hl => (hno i hl).elim, fun h => (hno _ h).elim, fun h => (hno _ h).elim, fun h => (hno _ h).elim⟩
  · have his : i < ops.size := by
      obtain ⟨_, o, h3, _⟩ := mem_ready.1 hi
      exact (Array.getElem?_eq_some_iff.1 h3).1
    have hcl := clo listed i hi hj.closed
    have hcase : i < k ∨ i = k ∨ i = k + 1 ∨ i = k + 2 ∨ i = k + 3 := by omega
    rcases hcase with hik | rfl | rfl | rfl | rfl
    ·
      refine wpOpIn_mono (fun a' w' h => ?_) (hJ i a w hik hj.defers hj.size (fun s hs => hj.old s (fun x hx => hs x.1 (by simp; exact .inl ⟨x.2, hx⟩)) (fun e => hs sa (by simp) e.symm) fun e => hs sb (by simp) e.symm) (fun m d v hdep e => hj.fact m d v e (dep hi hdep)) hj.inv)
      obtain ⟨d, v, hD, h1, h2, h3, h4⟩ := h
      obtain ⟨e1, e2⟩ := evs a a' d v h2
      have hmem : (d, v) ∈ D := List.mem_iff_getElem?.2 ⟨i, hD⟩
      have hdn := hDs _ hmem
      have sp : ∀ p u v, SpanAt w p u v → SpanAt w' p u v := fun p u v h => h.below h4
      refine ⟨h1, by rw [h2]; simpa using hj.size, fun s hs h5 h6 => ?_, h3, fun j d' v' hjd hl => ?_, hcl, fun h => ?_, fun h => ?_, fun h h' => ?_⟩
      · rw [e1 s fun e => hs _ hmem e.symm]; exact hj.old s hs h5 h6
      · by_cases e : j = i
        · subst e
          rw [hD] at hjd
          cases hjd
          exact e2 (by rw [hj.size]; exact hltz d (by simp; exact .inl ⟨v, hmem⟩))
        · rw [gset (fun e' => e e'.symm)] at hl
          have hne : d' ≠ d := fun e' => by
            subst e'
            have q1 : (D.map (·.1))[j]? = some d' := by rw [List.getElem?_map, hjd]; rfl
            have q2 : (D.map (·.1))[i]? = some d' := by rw [List.getElem?_map, hD]; rfl
            exact e ((List.getElem?_inj (List.getElem?_eq_some_iff.1 q1).1 hndD).1 (q1.trans q2.symm))
          rw [e1 d' hne]
          exact hj.fact j d' v' hjd hl
      · rw [gset (by omega)] at h
        obtain ⟨p, u, v', q1, q2, q3, q4⟩ := hj.ga h
        exact ⟨p, u, v', by rw [e1 sa (Ne.symm hdn.1)]; exact q1, q2, sp _ _ _ q3, fun h => q4 (by rwa [gset (by omega)] at h)⟩
      · rw [gset (by omega)] at h
        obtain ⟨p, u, v', q1, q2, q3, q4⟩ := hj.gb h
        exact ⟨p, u, v', by rw [e1 sb (Ne.symm hdn.2)]; exact q1, q2, sp _ _ _ q3, fun h => q4 (by rwa [gset (by omega)] at h)⟩
      · rw [gset (by omega)] at h h'
        rw [e1 sa (Ne.symm hdn.1), e1 sb (Ne.symm hdn.2)]
        exact hj.ne h h'
    ·
      refine wpOpIn_mono (fun a' w' h => ?_) (hA1 a w hj.defers hj.size)
      obtain ⟨h1, h2, rfl⟩ := h
      obtain ⟨e1, e2⟩ := evs a a' sa _ h2
      have hnl := not_yet hi
      have hns : listed.getD (i + 2) false = false := by
        cases h : listed.getD (i + 2) false with
        | false => rfl
        | true => rw [hj.closed _ h _ hda] at hnl; cases hnl
      have sp : ∀ p u v, SpanAt w p u v → SpanAt (w.alloc (.cells #[.int .i64 0, .int .i64 0] 52)) p u v := fun p u v h => h.below ((Below.refl _ _).alloc (Nat.le_refl _) _)
      refine ⟨h1, by rw [h2]; simpa using hj.size, fun s hs h5 h6 => ?_, hIg _ _ hj.inv, fun j d' v' hjd hl => ?_, hcl, fun h => ?_, fun h => ?_, fun h h' => ?_⟩
      · rw [e1 s h5]; exact hj.old s hs h5 h6
      · have hjk : j < i := by rw [← hlen]; exact (List.getElem?_eq_some_iff.1 hjd).1
        rw [gset (by omega)] at hl
        rw [e1 d' (hDs _ (List.mem_iff_getElem?.2 ⟨j, hjd⟩)).1]
        exact hj.fact j d' v' hjd hl
      · refine ⟨w.heap.size, 0, 0, e2 (by rw [hj.size]; exact hsa), hlo _ hj.inv, heap_new _ _, fun h => ?_⟩
        rw [gset (by omega), hns] at h
        cases h
      · rw [gset (by omega)] at h
        obtain ⟨p, u, v', q1, q2, q3, q4⟩ := hj.gb h
        exact ⟨p, u, v', by rw [e1 sb (Ne.symm hab)]; exact q1, q2, sp _ _ _ q3, fun h => q4 (by rwa [gset (by omega)] at h)⟩
      · rw [gset (by omega)] at h'
        obtain ⟨p, u, v', q1, q2, q3, q4⟩ := hj.gb h'
        rw [e2 (by rw [hj.size]; exact hsa), e1 sb (Ne.symm hab), q1]
        intro e
        have := q3.lt
        simp only [Value.pointer.injEq, Option.some.injEq, Addr.mk.injEq] at e
        omega
    ·
      refine wpOpIn_mono (fun a' w' h => ?_) (hA2 a w hj.defers hj.size)
      obtain ⟨h1, h2, rfl⟩ := h
      obtain ⟨e1, e2⟩ := evs a a' sb _ h2
      have hnl := not_yet hi
      have hns : listed.getD (k + 3) false = false := by
        cases h : listed.getD (k + 3) false with
        | false => rfl
        | true => rw [hj.closed _ h _ hdb] at hnl; cases hnl
      have sp : ∀ p u v, SpanAt w p u v → SpanAt (w.alloc (.cells #[.int .i64 0, .int .i64 0] 52)) p u v := fun p u v h => h.below ((Below.refl _ _).alloc (Nat.le_refl _) _)
      refine ⟨h1, by rw [h2]; simpa using hj.size, fun s hs h5 h6 => ?_, hIg _ _ hj.inv, fun j d' v' hjd hl => ?_, hcl, fun h => ?_, fun h => ?_, fun h h' => ?_⟩
      · rw [e1 s h6]; exact hj.old s hs h5 h6
      · have hjk : j < k := by rw [← hlen]; exact (List.getElem?_eq_some_iff.1 hjd).1
        rw [gset (by omega)] at hl
        rw [e1 d' (hDs _ (List.mem_iff_getElem?.2 ⟨j, hjd⟩)).2]
        exact hj.fact j d' v' hjd hl
      · rw [gset (by omega)] at h
        obtain ⟨p, u, v', q1, q2, q3, q4⟩ := hj.ga h
        exact ⟨p, u, v', by rw [e1 sa hab]; exact q1, q2, sp _ _ _ q3, fun h => q4 (by rwa [gset (by omega)] at h)⟩
      · refine ⟨w.heap.size, 0, 0, e2 (by rw [hj.size]; exact hsb), hlo _ hj.inv, heap_new _ _, fun h => ?_⟩
        rw [gset (by omega), hns] at h
        cases h
      · rw [gset (by omega)] at h
        obtain ⟨p, u, v', q1, q2, q3, q4⟩ := hj.ga h
        rw [e2 (by rw [hj.size]; exact hsb), e1 sa hab, q1]
        intro e
        have := q3.lt
        simp only [Value.pointer.injEq, Option.some.injEq, Addr.mk.injEq] at e
        omega
    ·
      obtain ⟨p, u, v, q1, q2, q3, _⟩ := hj.ga (dep hi hda)
      refine wpOpIn_mono (fun a' w' h => ?_) (hS1 a w p u v hj.defers hj.size q1 q3 fun m d v hdep e => hj.fact m d v e (dep hi hdep))
      obtain ⟨h1, h2, rfl⟩ := h
      have e1 := evn a a' h2
      refine ⟨h1, by rw [h2]; exact hj.size, fun s hs h5 h6 => by rw [e1]; exact hj.old s hs h5 h6, hIs _ _ _ _ (hIs _ _ _ _ hj.inv q2) q2, fun j d' v' hjd hl => ?_, hcl, fun h => ?_, fun h => ?_, fun h h' => ?_⟩
      · have hjk : j < k := by rw [← hlen]; exact (List.getElem?_eq_some_iff.1 hjd).1
        rw [gset (by omega)] at hl
        rw [e1]
        exact hj.fact j d' v' hjd hl
      · exact ⟨p, u1, v1, by rw [e1]; exact q1, q2, q3.set u1 v1, fun _ => ⟨rfl, rfl⟩⟩
      · rw [gset (by omega)] at h
        obtain ⟨p', u', v', r1, r2, r3, r4⟩ := hj.gb h
        have hpp : p ≠ p' := fun e => hj.ne (dep hi hda) h (by rw [q1, r1, e])
        exact ⟨p', u', v', by rw [e1]; exact r1, r2, (r3.far hpp _ _).far hpp _ _, fun h => r4 (by rwa [gset (by omega)] at h)⟩
      · rw [gset (by omega)] at h h'
        rw [e1, e1]
        exact hj.ne h h'
    ·
      obtain ⟨p, u, v, q1, q2, q3, _⟩ := hj.gb (dep hi hdb)
      refine wpOpIn_mono (fun a' w' h => ?_) (hS2 a w p u v hj.defers hj.size q1 q3 fun m d v hdep e => hj.fact m d v e (dep hi hdep))
      obtain ⟨h1, h2, rfl⟩ := h
      have e1 := evn a a' h2
      refine ⟨h1, by rw [h2]; exact hj.size, fun s hs h5 h6 => by rw [e1]; exact hj.old s hs h5 h6, hIs _ _ _ _ (hIs _ _ _ _ hj.inv q2) q2, fun j d' v' hjd hl => ?_, hcl, fun h => ?_, fun h => ?_, fun h h' => ?_⟩
      · have hjk : j < k := by rw [← hlen]; exact (List.getElem?_eq_some_iff.1 hjd).1
        rw [gset (by omega)] at hl
        rw [e1]
        exact hj.fact j d' v' hjd hl
      · rw [gset (by omega)] at h
        obtain ⟨p', u', v', r1, r2, r3, r4⟩ := hj.ga h
        have hpp : p ≠ p' := fun e => hj.ne h (dep hi hdb) (by rw [q1, r1, e])
        exact ⟨p', u', v', by rw [e1]; exact r1, r2, (r3.far hpp _ _).far hpp _ _, fun h => r4 (by rwa [gset (by omega)] at h)⟩
      · exact ⟨p, u2, v2, by rw [e1]; exact q1, q2, q3.set u2 v2, fun _ => ⟨rfl, rfl⟩⟩
      · rw [gset (by omega)] at h h'
        rw [e1, e1]
        exact hj.ne h h'
  · obtain ⟨p, u, v, p1, p2, p3, p4⟩ := hj.ga (hall k (by omega))
    obtain ⟨q, u', v', q1, q2, q3, q4⟩ := hj.gb (hall (k + 1) (by omega))
    obtain ⟨rfl, rfl⟩ := p4 (hall _ (by omega))
    obtain ⟨rfl, rfl⟩ := q4 (hall _ (by omega))
    have hpq : p ≠ q := fun e => hj.ne (hall k (by omega)) (hall (k + 1) (by omega)) (by rw [p1, q1, e])
    have h1 := hE w p q hj.inv hpq p2 q2 p3 q3
    have e : (D ++ [((sa, Value.pointer (some ⟨p, 0, none⟩)) : Nat × Value), (sb, Value.pointer (some ⟨q, 0, none⟩))]).foldl (fun (t : Array Value) (x : Nat × Value) => t.setIfInBounds x.1 x.2) a0.tmps = a.tmps := by
      refine fold_set a _ a0.tmps (by rw [hz, hj.size]) (fun x hx => ?_) fun s hs => ?_
      · rcases List.mem_append.1 hx with hx | hx
        · obtain ⟨j, hj', rfl⟩ := List.mem_iff_getElem.1 hx
          exact hj.fact j D[j].1 D[j].2 (by simp [hj']) (hall j (by omega))
        · simp only [List.mem_cons, List.not_mem_nil, or_false] at hx
          rcases hx with rfl | rfl
          · exact p1
          · exact q1
      · refine (hj.old s (fun x hx => hs x (List.mem_append_left _ hx)) (fun e => hs (sa, .pointer (some ⟨p, 0, none⟩)) (by simp) e.symm) fun e => hs (sb, .pointer (some ⟨q, 0, none⟩)) (by simp) e.symm).symm
    rw [List.foldl_append] at e
    simp only [List.foldl_cons, List.foldl_nil] at e
    rw [e] at h1
    obtain ⟨tm, df⟩ := a
    have hdf := hj.defers
    simp only at hdf
    subst hdf
    exact h1
end
end Go.Proofs.YtpdmgecbapmgdaaGreat
end
section
namespace Go.Proofs.YtpdmgecbapmgdaaGreat
open Go.RowKit Go.Cx Go.Conc
noncomputable def A6 : Code := match Tryz.f6.body with
  | some c => c
  | none => .skip
theorem fin6 : Fc.fn (lawFr 6).fn := by show (6 : FuncId) ∈ _; simp
theorem room6 : Fc.room (([] : List Frame).length + 1 + 0) := fun d hd => by cases hd
theorem apCell_nil {rs rl rw : Int} {sh : Nat → Shaft} {l : Nat → Nat} {i k : Nat} : ∀ x, apCell rs rl rw sh l i k x = [] ↔ ∀ y, y < x → nearOf rs rl rw (sh (l i)) (sh (l k)) y = 1
  | 0 => by simp [apCell]
  | x + 1 => by
    simp only [apCell, List.append_eq_nil_iff, apCell_nil x]
    constructor
    · rintro ⟨h1, h2⟩ y hy
      rcases Nat.lt_succ_iff_lt_or_eq.1 hy with hy | rfl
      · exact h1 y hy
      · split at h2
        · assumption
        · cases h2
    · intro h
      exact ⟨fun y hy => h y (by omega), by rw [if_pos (h x (by omega))]⟩
theorem apRow_nil {rs rl rw : Int} {sh : Nat → Shaft} {l : Nat → Nat} {i : Nat} : ∀ t, apRow rs rl rw sh l i t = [] ↔ ∀ k, i < k → k < i + 1 + t → ∀ y, y < 3 → nearOf rs rl rw (sh (l i)) (sh (l k)) y = 1
  | 0 => by simp only [apRow, true_iff]; intro k h1 h2; omega
  | t + 1 => by
    simp only [apRow, List.append_eq_nil_iff, apRow_nil t, apCell_nil]
    constructor
    · rintro ⟨h1, h2⟩ k hk hk2
      by_cases e : k < i + 1 + t
      · exact h1 k hk e
      · obtain rfl : k = i + 1 + t := by omega
        exact h2
    · intro h
      exact ⟨fun k h1 h2 => h k h1 (by omega), h _ (by omega) (by omega)⟩
theorem apAll_nil {rs rl rw : Int} {sh : Nat → Shaft} {l : Nat → Nat} {m : Nat} : ∀ i, i ≤ m → (apAll rs rl rw sh l m i = [] ↔ ∀ j k, j < i → j < k → k < m → ∀ y, y < 3 → nearOf rs rl rw (sh (l j)) (sh (l k)) y = 1)
  | 0, _ => by simp only [apAll, true_iff]; intro j k h; omega
  | i + 1, hi => by
    rw [show apAll rs rl rw sh l m (i + 1) = apAll rs rl rw sh l m i ++ apRow rs rl rw sh l i (m - (i + 1)) from rfl, List.append_eq_nil_iff, apAll_nil i (by omega), apRow_nil]
    constructor
    · rintro ⟨h1, h2⟩ j k hj hjk hk
      rcases Nat.lt_succ_iff_lt_or_eq.1 hj with hj | rfl
      · exact h1 j k hj hjk hk
      · exact h2 k hjk (by omega)
    · intro h
      exact ⟨fun j k h1 h2 h3 => h j k (by omega) h2 h3, fun k h1 h2 => h i k (by omega) h1 (by omega)⟩
theorem ap_yes {rs rl rw : Int} {sh : Nat → Shaft} {l : Nat → Nat} {m : Nat} : apAll rs rl rw sh l m m = [] ↔ matchZ rs rl rw sh l m = 1 := by
  rw [apAll_nil m (Nat.le_refl _), matchZ_one]
  exact ⟨fun h j i h1 h2 => h j i (by omega) h1 h2, fun h j k _ h1 h2 => h j k h1 h2⟩
def ApOk (rs rl rw : Int) (sh : Nat → Shaft) (l : Nat → Nat) (m : Nat) (x : Ap) : Prop := ∃ j k, j < k ∧ k < m ∧ x.one = l j ∧ x.two = l k ∧ x.what < 3 ∧ x.sure = nearOf rs rl rw (sh (l j)) (sh (l k)) x.what ∧ x.sure ≠ 1
theorem apCell_ok {rs rl rw : Int} {sh : Nat → Shaft} {l : Nat → Nat} {m i k : Nat} (h1 : i < k) (h2 : k < m) : ∀ x, x ≤ 3 → ∀ e ∈ apCell rs rl rw sh l i k x, ApOk rs rl rw sh l m e
  | 0, _, e, h => by cases h
  | x + 1, hx, e, h => by
    simp only [apCell, List.mem_append] at h
    rcases h with h | h
    · exact apCell_ok h1 h2 x (by omega) e h
    · split at h
      · cases h
      · next hn =>
        simp only [List.mem_cons, List.not_mem_nil, or_false] at h
        subst h
        exact ⟨i, k, h1, h2, rfl, rfl, by show x < 3; omega, rfl, hn⟩
theorem apRow_ok {rs rl rw : Int} {sh : Nat → Shaft} {l : Nat → Nat} {m i : Nat} : ∀ t, i + 1 + t ≤ m → ∀ e ∈ apRow rs rl rw sh l i t, ApOk rs rl rw sh l m e
  | 0, _, e, h => by cases h
  | t + 1, ht, e, h => by
    simp only [apRow, List.mem_append] at h
    rcases h with h | h
    · exact apRow_ok t (by omega) e h
    · exact apCell_ok (by omega) (by omega) 3 (by omega) e h
theorem apAll_ok {rs rl rw : Int} {sh : Nat → Shaft} {l : Nat → Nat} {m : Nat} : ∀ i, i ≤ m → ∀ e ∈ apAll rs rl rw sh l m i, ApOk rs rl rw sh l m e
  | 0, _, e, h => by cases h
  | i + 1, hi, e, h => by
    simp only [apAll, List.mem_append] at h
    rcases h with h | h
    · exact apAll_ok i (by omega) e h
    · exact apRow_ok _ (by omega) e h
abbrev SeekT (W : World) (a : Act) (k : List Item) (w : World) : Prop := AtCallG 14 6 209 a k ∧ Below W.heap.size W w
end Go.Proofs.YtpdmgecbapmgdaaGreat
end
