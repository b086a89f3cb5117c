/- A part of the proof that ArrowPairs returns true for every input: no further condition. -/
import Derived.Test.YtnehjneldpinmaaGreatGp1
import Derived.Stop.RegionWithIn
section
set_option linter.unusedVariables false
namespace Go.Proofs.YtnehjneldpinmaaGreat
open Go.RowKit
def bothZ (a b : Int) : Int := if a = 2 ∨ b = 2 then 2 else if a = 1 ∧ b = 1 then 1 else 0
set_option maxHeartbeats 400000 in
theorem both_any (a b : Int) (w : World) : CallsIn Fc 0 Tryz.prog 58 #[.int .i64 a, .int .i64 b] w fun e w' => e = .returned (.int .i64 (bothZ a b)) ∧ w = w' := by
  by_cases a2 : a = 2
  · subst a2
    gi_enter Tryz.func58, Tryz.ntmps58
    gi_wp2
    go_ret
    exact ⟨by simp [bothZ], rfl⟩
  · have ha : (a == 2) = false := by simpa using a2
    by_cases b2 : b = 2
    · subst b2
      gi_enter Tryz.func58, Tryz.ntmps58
      gi_wp2
      go_ret
      exact ⟨by simp [bothZ], rfl⟩
    · have hb : (b == 2) = false := by simpa using b2
      by_cases a1 : a = 1
      · subst a1
        by_cases b1 : b = 1
        · subst b1
          gi_enter Tryz.func58, Tryz.ntmps58
          gi_wp2
          go_ret
          exact ⟨by simp [bothZ], rfl⟩
        · have hb1 : (b == 1) = false := by simpa using b1
          gi_enter Tryz.func58, Tryz.ntmps58
          gi_wp2
          go_ret
          exact ⟨by simp [bothZ, b2, b1], rfl⟩
      · have ha1 : (a == 1) = false := by simpa using a1
        gi_enter Tryz.func58, Tryz.ntmps58
        gi_wp2
        go_ret
        exact ⟨by simp [bothZ, a2, b2, a1], rfl⟩
def SaysNear (v : Int) (w : World) (e : Ending) (w' : World) : Prop := e = .returned (.int .i64 v) ∧ Below w.heap.size w w'
def nearZ (al aMin aMax bMin bMax : Int) : Int :=
  if max (aMax - bMin) (bMax - aMin) ≤ al then 1 else if max (aMin - bMax) (bMin - aMax) > al then 2 else 0
set_option maxHeartbeats 1000000 in
set_option maxRecDepth 100000 in
theorem near_any0 (rs rl rw many : Int) (b o n c i1 i2 : Nat) (sh : Nat → Shaft) (W : World) (h1 : i1 < n) (h2 : i2 < n) (hn : n ≤ 9) (hst : Hid (StockOk rs rl rw many n sh)) (hsh : Hid (ShaftsAt W (some ⟨b, o, none⟩) n sh)) :
    CallsIn Fc 0 Tryz.prog 35 #[stockV rs rl rw many (some ⟨b, o, none⟩) n c, .int .i64 i1, .int .i64 i2, .agg #[.func (.func 61) #[] #[], .func (.func 62) #[] #[]]] W
      (SaysNear (nearZ (allowOf rs rl rw 0) (spanA (sh i1) 0) (spanB (sh i1) 0) (spanA (sh i2) 0) (spanB (sh i2) 0)) W) := by
  gi_enter Tryz.func35, Tryz.ntmps35
  gi_wp2
  have hB1 : Below W.heap.size W ((W.alloc (.cells #[.int .i64 rs, .int .i64 rl, .int .i64 rw, .int .i64 many, .slice (some ⟨b, o, none⟩) n c] 74)).alloc (.cells #[.func (.func 61) #[] #[], .func (.func 62) #[] #[]] 94)) := ((Below.refl _ _).alloc (Nat.le_refl _) _).alloc (by simp) _
  have cf : World.cell? ((W.alloc (.cells #[.int .i64 rs, .int .i64 rl, .int .i64 rw, .int .i64 many, .slice (some ⟨b, o, none⟩) n c] 74)).alloc (.cells #[.func (.func 61) #[] #[], .func (.func 62) #[] #[]] 94)) ⟨W.heap.size + 1, 0, none⟩ = some (.func (.func 61) #[] #[]) := by simp
  have cg : World.cell? ((W.alloc (.cells #[.int .i64 rs, .int .i64 rl, .int .i64 rw, .int .i64 many, .slice (some ⟨b, o, none⟩) n c] 74)).alloc (.cells #[.func (.func 61) #[] #[], .func (.func 62) #[] #[]] 94)) ⟨W.heap.size + 1, 1, none⟩ = some (.func (.func 62) #[] #[]) := by simp
  have c0 : World.cell? ((W.alloc (.cells #[.int .i64 rs, .int .i64 rl, .int .i64 rw, .int .i64 many, .slice (some ⟨b, o, none⟩) n c] 74)).alloc (.cells #[.func (.func 61) #[] #[], .func (.func 62) #[] #[]] 94)) ⟨W.heap.size, 0, none⟩ = some (.int .i64 rs) := by simp
  have c1 : World.cell? ((W.alloc (.cells #[.int .i64 rs, .int .i64 rl, .int .i64 rw, .int .i64 many, .slice (some ⟨b, o, none⟩) n c] 74)).alloc (.cells #[.func (.func 61) #[] #[], .func (.func 62) #[] #[]] 94)) ⟨W.heap.size, 1, none⟩ = some (.int .i64 rl) := by simp
  have c2 : World.cell? ((W.alloc (.cells #[.int .i64 rs, .int .i64 rl, .int .i64 rw, .int .i64 many, .slice (some ⟨b, o, none⟩) n c] 74)).alloc (.cells #[.func (.func 61) #[] #[], .func (.func 62) #[] #[]] 94)) ⟨W.heap.size, 2, none⟩ = some (.int .i64 rw) := by simp
  have c3 : World.cell? ((W.alloc (.cells #[.int .i64 rs, .int .i64 rl, .int .i64 rw, .int .i64 many, .slice (some ⟨b, o, none⟩) n c] 74)).alloc (.cells #[.func (.func 61) #[] #[], .func (.func 62) #[] #[]] 94)) ⟨W.heap.size, 3, none⟩ = some (.int .i64 many) := by simp
  have cs : World.cell? ((W.alloc (.cells #[.int .i64 rs, .int .i64 rl, .int .i64 rw, .int .i64 many, .slice (some ⟨b, o, none⟩) n c] 74)).alloc (.cells #[.func (.func 61) #[] #[], .func (.func 62) #[] #[]] 94)) ⟨W.heap.size, 4, none⟩ = some (.slice (some ⟨b, o, none⟩) n c) := by simp
  have ls : W.heap.size + 1 < ((W.alloc (.cells #[.int .i64 rs, .int .i64 rl, .int .i64 rw, .int .i64 many, .slice (some ⟨b, o, none⟩) n c] 74)).alloc (.cells #[.func (.func 61) #[] #[], .func (.func 62) #[] #[]] 94)).heap.size := by simp
  generalize (W.alloc (.cells #[.int .i64 rs, .int .i64 rl, .int .i64 rw, .int .i64 many, .slice (some ⟨b, o, none⟩) n c] 74)).alloc (.cells #[.func (.func 61) #[] #[], .func (.func 62) #[] #[]] 94) = W1 at *
  have hR : NearR W1 W.heap.size (W.heap.size + 1) b o n c i1 i2 61 1 (spanA (sh i1) 0) (spanB (sh i1) 0) (spanA (sh i2) 0) (spanB (sh i2) 0) := by
    obtain ⟨b', o', e, hx⟩ := hsh.out i1 h1
    cases e
    obtain ⟨b', o', e, hy⟩ := hsh.out i2 h2
    cases e
    have hx := hx.below hB1
    have hy := hy.below hB1
    exact ⟨by omega, ls, hx.lt, cf, cs, hx.h1, hx.h2, hy.h1, hy.h2⟩
  have HR := Lib.hid hR
  have HB1 := Lib.hid hB1
  have HC := Lib.hid (And.intro cf (And.intro cg (And.intro c0 (And.intro c1 (And.intro c2 (And.intro c3 ls))))))
  clear hR hB1 cf cg c0 c1 c2 c3 cs ls
  have hx := hst.out.each i1 h1
  have hy := hst.out.each i2 h2
  have hu := hst.out.rule
  have a0 : 0 ≤ spanA (sh i1) 0 ∧ spanA (sh i1) 0 ≤ 9999 := by have := hx.s0; have := hx.s1; have := hx.s2; simp only [spanA]; omega
  have a1 : 0 ≤ spanB (sh i1) 0 ∧ spanB (sh i1) 0 ≤ 9999 := by have := hx.s0; have := hx.s1; have := hx.s2; simp only [spanB]; omega
  have a2 : 0 ≤ spanA (sh i2) 0 ∧ spanA (sh i2) 0 ≤ 9999 := by have := hy.s0; have := hy.s1; have := hy.s2; simp only [spanA]; omega
  have a3 : 0 ≤ spanB (sh i2) 0 ∧ spanB (sh i2) 0 ≤ 9999 := by have := hy.s0; have := hy.s1; have := hy.s2; simp only [spanB]; omega
  generalize spanA (sh i1) 0 = x1 at *
  generalize spanB (sh i1) 0 = y1 at *
  generalize spanA (sh i2) 0 = x2 at *
  generalize spanB (sh i2) 0 = y2 at *
  obtain ⟨a0, a0'⟩ := a0
  obtain ⟨a1, a1'⟩ := a1
  obtain ⟨a2, a2'⟩ := a2
  obtain ⟨a3, a3'⟩ := a3
  clear hx hy hu
  refine wpIn_region_J (by kernel_rfl) near_back (J := NearJ W1 (stockV rs rl rw many (some ⟨b, o, none⟩) n c) (.agg #[.func (.func 61) #[] #[], .func (.func 62) #[] #[]]) W.heap.size (W.heap.size + 1) b o n c i1 i2 61 1 x1 y1 x2 y2) ?_ ?_ ?_
  · refine ⟨undef, undef, undef, undef, undef, undef, undef, undef, undef, undef, undef, undef, undef, undef, undef, undef, undef, undef, undef, undef, undef, undef, rfl, Below.drew (Below.refl _ _), ?_⟩
    refine ⟨?_, ?_, ?_, ?_, ?_, ?_, ?_, ?_, ?_, ?_, ?_, ?_, ?_, ?_, ?_, ?_, ?_, ?_, ?_, ?_, ?_, ?_, ?_, ?_, ?_⟩ <;> (intro h; exact absurd h (by decide))
  · intro listed a w i hJ hi
    have hlt : i < 24 := by
      obtain ⟨_, oo, h, _⟩ := mem_ready.1 hi
      exact (Array.getElem?_eq_some_iff.1 h).1
    have hfS : (61 = 61 ∧ 1 = 1) ∨ (61 = 63 ∧ 1 = 3) ∨ (61 = 65 ∧ 1 = 5) := by decide
    have hc : i = 0 ∨ i = 1 ∨ i = 2 ∨ i = 3 ∨ i = 4 ∨ i = 5 ∨ i = 6 ∨ i = 7 ∨ i = 8 ∨ i = 9 ∨ i = 10 ∨ i = 11 ∨ i = 12 ∨ i = 13 ∨ i = 14 ∨ i = 15 ∨ i = 16 ∨ i = 17 ∨ i = 18 ∨ i = 19 ∨ i = 20 ∨ i = 21 ∨ i = 22 ∨ i = 23 := by omega
    rcases hc with rfl | rfl | rfl | rfl | rfl | rfl | rfl | rfl | rfl | rfl | rfl | rfl | rfl | rfl | rfl | rfl | rfl | rfl | rfl | rfl | rfl | rfl | rfl | rfl
    · exact near_op0 _ _ _ _ _ _ _ _ _ _ _ _ _ _ _ _ _ HR hn h1 h2 hfS hJ hi
    · exact near_op1 _ _ _ _ _ _ _ _ _ _ _ _ _ _ _ _ _ HR hn h1 h2 hfS hJ hi
    · exact near_op2 _ _ _ _ _ _ _ _ _ _ _ _ _ _ _ _ _ HR hn h1 h2 hfS hJ hi
    · exact near_op3 _ _ _ _ _ _ _ _ _ _ _ _ _ _ _ _ _ HR hn h1 h2 hfS hJ hi
    · exact near_op4 _ _ _ _ _ _ _ _ _ _ _ _ _ _ _ _ _ HR hn h1 h2 hfS hJ hi
    · exact near_op5 _ _ _ _ _ _ _ _ _ _ _ _ _ _ _ _ _ HR hn h1 h2 hfS hJ hi
    · exact near_op6 _ _ _ _ _ _ _ _ _ _ _ _ _ _ _ _ _ HR hn h1 h2 hfS hJ hi
    · exact near_op7 _ _ _ _ _ _ _ _ _ _ _ _ _ _ _ _ _ HR hn h1 h2 hfS hJ hi
    · exact near_op8 _ _ _ _ _ _ _ _ _ _ _ _ _ _ _ _ _ HR hn h1 h2 hfS hJ hi
    · exact near_op9 _ _ _ _ _ _ _ _ _ _ _ _ _ _ _ _ _ HR hn h1 h2 hfS hJ hi
    · exact near_op10 _ _ _ _ _ _ _ _ _ _ _ _ _ _ _ _ _ HR hn h1 h2 hfS hJ hi
    · exact near_op11 _ _ _ _ _ _ _ _ _ _ _ _ _ _ _ _ _ HR hn h1 h2 hfS hJ hi
    · exact near_op12 _ _ _ _ _ _ _ _ _ _ _ _ _ _ _ _ _ HR hn h1 h2 hfS hJ hi
    · exact near_op13 _ _ _ _ _ _ _ _ _ _ _ _ _ _ _ _ _ HR hn h1 h2 hfS hJ hi
    · exact near_op14 _ _ _ _ _ _ _ _ _ _ _ _ _ _ _ _ _ HR hn h1 h2 hfS hJ hi
    · exact near_op15 _ _ _ _ _ _ _ _ _ _ _ _ _ _ _ _ _ HR hn h1 h2 hfS hJ hi
    · exact near_op16 _ _ _ _ _ _ _ _ _ _ _ _ _ _ _ _ _ HR hn h1 h2 hfS hJ hi
    · exact near_op17 _ _ _ _ _ _ _ _ _ _ _ _ _ _ _ _ _ HR hn h1 h2 hfS hJ hi
    · exact near_op18 _ _ _ _ _ _ _ _ _ _ _ _ _ _ _ _ _ HR hn h1 h2 hfS hJ hi
    · exact near_op19 _ _ _ _ _ _ _ _ _ _ _ _ _ _ _ _ _ HR hn h1 h2 hfS hJ hi
    · exact near_op20 _ _ _ _ _ _ _ _ _ _ _ _ _ _ _ _ _ HR hn h1 h2 hfS hJ hi
    · exact near_op21 _ _ _ _ _ _ _ _ _ _ _ _ _ _ _ _ _ HR hn h1 h2 hfS hJ hi
    · exact near_op22 _ _ _ _ _ _ _ _ _ _ _ _ _ _ _ _ _ HR hn h1 h2 hfS hJ hi
    · exact near_op23 _ _ _ _ _ _ _ _ _ _ _ _ _ _ _ _ _ HR hn h1 h2 hfS hJ hi
  · rintro listed a w ⟨x9, x10, x12, x13, x14, x15, x16, x17, x18, x19, x20, x21, x22, x23, x24, x25, x26, x27, x28, x29, x30, x31, rfl, hb, f0, f1, f2, f3, f4, f5, f6, f7, f8, f9, f10, f11, f12, f13, f14, f15, f16, f17, f18, f19, g20, g21, g2, _, _⟩ hall
    have hal : ∀ i, i < 24 → listed.getD i false = true := hall
    have e0 := f0 (hal 0 (by decide))
    subst e0
    have e1 := f1 (hal 1 (by decide))
    subst e1
    have e2 := f2 (hal 2 (by decide))
    subst e2
    have e3 := f3 (hal 3 (by decide))
    subst e3
    have e4 := f4 (hal 4 (by decide))
    subst e4
    have e5 := f5 (hal 5 (by decide))
    subst e5
    have e6 := f6 (hal 6 (by decide))
    subst e6
    have e7 := f7 (hal 7 (by decide))
    subst e7
    have e8 := f8 (hal 8 (by decide))
    subst e8
    have e9 := f9 (hal 9 (by decide))
    subst e9
    have e10 := f10 (hal 10 (by decide))
    subst e10
    have e11 := f11 (hal 11 (by decide))
    subst e11
    have e12 := f12 (hal 12 (by decide))
    subst e12
    have e13 := f13 (hal 13 (by decide))
    subst e13
    have e14 := f14 (hal 14 (by decide))
    subst e14
    have e15 := f15 (hal 15 (by decide))
    subst e15
    have e16 := f16 (hal 16 (by decide))
    subst e16
    have e17 := f17 (hal 17 (by decide))
    subst e17
    have e18 := f18 (hal 18 (by decide))
    subst e18
    have e19 := f19 (hal 19 (by decide))
    subst e19
    obtain ⟨p, u, v, e9, hp1, hp2, hp3⟩ := g20 (hal 20 (by decide))
    obtain ⟨q, u', v', e10, hq1, hq2, hq3⟩ := g21 (hal 21 (by decide))
    obtain ⟨rfl, rfl⟩ := hp3 (hal 22 (by decide))
    obtain ⟨rfl, rfl⟩ := hq3 (hal 23 (by decide))
    subst e9
    subst e10
    obtain ⟨cf, cg, c0, c1, c2, c3, ls⟩ := HC.out
    have cg := Below.old hb cg
    have c0 := Below.old hb c0
    have c1 := Below.old hb c1
    have c2 := Below.old hb c2
    have c3 := Below.old hb c3
    obtain ⟨p0, p1⟩ := hp2.cell
    obtain ⟨q0, q1⟩ := hq2.cell
    have lp := hp2.lt
    have lq := hq2.lt
    have lw : W.heap.size + 1 < w.heap.size := Nat.lt_of_lt_of_le ls hb.size
    have lw0 : W.heap.size < w.heap.size := by omega
    have HP := Lib.hid hp2
    have HQ := Lib.hid hq2
    clear cf hal hall g20 g21 g2 hp3 hq3 hp2 hq2 ls
    have HB := Lib.hid hb
    clear hb
    gi_wp2
    all_goals
      go_ret
      refine ⟨?_, ?_⟩
      · congr 2
        simp only [nearZ, allowOf, Int.max_def] at *
        repeat' split
        all_goals first | rfl | omega
      · exact (HB1.out.trans (HB.out.mono HB1.out.size)).alloc (Nat.le_trans HB1.out.size HB.out.size) _
set_option maxHeartbeats 1000000 in
set_option maxRecDepth 100000 in
theorem near_any1 (rs rl rw many : Int) (b o n c i1 i2 : Nat) (sh : Nat → Shaft) (W : World) (h1 : i1 < n) (h2 : i2 < n) (hn : n ≤ 9) (hst : Hid (StockOk rs rl rw many n sh)) (hsh : Hid (ShaftsAt W (some ⟨b, o, none⟩) n sh)) :
    CallsIn Fc 0 Tryz.prog 35 #[stockV rs rl rw many (some ⟨b, o, none⟩) n c, .int .i64 i1, .int .i64 i2, .agg #[.func (.func 63) #[] #[], .func (.func 64) #[] #[]]] W
      (SaysNear (nearZ (allowOf rs rl rw 1) (spanA (sh i1) 1) (spanB (sh i1) 1) (spanA (sh i2) 1) (spanB (sh i2) 1)) W) := by
  gi_enter Tryz.func35, Tryz.ntmps35
  gi_wp2
  have hB1 : Below W.heap.size W ((W.alloc (.cells #[.int .i64 rs, .int .i64 rl, .int .i64 rw, .int .i64 many, .slice (some ⟨b, o, none⟩) n c] 74)).alloc (.cells #[.func (.func 63) #[] #[], .func (.func 64) #[] #[]] 94)) := ((Below.refl _ _).alloc (Nat.le_refl _) _).alloc (by simp) _
  have cf : World.cell? ((W.alloc (.cells #[.int .i64 rs, .int .i64 rl, .int .i64 rw, .int .i64 many, .slice (some ⟨b, o, none⟩) n c] 74)).alloc (.cells #[.func (.func 63) #[] #[], .func (.func 64) #[] #[]] 94)) ⟨W.heap.size + 1, 0, none⟩ = some (.func (.func 63) #[] #[]) := by simp
  have cg : World.cell? ((W.alloc (.cells #[.int .i64 rs, .int .i64 rl, .int .i64 rw, .int .i64 many, .slice (some ⟨b, o, none⟩) n c] 74)).alloc (.cells #[.func (.func 63) #[] #[], .func (.func 64) #[] #[]] 94)) ⟨W.heap.size + 1, 1, none⟩ = some (.func (.func 64) #[] #[]) := by simp
  have c0 : World.cell? ((W.alloc (.cells #[.int .i64 rs, .int .i64 rl, .int .i64 rw, .int .i64 many, .slice (some ⟨b, o, none⟩) n c] 74)).alloc (.cells #[.func (.func 63) #[] #[], .func (.func 64) #[] #[]] 94)) ⟨W.heap.size, 0, none⟩ = some (.int .i64 rs) := by simp
  have c1 : World.cell? ((W.alloc (.cells #[.int .i64 rs, .int .i64 rl, .int .i64 rw, .int .i64 many, .slice (some ⟨b, o, none⟩) n c] 74)).alloc (.cells #[.func (.func 63) #[] #[], .func (.func 64) #[] #[]] 94)) ⟨W.heap.size, 1, none⟩ = some (.int .i64 rl) := by simp
  have c2 : World.cell? ((W.alloc (.cells #[.int .i64 rs, .int .i64 rl, .int .i64 rw, .int .i64 many, .slice (some ⟨b, o, none⟩) n c] 74)).alloc (.cells #[.func (.func 63) #[] #[], .func (.func 64) #[] #[]] 94)) ⟨W.heap.size, 2, none⟩ = some (.int .i64 rw) := by simp
  have c3 : World.cell? ((W.alloc (.cells #[.int .i64 rs, .int .i64 rl, .int .i64 rw, .int .i64 many, .slice (some ⟨b, o, none⟩) n c] 74)).alloc (.cells #[.func (.func 63) #[] #[], .func (.func 64) #[] #[]] 94)) ⟨W.heap.size, 3, none⟩ = some (.int .i64 many) := by simp
  have cs : World.cell? ((W.alloc (.cells #[.int .i64 rs, .int .i64 rl, .int .i64 rw, .int .i64 many, .slice (some ⟨b, o, none⟩) n c] 74)).alloc (.cells #[.func (.func 63) #[] #[], .func (.func 64) #[] #[]] 94)) ⟨W.heap.size, 4, none⟩ = some (.slice (some ⟨b, o, none⟩) n c) := by simp
  have ls : W.heap.size + 1 < ((W.alloc (.cells #[.int .i64 rs, .int .i64 rl, .int .i64 rw, .int .i64 many, .slice (some ⟨b, o, none⟩) n c] 74)).alloc (.cells #[.func (.func 63) #[] #[], .func (.func 64) #[] #[]] 94)).heap.size := by simp
  generalize (W.alloc (.cells #[.int .i64 rs, .int .i64 rl, .int .i64 rw, .int .i64 many, .slice (some ⟨b, o, none⟩) n c] 74)).alloc (.cells #[.func (.func 63) #[] #[], .func (.func 64) #[] #[]] 94) = W1 at *
  have hR : NearR W1 W.heap.size (W.heap.size + 1) b o n c i1 i2 63 3 (spanA (sh i1) 1) (spanB (sh i1) 1) (spanA (sh i2) 1) (spanB (sh i2) 1) := by
    obtain ⟨b', o', e, hx⟩ := hsh.out i1 h1
    cases e
    obtain ⟨b', o', e, hy⟩ := hsh.out i2 h2
    cases e
    have hx := hx.below hB1
    have hy := hy.below hB1
    exact ⟨by omega, ls, hx.lt, cf, cs, hx.h3, hx.h4, hy.h3, hy.h4⟩
  have HR := Lib.hid hR
  have HB1 := Lib.hid hB1
  have HC := Lib.hid (And.intro cf (And.intro cg (And.intro c0 (And.intro c1 (And.intro c2 (And.intro c3 ls))))))
  clear hR hB1 cf cg c0 c1 c2 c3 cs ls
  have hx := hst.out.each i1 h1
  have hy := hst.out.each i2 h2
  have hu := hst.out.rule
  have a0 : 0 ≤ spanA (sh i1) 1 ∧ spanA (sh i1) 1 ≤ 9999 := by have := hx.l0; have := hx.l1; have := hx.l2; simp only [spanA]; omega
  have a1 : 0 ≤ spanB (sh i1) 1 ∧ spanB (sh i1) 1 ≤ 9999 := by have := hx.l0; have := hx.l1; have := hx.l2; simp only [spanB]; omega
  have a2 : 0 ≤ spanA (sh i2) 1 ∧ spanA (sh i2) 1 ≤ 9999 := by have := hy.l0; have := hy.l1; have := hy.l2; simp only [spanA]; omega
  have a3 : 0 ≤ spanB (sh i2) 1 ∧ spanB (sh i2) 1 ≤ 9999 := by have := hy.l0; have := hy.l1; have := hy.l2; simp only [spanB]; omega
  generalize spanA (sh i1) 1 = x1 at *
  generalize spanB (sh i1) 1 = y1 at *
  generalize spanA (sh i2) 1 = x2 at *
  generalize spanB (sh i2) 1 = y2 at *
  obtain ⟨a0, a0'⟩ := a0
  obtain ⟨a1, a1'⟩ := a1
  obtain ⟨a2, a2'⟩ := a2
  obtain ⟨a3, a3'⟩ := a3
  clear hx hy hu
  refine wpIn_region_J (by kernel_rfl) near_back (J := NearJ W1 (stockV rs rl rw many (some ⟨b, o, none⟩) n c) (.agg #[.func (.func 63) #[] #[], .func (.func 64) #[] #[]]) W.heap.size (W.heap.size + 1) b o n c i1 i2 63 3 x1 y1 x2 y2) ?_ ?_ ?_
  · refine ⟨undef, undef, undef, undef, undef, undef, undef, undef, undef, undef, undef, undef, undef, undef, undef, undef, undef, undef, undef, undef, undef, undef, rfl, Below.drew (Below.refl _ _), ?_⟩
    refine ⟨?_, ?_, ?_, ?_, ?_, ?_, ?_, ?_, ?_, ?_, ?_, ?_, ?_, ?_, ?_, ?_, ?_, ?_, ?_, ?_, ?_, ?_, ?_, ?_, ?_⟩ <;> (intro h; exact absurd h (by decide))
  · intro listed a w i hJ hi
    have hlt : i < 24 := by
      obtain ⟨_, oo, h, _⟩ := mem_ready.1 hi
      exact (Array.getElem?_eq_some_iff.1 h).1
    have hfS : (63 = 61 ∧ 3 = 1) ∨ (63 = 63 ∧ 3 = 3) ∨ (63 = 65 ∧ 3 = 5) := by decide
    have hc : i = 0 ∨ i = 1 ∨ i = 2 ∨ i = 3 ∨ i = 4 ∨ i = 5 ∨ i = 6 ∨ i = 7 ∨ i = 8 ∨ i = 9 ∨ i = 10 ∨ i = 11 ∨ i = 12 ∨ i = 13 ∨ i = 14 ∨ i = 15 ∨ i = 16 ∨ i = 17 ∨ i = 18 ∨ i = 19 ∨ i = 20 ∨ i = 21 ∨ i = 22 ∨ i = 23 := by omega
    rcases hc with rfl | rfl | rfl | rfl | rfl | rfl | rfl | rfl | rfl | rfl | rfl | rfl | rfl | rfl | rfl | rfl | rfl | rfl | rfl | rfl | rfl | rfl | rfl | rfl
    · exact near_op0 _ _ _ _ _ _ _ _ _ _ _ _ _ _ _ _ _ HR hn h1 h2 hfS hJ hi
    · exact near_op1 _ _ _ _ _ _ _ _ _ _ _ _ _ _ _ _ _ HR hn h1 h2 hfS hJ hi
    · exact near_op2 _ _ _ _ _ _ _ _ _ _ _ _ _ _ _ _ _ HR hn h1 h2 hfS hJ hi
    · exact near_op3 _ _ _ _ _ _ _ _ _ _ _ _ _ _ _ _ _ HR hn h1 h2 hfS hJ hi
    · exact near_op4 _ _ _ _ _ _ _ _ _ _ _ _ _ _ _ _ _ HR hn h1 h2 hfS hJ hi
    · exact near_op5 _ _ _ _ _ _ _ _ _ _ _ _ _ _ _ _ _ HR hn h1 h2 hfS hJ hi
    · exact near_op6 _ _ _ _ _ _ _ _ _ _ _ _ _ _ _ _ _ HR hn h1 h2 hfS hJ hi
    · exact near_op7 _ _ _ _ _ _ _ _ _ _ _ _ _ _ _ _ _ HR hn h1 h2 hfS hJ hi
    · exact near_op8 _ _ _ _ _ _ _ _ _ _ _ _ _ _ _ _ _ HR hn h1 h2 hfS hJ hi
    · exact near_op9 _ _ _ _ _ _ _ _ _ _ _ _ _ _ _ _ _ HR hn h1 h2 hfS hJ hi
    · exact near_op10 _ _ _ _ _ _ _ _ _ _ _ _ _ _ _ _ _ HR hn h1 h2 hfS hJ hi
    · exact near_op11 _ _ _ _ _ _ _ _ _ _ _ _ _ _ _ _ _ HR hn h1 h2 hfS hJ hi
    · exact near_op12 _ _ _ _ _ _ _ _ _ _ _ _ _ _ _ _ _ HR hn h1 h2 hfS hJ hi
    · exact near_op13 _ _ _ _ _ _ _ _ _ _ _ _ _ _ _ _ _ HR hn h1 h2 hfS hJ hi
    · exact near_op14 _ _ _ _ _ _ _ _ _ _ _ _ _ _ _ _ _ HR hn h1 h2 hfS hJ hi
    · exact near_op15 _ _ _ _ _ _ _ _ _ _ _ _ _ _ _ _ _ HR hn h1 h2 hfS hJ hi
    · exact near_op16 _ _ _ _ _ _ _ _ _ _ _ _ _ _ _ _ _ HR hn h1 h2 hfS hJ hi
    · exact near_op17 _ _ _ _ _ _ _ _ _ _ _ _ _ _ _ _ _ HR hn h1 h2 hfS hJ hi
    · exact near_op18 _ _ _ _ _ _ _ _ _ _ _ _ _ _ _ _ _ HR hn h1 h2 hfS hJ hi
    · exact near_op19 _ _ _ _ _ _ _ _ _ _ _ _ _ _ _ _ _ HR hn h1 h2 hfS hJ hi
    · exact near_op20 _ _ _ _ _ _ _ _ _ _ _ _ _ _ _ _ _ HR hn h1 h2 hfS hJ hi
    · exact near_op21 _ _ _ _ _ _ _ _ _ _ _ _ _ _ _ _ _ HR hn h1 h2 hfS hJ hi
    · exact near_op22 _ _ _ _ _ _ _ _ _ _ _ _ _ _ _ _ _ HR hn h1 h2 hfS hJ hi
    · exact near_op23 _ _ _ _ _ _ _ _ _ _ _ _ _ _ _ _ _ HR hn h1 h2 hfS hJ hi
  · rintro listed a w ⟨x9, x10, x12, x13, x14, x15, x16, x17, x18, x19, x20, x21, x22, x23, x24, x25, x26, x27, x28, x29, x30, x31, rfl, hb, f0, f1, f2, f3, f4, f5, f6, f7, f8, f9, f10, f11, f12, f13, f14, f15, f16, f17, f18, f19, g20, g21, g2, _, _⟩ hall
    have hal : ∀ i, i < 24 → listed.getD i false = true := hall
    have e0 := f0 (hal 0 (by decide))
    subst e0
    have e1 := f1 (hal 1 (by decide))
    subst e1
    have e2 := f2 (hal 2 (by decide))
    subst e2
    have e3 := f3 (hal 3 (by decide))
    subst e3
    have e4 := f4 (hal 4 (by decide))
    subst e4
    have e5 := f5 (hal 5 (by decide))
    subst e5
    have e6 := f6 (hal 6 (by decide))
    subst e6
    have e7 := f7 (hal 7 (by decide))
    subst e7
    have e8 := f8 (hal 8 (by decide))
    subst e8
    have e9 := f9 (hal 9 (by decide))
    subst e9
    have e10 := f10 (hal 10 (by decide))
    subst e10
    have e11 := f11 (hal 11 (by decide))
    subst e11
    have e12 := f12 (hal 12 (by decide))
    subst e12
    have e13 := f13 (hal 13 (by decide))
    subst e13
    have e14 := f14 (hal 14 (by decide))
    subst e14
    have e15 := f15 (hal 15 (by decide))
    subst e15
    have e16 := f16 (hal 16 (by decide))
    subst e16
    have e17 := f17 (hal 17 (by decide))
    subst e17
    have e18 := f18 (hal 18 (by decide))
    subst e18
    have e19 := f19 (hal 19 (by decide))
    subst e19
    obtain ⟨p, u, v, e9, hp1, hp2, hp3⟩ := g20 (hal 20 (by decide))
    obtain ⟨q, u', v', e10, hq1, hq2, hq3⟩ := g21 (hal 21 (by decide))
    obtain ⟨rfl, rfl⟩ := hp3 (hal 22 (by decide))
    obtain ⟨rfl, rfl⟩ := hq3 (hal 23 (by decide))
    subst e9
    subst e10
    obtain ⟨cf, cg, c0, c1, c2, c3, ls⟩ := HC.out
    have cg := Below.old hb cg
    have c0 := Below.old hb c0
    have c1 := Below.old hb c1
    have c2 := Below.old hb c2
    have c3 := Below.old hb c3
    obtain ⟨p0, p1⟩ := hp2.cell
    obtain ⟨q0, q1⟩ := hq2.cell
    have lp := hp2.lt
    have lq := hq2.lt
    have lw : W.heap.size + 1 < w.heap.size := Nat.lt_of_lt_of_le ls hb.size
    have lw0 : W.heap.size < w.heap.size := by omega
    have HP := Lib.hid hp2
    have HQ := Lib.hid hq2
    clear cf hal hall g20 g21 g2 hp3 hq3 hp2 hq2 ls
    have HB := Lib.hid hb
    clear hb
    gi_wp2
    all_goals
      go_ret
      refine ⟨?_, ?_⟩
      · congr 2
        simp only [nearZ, allowOf, Int.max_def] at *
        repeat' split
        all_goals first | rfl | omega
      · exact (HB1.out.trans (HB.out.mono HB1.out.size)).alloc (Nat.le_trans HB1.out.size HB.out.size) _
set_option maxHeartbeats 1000000 in
set_option maxRecDepth 100000 in
theorem near_any2 (rs rl rw many : Int) (b o n c i1 i2 : Nat) (sh : Nat → Shaft) (W : World) (h1 : i1 < n) (h2 : i2 < n) (hn : n ≤ 9) (hst : Hid (StockOk rs rl rw many n sh)) (hsh : Hid (ShaftsAt W (some ⟨b, o, none⟩) n sh)) :
    CallsIn Fc 0 Tryz.prog 35 #[stockV rs rl rw many (some ⟨b, o, none⟩) n c, .int .i64 i1, .int .i64 i2, .agg #[.func (.func 65) #[] #[], .func (.func 66) #[] #[]]] W
      (SaysNear (nearZ (allowOf rs rl rw 2) (spanA (sh i1) 2) (spanB (sh i1) 2) (spanA (sh i2) 2) (spanB (sh i2) 2)) W) := by
  gi_enter Tryz.func35, Tryz.ntmps35
  gi_wp2
  have hB1 : Below W.heap.size W ((W.alloc (.cells #[.int .i64 rs, .int .i64 rl, .int .i64 rw, .int .i64 many, .slice (some ⟨b, o, none⟩) n c] 74)).alloc (.cells #[.func (.func 65) #[] #[], .func (.func 66) #[] #[]] 94)) := ((Below.refl _ _).alloc (Nat.le_refl _) _).alloc (by simp) _
  have cf : World.cell? ((W.alloc (.cells #[.int .i64 rs, .int .i64 rl, .int .i64 rw, .int .i64 many, .slice (some ⟨b, o, none⟩) n c] 74)).alloc (.cells #[.func (.func 65) #[] #[], .func (.func 66) #[] #[]] 94)) ⟨W.heap.size + 1, 0, none⟩ = some (.func (.func 65) #[] #[]) := by simp
  have cg : World.cell? ((W.alloc (.cells #[.int .i64 rs, .int .i64 rl, .int .i64 rw, .int .i64 many, .slice (some ⟨b, o, none⟩) n c] 74)).alloc (.cells #[.func (.func 65) #[] #[], .func (.func 66) #[] #[]] 94)) ⟨W.heap.size + 1, 1, none⟩ = some (.func (.func 66) #[] #[]) := by simp
  have c0 : World.cell? ((W.alloc (.cells #[.int .i64 rs, .int .i64 rl, .int .i64 rw, .int .i64 many, .slice (some ⟨b, o, none⟩) n c] 74)).alloc (.cells #[.func (.func 65) #[] #[], .func (.func 66) #[] #[]] 94)) ⟨W.heap.size, 0, none⟩ = some (.int .i64 rs) := by simp
  have c1 : World.cell? ((W.alloc (.cells #[.int .i64 rs, .int .i64 rl, .int .i64 rw, .int .i64 many, .slice (some ⟨b, o, none⟩) n c] 74)).alloc (.cells #[.func (.func 65) #[] #[], .func (.func 66) #[] #[]] 94)) ⟨W.heap.size, 1, none⟩ = some (.int .i64 rl) := by simp
  have c2 : World.cell? ((W.alloc (.cells #[.int .i64 rs, .int .i64 rl, .int .i64 rw, .int .i64 many, .slice (some ⟨b, o, none⟩) n c] 74)).alloc (.cells #[.func (.func 65) #[] #[], .func (.func 66) #[] #[]] 94)) ⟨W.heap.size, 2, none⟩ = some (.int .i64 rw) := by simp
  have c3 : World.cell? ((W.alloc (.cells #[.int .i64 rs, .int .i64 rl, .int .i64 rw, .int .i64 many, .slice (some ⟨b, o, none⟩) n c] 74)).alloc (.cells #[.func (.func 65) #[] #[], .func (.func 66) #[] #[]] 94)) ⟨W.heap.size, 3, none⟩ = some (.int .i64 many) := by simp
  have cs : World.cell? ((W.alloc (.cells #[.int .i64 rs, .int .i64 rl, .int .i64 rw, .int .i64 many, .slice (some ⟨b, o, none⟩) n c] 74)).alloc (.cells #[.func (.func 65) #[] #[], .func (.func 66) #[] #[]] 94)) ⟨W.heap.size, 4, none⟩ = some (.slice (some ⟨b, o, none⟩) n c) := by simp
  have ls : W.heap.size + 1 < ((W.alloc (.cells #[.int .i64 rs, .int .i64 rl, .int .i64 rw, .int .i64 many, .slice (some ⟨b, o, none⟩) n c] 74)).alloc (.cells #[.func (.func 65) #[] #[], .func (.func 66) #[] #[]] 94)).heap.size := by simp
  generalize (W.alloc (.cells #[.int .i64 rs, .int .i64 rl, .int .i64 rw, .int .i64 many, .slice (some ⟨b, o, none⟩) n c] 74)).alloc (.cells #[.func (.func 65) #[] #[], .func (.func 66) #[] #[]] 94) = W1 at *
  have hR : NearR W1 W.heap.size (W.heap.size + 1) b o n c i1 i2 65 5 (spanA (sh i1) 2) (spanB (sh i1) 2) (spanA (sh i2) 2) (spanB (sh i2) 2) := by
    obtain ⟨b', o', e, hx⟩ := hsh.out i1 h1
    cases e
    obtain ⟨b', o', e, hy⟩ := hsh.out i2 h2
    cases e
    have hx := hx.below hB1
    have hy := hy.below hB1
    exact ⟨by omega, ls, hx.lt, cf, cs, hx.h5, hx.h6, hy.h5, hy.h6⟩
  have HR := Lib.hid hR
  have HB1 := Lib.hid hB1
  have HC := Lib.hid (And.intro cf (And.intro cg (And.intro c0 (And.intro c1 (And.intro c2 (And.intro c3 ls))))))
  clear hR hB1 cf cg c0 c1 c2 c3 cs ls
  have hx := hst.out.each i1 h1
  have hy := hst.out.each i2 h2
  have hu := hst.out.rule
  have a0 : 0 ≤ spanA (sh i1) 2 ∧ spanA (sh i1) 2 ≤ 9999 := by have := hx.w0; have := hx.w1; have := hx.w2; simp only [spanA]; omega
  have a1 : 0 ≤ spanB (sh i1) 2 ∧ spanB (sh i1) 2 ≤ 9999 := by have := hx.w0; have := hx.w1; have := hx.w2; simp only [spanB]; omega
  have a2 : 0 ≤ spanA (sh i2) 2 ∧ spanA (sh i2) 2 ≤ 9999 := by have := hy.w0; have := hy.w1; have := hy.w2; simp only [spanA]; omega
  have a3 : 0 ≤ spanB (sh i2) 2 ∧ spanB (sh i2) 2 ≤ 9999 := by have := hy.w0; have := hy.w1; have := hy.w2; simp only [spanB]; omega
  generalize spanA (sh i1) 2 = x1 at *
  generalize spanB (sh i1) 2 = y1 at *
  generalize spanA (sh i2) 2 = x2 at *
  generalize spanB (sh i2) 2 = y2 at *
  obtain ⟨a0, a0'⟩ := a0
  obtain ⟨a1, a1'⟩ := a1
  obtain ⟨a2, a2'⟩ := a2
  obtain ⟨a3, a3'⟩ := a3
  clear hx hy hu
  refine wpIn_region_J (by kernel_rfl) near_back (J := NearJ W1 (stockV rs rl rw many (some ⟨b, o, none⟩) n c) (.agg #[.func (.func 65) #[] #[], .func (.func 66) #[] #[]]) W.heap.size (W.heap.size + 1) b o n c i1 i2 65 5 x1 y1 x2 y2) ?_ ?_ ?_
  · refine ⟨undef, undef, undef, undef, undef, undef, undef, undef, undef, undef, undef, undef, undef, undef, undef, undef, undef, undef, undef, undef, undef, undef, rfl, Below.drew (Below.refl _ _), ?_⟩
    refine ⟨?_, ?_, ?_, ?_, ?_, ?_, ?_, ?_, ?_, ?_, ?_, ?_, ?_, ?_, ?_, ?_, ?_, ?_, ?_, ?_, ?_, ?_, ?_, ?_, ?_⟩ <;> (intro h; exact absurd h (by decide))
  · intro listed a w i hJ hi
    have hlt : i < 24 := by
      obtain ⟨_, oo, h, _⟩ := mem_ready.1 hi
      exact (Array.getElem?_eq_some_iff.1 h).1
    have hfS : (65 = 61 ∧ 5 = 1) ∨ (65 = 63 ∧ 5 = 3) ∨ (65 = 65 ∧ 5 = 5) := by decide
    have hc : i = 0 ∨ i = 1 ∨ i = 2 ∨ i = 3 ∨ i = 4 ∨ i = 5 ∨ i = 6 ∨ i = 7 ∨ i = 8 ∨ i = 9 ∨ i = 10 ∨ i = 11 ∨ i = 12 ∨ i = 13 ∨ i = 14 ∨ i = 15 ∨ i = 16 ∨ i = 17 ∨ i = 18 ∨ i = 19 ∨ i = 20 ∨ i = 21 ∨ i = 22 ∨ i = 23 := by omega
    rcases hc with rfl | rfl | rfl | rfl | rfl | rfl | rfl | rfl | rfl | rfl | rfl | rfl | rfl | rfl | rfl | rfl | rfl | rfl | rfl | rfl | rfl | rfl | rfl | rfl
    · exact near_op0 _ _ _ _ _ _ _ _ _ _ _ _ _ _ _ _ _ HR hn h1 h2 hfS hJ hi
    · exact near_op1 _ _ _ _ _ _ _ _ _ _ _ _ _ _ _ _ _ HR hn h1 h2 hfS hJ hi
    · exact near_op2 _ _ _ _ _ _ _ _ _ _ _ _ _ _ _ _ _ HR hn h1 h2 hfS hJ hi
    · exact near_op3 _ _ _ _ _ _ _ _ _ _ _ _ _ _ _ _ _ HR hn h1 h2 hfS hJ hi
    · exact near_op4 _ _ _ _ _ _ _ _ _ _ _ _ _ _ _ _ _ HR hn h1 h2 hfS hJ hi
    · exact near_op5 _ _ _ _ _ _ _ _ _ _ _ _ _ _ _ _ _ HR hn h1 h2 hfS hJ hi
    · exact near_op6 _ _ _ _ _ _ _ _ _ _ _ _ _ _ _ _ _ HR hn h1 h2 hfS hJ hi
    · exact near_op7 _ _ _ _ _ _ _ _ _ _ _ _ _ _ _ _ _ HR hn h1 h2 hfS hJ hi
    · exact near_op8 _ _ _ _ _ _ _ _ _ _ _ _ _ _ _ _ _ HR hn h1 h2 hfS hJ hi
    · exact near_op9 _ _ _ _ _ _ _ _ _ _ _ _ _ _ _ _ _ HR hn h1 h2 hfS hJ hi
    · exact near_op10 _ _ _ _ _ _ _ _ _ _ _ _ _ _ _ _ _ HR hn h1 h2 hfS hJ hi
    · exact near_op11 _ _ _ _ _ _ _ _ _ _ _ _ _ _ _ _ _ HR hn h1 h2 hfS hJ hi
    · exact near_op12 _ _ _ _ _ _ _ _ _ _ _ _ _ _ _ _ _ HR hn h1 h2 hfS hJ hi
    · exact near_op13 _ _ _ _ _ _ _ _ _ _ _ _ _ _ _ _ _ HR hn h1 h2 hfS hJ hi
    · exact near_op14 _ _ _ _ _ _ _ _ _ _ _ _ _ _ _ _ _ HR hn h1 h2 hfS hJ hi
    · exact near_op15 _ _ _ _ _ _ _ _ _ _ _ _ _ _ _ _ _ HR hn h1 h2 hfS hJ hi
    · exact near_op16 _ _ _ _ _ _ _ _ _ _ _ _ _ _ _ _ _ HR hn h1 h2 hfS hJ hi
    · exact near_op17 _ _ _ _ _ _ _ _ _ _ _ _ _ _ _ _ _ HR hn h1 h2 hfS hJ hi
    · exact near_op18 _ _ _ _ _ _ _ _ _ _ _ _ _ _ _ _ _ HR hn h1 h2 hfS hJ hi
    · exact near_op19 _ _ _ _ _ _ _ _ _ _ _ _ _ _ _ _ _ HR hn h1 h2 hfS hJ hi
    · exact near_op20 _ _ _ _ _ _ _ _ _ _ _ _ _ _ _ _ _ HR hn h1 h2 hfS hJ hi
    · exact near_op21 _ _ _ _ _ _ _ _ _ _ _ _ _ _ _ _ _ HR hn h1 h2 hfS hJ hi
    · exact near_op22 _ _ _ _ _ _ _ _ _ _ _ _ _ _ _ _ _ HR hn h1 h2 hfS hJ hi
    · exact near_op23 _ _ _ _ _ _ _ _ _ _ _ _ _ _ _ _ _ HR hn h1 h2 hfS hJ hi
  · rintro listed a w ⟨x9, x10, x12, x13, x14, x15, x16, x17, x18, x19, x20, x21, x22, x23, x24, x25, x26, x27, x28, x29, x30, x31, rfl, hb, f0, f1, f2, f3, f4, f5, f6, f7, f8, f9, f10, f11, f12, f13, f14, f15, f16, f17, f18, f19, g20, g21, g2, _, _⟩ hall
    have hal : ∀ i, i < 24 → listed.getD i false = true := hall
    have e0 := f0 (hal 0 (by decide))
    subst e0
    have e1 := f1 (hal 1 (by decide))
    subst e1
    have e2 := f2 (hal 2 (by decide))
    subst e2
    have e3 := f3 (hal 3 (by decide))
    subst e3
    have e4 := f4 (hal 4 (by decide))
    subst e4
    have e5 := f5 (hal 5 (by decide))
    subst e5
    have e6 := f6 (hal 6 (by decide))
    subst e6
    have e7 := f7 (hal 7 (by decide))
    subst e7
    have e8 := f8 (hal 8 (by decide))
    subst e8
    have e9 := f9 (hal 9 (by decide))
    subst e9
    have e10 := f10 (hal 10 (by decide))
    subst e10
    have e11 := f11 (hal 11 (by decide))
    subst e11
    have e12 := f12 (hal 12 (by decide))
    subst e12
    have e13 := f13 (hal 13 (by decide))
    subst e13
    have e14 := f14 (hal 14 (by decide))
    subst e14
    have e15 := f15 (hal 15 (by decide))
    subst e15
    have e16 := f16 (hal 16 (by decide))
    subst e16
    have e17 := f17 (hal 17 (by decide))
    subst e17
    have e18 := f18 (hal 18 (by decide))
    subst e18
    have e19 := f19 (hal 19 (by decide))
    subst e19
    obtain ⟨p, u, v, e9, hp1, hp2, hp3⟩ := g20 (hal 20 (by decide))
    obtain ⟨q, u', v', e10, hq1, hq2, hq3⟩ := g21 (hal 21 (by decide))
    obtain ⟨rfl, rfl⟩ := hp3 (hal 22 (by decide))
    obtain ⟨rfl, rfl⟩ := hq3 (hal 23 (by decide))
    subst e9
    subst e10
    obtain ⟨cf, cg, c0, c1, c2, c3, ls⟩ := HC.out
    have cg := Below.old hb cg
    have c0 := Below.old hb c0
    have c1 := Below.old hb c1
    have c2 := Below.old hb c2
    have c3 := Below.old hb c3
    obtain ⟨p0, p1⟩ := hp2.cell
    obtain ⟨q0, q1⟩ := hq2.cell
    have lp := hp2.lt
    have lq := hq2.lt
    have lw : W.heap.size + 1 < w.heap.size := Nat.lt_of_lt_of_le ls hb.size
    have lw0 : W.heap.size < w.heap.size := by omega
    have HP := Lib.hid hp2
    have HQ := Lib.hid hq2
    clear cf hal hall g20 g21 g2 hp3 hq3 hp2 hq2 ls
    have HB := Lib.hid hb
    clear hb
    gi_wp2
    all_goals
      go_ret
      refine ⟨?_, ?_⟩
      · congr 2
        simp only [nearZ, allowOf, Int.max_def] at *
        repeat' split
        all_goals first | rfl | omega
      · exact (HB1.out.trans (HB.out.mono HB1.out.size)).alloc (Nat.le_trans HB1.out.size HB.out.size) _
end Go.Proofs.YtnehjneldpinmaaGreat
end
section
set_option linter.unusedVariables false
namespace Go.Proofs.YtnehjneldpinmaaGreat
open Go.RowKit
def nearOf (rs rl rw : Int) (x y : Shaft) (m : Nat) : Int := nearZ (allowOf rs rl rw m) (spanA x m) (spanB x m) (spanA y m) (spanB y m)
def upTo (rs rl rw : Int) (x y : Shaft) : Nat → Int
  | 0 => 1
  | m + 1 => bothZ (upTo rs rl rw x y m) (nearOf rs rl rw x y m)
def pairZ (rs rl rw : Int) (x y : Shaft) : Int := upTo rs rl rw x y 3
set_option maxHeartbeats 1000000 in
set_option maxRecDepth 100000 in
theorem matchTwo_any (rs rl rw many : Int) (b o n c i1 i2 : Nat) (sh : Nat → Shaft) (W : World) (h1 : i1 < n) (h2 : i2 < n) (hn : n ≤ 9) (hst : Hid (StockOk rs rl rw many n sh)) (hsh : Hid (ShaftsAt W (some ⟨b, o, none⟩) n sh)) :
    CallsIn Fc 0 Tryz.prog 57 #[stockV rs rl rw many (some ⟨b, o, none⟩) n c, .int .i64 i1, .int .i64 i2] W (SaysNear (pairZ rs rl rw (sh i1) (sh i2)) W) := by
  gi_enter Tryz.func57, Tryz.ntmps57
  gi_wp2_with (gi_at_call 34; refine (measures_any _).mono ?_; rintro e w' ⟨rfl, rfl⟩)
  gi_loopw [7, 12] (fun sv i wr => ∃ k : Nat, k ≤ 3 ∧ i = .int .i64 k ∧ sv = .int .i64 (upTo rs rl rw (sh i1) (sh i2) k) ∧
      Below (W.heap.size + 2) ((W.alloc (.cells #[.int .i64 rs, .int .i64 rl, .int .i64 rw, .int .i64 many, .slice (some ⟨b, o, none⟩) n c] 74)).alloc (.cells measuresV 94)) wr) (fun _ i _ => 3 - (intOf i).toNat)
  case atStart => exact ⟨0, by omega, rfl, rfl, Below.refl _ _⟩
  case round =>
    obtain ⟨k, hk, rfl, rfl, hb⟩ := hrel
    have c0 : wr.cell? ⟨W.heap.size, 0, none⟩ = some (.int .i64 rs) := by rw [hb.cell (by simp)]; go_simp
    have c1 : wr.cell? ⟨W.heap.size, 1, none⟩ = some (.int .i64 rl) := by rw [hb.cell (by simp)]; go_simp
    have c2 : wr.cell? ⟨W.heap.size, 2, none⟩ = some (.int .i64 rw) := by rw [hb.cell (by simp)]; go_simp
    have c3 : wr.cell? ⟨W.heap.size, 3, none⟩ = some (.int .i64 many) := by rw [hb.cell (by simp)]; go_simp
    have c4 : wr.cell? ⟨W.heap.size, 4, none⟩ = some (.slice (some ⟨b, o, none⟩) n c) := by rw [hb.cell (by simp)]; go_simp
    have m0 : wr.cell? ⟨W.heap.size + 1, 0, none⟩ = some (.func (.func 61) #[] #[]) := by rw [hb.cell (by simp)]; simp [measuresV]
    have m1 : wr.cell? ⟨W.heap.size + 1, 1, none⟩ = some (.func (.func 62) #[] #[]) := by rw [hb.cell (by simp)]; simp [measuresV]
    have m2 : wr.cell? ⟨W.heap.size + 1, 2, none⟩ = some (.func (.func 63) #[] #[]) := by rw [hb.cell (by simp)]; simp [measuresV]
    have m3 : wr.cell? ⟨W.heap.size + 1, 3, none⟩ = some (.func (.func 64) #[] #[]) := by rw [hb.cell (by simp)]; simp [measuresV]
    have m4 : wr.cell? ⟨W.heap.size + 1, 4, none⟩ = some (.func (.func 65) #[] #[]) := by rw [hb.cell (by simp)]; simp [measuresV]
    have m5 : wr.cell? ⟨W.heap.size + 1, 5, none⟩ = some (.func (.func 66) #[] #[]) := by rw [hb.cell (by simp)]; simp [measuresV]
    have hz1 : W.heap.size + 1 < wr.heap.size := by have := hb.size; simp at this; omega
    have hz0 : W.heap.size < wr.heap.size := by omega
    have hBW : Below W.heap.size W wr := (((Below.refl W.heap.size W).alloc (Nat.le_refl _) _).alloc (by simp) _).trans (hb.mono (by omega))
    have HS := Lib.hid (hsh.out.below hBW)
    have HB := Lib.hid hb
    have HBW := Lib.hid hBW
    clear hb hBW
    by_cases hlt : k < 3
    · have h3 : k = 0 ∨ k = 1 ∨ k = 2 := by omega
      rcases h3 with rfl | rfl | rfl
      · gi_wp2_with (first
          | (gi_at_call 35; refine (near_any0 rs rl rw many b o n c i1 i2 sh _ h1 h2 hn hst (Lib.hid (HS.out.below ((Below.refl _ _).alloc (Nat.le_refl _) _)))).mono ?_; rintro e w2 ⟨rfl, hb2⟩)
          | (gi_at_call 58; refine (both_any _ _ _).mono ?_; rintro e w' ⟨rfl, rfl⟩))
        have hs2 := hb2.size
        simp at hs2
        go_roundw
        case rel => exact ⟨0 + 1, by omega, by first | rfl | go_num, rfl, (HB.out.alloc (by omega) _).trans (hb2.mono (by simp; omega))⟩
        case measure => simp [intOf]
      · gi_wp2_with (first
          | (gi_at_call 35; refine (near_any1 rs rl rw many b o n c i1 i2 sh _ h1 h2 hn hst (Lib.hid (HS.out.below ((Below.refl _ _).alloc (Nat.le_refl _) _)))).mono ?_; rintro e w2 ⟨rfl, hb2⟩)
          | (gi_at_call 58; refine (both_any _ _ _).mono ?_; rintro e w' ⟨rfl, rfl⟩))
        have hs2 := hb2.size
        simp at hs2
        go_roundw
        case rel => exact ⟨1 + 1, by omega, by first | rfl | go_num, rfl, (HB.out.alloc (by omega) _).trans (hb2.mono (by simp; omega))⟩
        case measure => simp [intOf]
      · gi_wp2_with (first
          | (gi_at_call 35; refine (near_any2 rs rl rw many b o n c i1 i2 sh _ h1 h2 hn hst (Lib.hid (HS.out.below ((Below.refl _ _).alloc (Nat.le_refl _) _)))).mono ?_; rintro e w2 ⟨rfl, hb2⟩)
          | (gi_at_call 58; refine (both_any _ _ _).mono ?_; rintro e w' ⟨rfl, rfl⟩))
        have hs2 := hb2.size
        simp at hs2
        go_roundw
        case rel => exact ⟨2 + 1, by omega, by first | rfl | go_num, rfl, (HB.out.alloc (by omega) _).trans (hb2.mono (by simp; omega))⟩
        case measure => simp [intOf]
    · obtain rfl : k = 3 := by omega
      gi_wp2
      go_ret
      exact ⟨rfl, HBW.out⟩
end Go.Proofs.YtnehjneldpinmaaGreat
end
section
set_option linter.unusedVariables false
namespace Go.Proofs.YtnehjneldpinmaaGreat
open Go.RowKit
def ckAt (rs rl rw many : Int) (A : Option Addr) (n c : Nat) (P : Nat → Int) : Nat → Value
  | 0 => .int .i64 rs
  | 1 => .int .i64 rl
  | 2 => .int .i64 rw
  | 3 => .int .i64 many
  | 4 => .slice A n c
  | i + 5 => .int .i64 (P i)
def ckCells (rs rl rw many : Int) (A : Option Addr) (n c : Nat) (P : Nat → Int) : Array Value := Array.ofFn (n := 86) fun i => ckAt rs rl rw many A n c P i.val
theorem build81 (rs rl rw many : Int) (A : Option Addr) (n c : Nat) (w : World) : (Instr.build 81 #[(0, stockV rs rl rw many A n c)]).run Tryz.prog w = .ok (.agg (ckCells rs rl rw many A n c fun _ => 0)) w := by kernel_rfl
theorem zero81 (w : World) : (Instr.alloc 81 true (.tuple #[])).run Tryz.prog w = .ok (.pointer (some ⟨w.heap.size, 0, none⟩)) (w.alloc (.cells Tryz.zeroCells81 81)) := by kernel_rfl
theorem i81 : (Tryz.prog.info? 81).map (·.size) = some 86 := by kernel_rfl
theorem zc81 : Tryz.zeroCells81.size = 86 := by kernel_rfl
theorem ck_size (rs rl rw many : Int) (A : Option Addr) (n c : Nat) (P : Nat → Int) : (ckCells rs rl rw many A n c P).size = 86 := by simp [ckCells]
theorem ck_get {rs rl rw many : Int} {A : Option Addr} {n c : Nat} {P : Nat → Int} {i : Nat} (h : i < 86) : (ckCells rs rl rw many A n c P)[i]? = some (ckAt rs rl rw many A n c P i) := by
  simp [ckCells, h]
theorem ck_one (rs rl rw many : Int) (A : Option Addr) (n c : Nat) (P : Nat → Int) (i : Nat) : (ckAt rs rl rw many A n c P i).oneCell' = true := by
  unfold ckAt; split <;> rfl
theorem ck_set {rs rl rw many : Int} {A : Option Addr} {n c : Nat} {P : Nat → Int} {i : Nat} (x : Int) : (ckCells rs rl rw many A n c P).setIfInBounds (5 + i) (.int .i64 x) = ckCells rs rl rw many A n c (fun j => if j = i then x else P j) := by
  apply Array.ext_getElem?
  intro j
  rw [Array.getElem?_setIfInBounds, ck_size]
  rcases Nat.lt_or_ge j 86 with hj | hj
  · rw [ck_get hj, ck_get hj]
    by_cases e : 5 + i = j
    · subst e
      rw [if_pos rfl, if_pos hj]
      rw [Nat.add_comm]
      show _ = some (ckAt rs rl rw many A n c _ (i + 5))
      simp only [ckAt, if_true]
    · rw [if_neg e]
      match j, e with
      | 0, _ => rfl
      | 1, _ => rfl
      | 2, _ => rfl
      | 3, _ => rfl
      | 4, _ => rfl
      | j + 5, e => simp only [ckAt]; rw [if_neg (by omega)]
  · rw [Array.getElem?_eq_none (by rw [ck_size]; exact hj), Array.getElem?_eq_none (by rw [ck_size]; exact hj)]
    by_cases e : 5 + i = j
    · rw [if_pos e, if_neg (by omega)]
    · rw [if_neg e]
section
variable {ops : Array Oper} {rest : List Oper} {o : Oper} {a : Act} {w : World} {Q : Exit → Act → World → Prop}
theorem wpListIn_run {v : Value} {w' : World} (hg : o.guard = none) (hc : ∀ c, o.op ≠ .call c) (hd : ∀ c, o.op ≠ .defer c) (hr : (execOp a.eval o).run Tryz.prog w = .ok (.value v) w') (h : wpListIn Fc 0 Tryz.prog ops Q rest (a.put o.dst v) w') : wpListIn Fc 0 Tryz.prog ops Q (o :: rest) a w := by
  refine wpListIn_plain hg fun K hK => ?_
  unfold Oper.wpIn
  refine ⟨?_, ?_⟩
  · intro f hf
    unfold Oper.about at hf
    split at hf
    · next c hc' => exact absurd hc' (hc c)
    · cases hf
  · rw [Oper.semAt_plain Fc _ _ hd, hr]
    exact hK _ _ h
theorem wpListIn_skip {w' : World} (hg : o.guard = none) (hc : ∀ c, o.op ≠ .call c) (hd : ∀ c, o.op ≠ .defer c) (hr : (execOp a.eval o).run Tryz.prog w = .ok .skip w') (h : wpListIn Fc 0 Tryz.prog ops Q rest (a.put o.dst undef) w') : wpListIn Fc 0 Tryz.prog ops Q (o :: rest) a w := by
  refine wpListIn_plain hg fun K hK => ?_
  unfold Oper.wpIn
  refine ⟨?_, ?_⟩
  · intro f hf
    unfold Oper.about at hf
    split at hf
    · next c hc' => exact absurd hc' (hc c)
    · cases hf
  · rw [Oper.semAt_plain Fc _ _ hd, hr]
    exact hK _ _ h
theorem wpListIn_alloc81 (hg : o.guard = none) (hop : o.op = .alloc 81) (h : wpListIn Fc 0 Tryz.prog ops Q rest (a.put o.dst (.pointer (some ⟨w.heap.size, 0, none⟩))) (w.alloc (.cells Tryz.zeroCells81 81))) : wpListIn Fc 0 Tryz.prog ops Q (o :: rest) a w := by
  refine wpListIn_run hg (by rw [hop]; intro c e; cases e) (by rw [hop]; intro c e; cases e) ?_ h
  unfold execOp
  rw [hop]
  show (do pure (.value (← Instr.alloc 81 true (.tuple #[]))) : Sem Next).run Tryz.prog w = _
  rw [Sem.run_bind, zero81]
  rfl
theorem wpListIn_build81 (hg : o.guard = none) (x : Operand) (hop : o.op = .build 81 #[(0, x)]) (rs rl rw many : Int) (A : Option Addr) (n c : Nat) (hx : a.eval x = stockV rs rl rw many A n c)
    (h : wpListIn Fc 0 Tryz.prog ops Q rest (a.put o.dst (.agg (ckCells rs rl rw many A n c fun _ => 0))) w) : wpListIn Fc 0 Tryz.prog ops Q (o :: rest) a w := by
  refine wpListIn_run hg (by rw [hop]; intro c e; cases e) (by rw [hop]; intro c e; cases e) ?_ h
  unfold execOp
  rw [hop]
  have e : (Instr.build 81 (#[(0, x)].map fun ((i, x) : Nat × Operand) => (i, a.eval x))).run Tryz.prog w = .ok (.agg (ckCells rs rl rw many A n c fun _ => 0)) w := by
    have e1 : (#[(0, x)].map fun ((i, x) : Nat × Operand) => (i, a.eval x)) = #[(0, stockV rs rl rw many A n c)] := by rw [← hx]; simp
    rw [e1]
    exact build81 rs rl rw many A n c w
  simp only [Sem.run_bind, e]
  rfl
set_option maxRecDepth 100000 in
theorem wpListIn_store81 (hg : o.guard = none) (p x : Operand) (hop : o.op = .store 81 p x) (g : Nat) (cells old : Array Value) (hp : a.eval p = .pointer (some ⟨g, 0, none⟩)) (hx : a.eval x = .agg cells) (hb : w.heap[g]? = some (.cells old 81 (0, 0))) (ho : old.size = 86) (hs : cells.size = 86) (h1 : cells.all (·.oneCell') = true)
    (h : ∀ w', w.grownBy w' (some g) → w'.heap[g]? = some (.cells cells 81 (0, 0)) → wpListIn Fc 0 Tryz.prog ops Q rest (a.put o.dst undef) w') : wpListIn Fc 0 Tryz.prog ops Q (o :: rest) a w := by
  have hgr : w.grownBy (w.setRow g cells) (some g) := by
    refine ⟨rfl, rfl, rfl, by simp [World.setRow], fun k hk hne => ?_⟩
    simp only [World.setRow, Array.getElem?_modify]
    rw [if_neg (fun e => hne (by rw [e]))]
  have hbl := setRow_heap w g old cells 81 (0, 0) hb
  have hrun : (storeVar 81 ⟨g, 0, none⟩ (.agg cells)).run Tryz.prog w = .ok () (w.setRow g cells) := run_storeVar_row w g 81 81 old cells hb (by rw [i81, hs]) (by rw [ho, hs]) h1
  generalize w.setRow g cells = w1 at *
  have h2 := h w1 hgr hbl
  refine wpListIn_skip (w' := w1) hg (by rw [hop]; intro c e; cases e) (by rw [hop]; intro c e; cases e) ?_ h2
  · unfold execOp
    rw [hop]
    show (do Instr.storeAt 81 (a.eval p) (a.eval x); pure .skip : Sem Next).run Tryz.prog w = _
    have e : (Instr.storeAt 81 (a.eval p) (a.eval x)).run Tryz.prog w = .ok () w1 := by
      rw [hp, hx]
      exact hrun
    rw [Sem.run_bind, e]
    rfl
theorem u81 : (match Tryz.prog.underlying 81 with | some (.struct _) => true | _ => false) = true := by kernel_rfl
theorem load81 (w : World) (g : Nat) (cs : Array Value) (hb : w.heap[g]? = some (.cells cs 81 (0, 0))) (hs : cs.size = 86) : (loadVar 81 ⟨g, 0, none⟩).run Tryz.prog w = .ok (.agg cs) w := by
  have h := u81
  split at h
  · next fs hu => exact run_loadVar_row w g 81 81 cs (0, 0) (.struct fs) hb hu rfl (by rw [i81, hs])
  · cases h
theorem wpListIn_load81 (hg : o.guard = none) (p : Operand) (hop : o.op = .load 81 p) (g : Nat) (cells : Array Value) (hp : a.eval p = .pointer (some ⟨g, 0, none⟩)) (hb : w.heap[g]? = some (.cells cells 81 (0, 0))) (hs : cells.size = 86)
    (h : wpListIn Fc 0 Tryz.prog ops Q rest (a.put o.dst (.agg cells)) w) : wpListIn Fc 0 Tryz.prog ops Q (o :: rest) a w := by
  refine wpListIn_run hg (by rw [hop]; intro c e; cases e) (by rw [hop]; intro c e; cases e) ?_ h
  unfold execOp
  rw [hop]
  show (do pure (.value (← Instr.loadAt 81 (a.eval p))) : Sem Next).run Tryz.prog w = _
  have e : (Instr.loadAt 81 (a.eval p)).run Tryz.prog w = .ok (.agg cells) w := by
    rw [hp]
    exact load81 w g cells hb hs
  rw [Sem.run_bind, e]
  rfl
end
end Go.Proofs.YtnehjneldpinmaaGreat
end
section
set_option linter.unusedVariables false
namespace Go.Proofs.YtnehjneldpinmaaGreat
open Go.RowKit
def CkInv (W : World) (rs rl rw many : Int) (A : Option Addr) (n c : Nat) (sh : Nat → Shaft) (kt ko : Nat) (wr : World) : Prop :=
  Below W.heap.size W wr ∧ wr.heap[W.heap.size + 1]? = some (.cells Tryz.zeroCells81 81 (0, 0)) ∧
  ∃ P : Nat → Int, wr.heap[W.heap.size + 2]? = some (.cells (ckCells rs rl rw many A n c P) 81 (0, 0)) ∧ ∀ two one, one < two → (two < kt ∨ (two = kt ∧ one < ko)) → P (one * 9 + two) = pairZ rs rl rw (sh one) (sh two)
theorem ck_cell {w : World} {g : Nat} {rs rl rw many : Int} {A : Option Addr} {n c : Nat} {P : Nat → Int} (h : w.heap[g]? = some (.cells (ckCells rs rl rw many A n c P) 81 (0, 0))) {i : Nat} (hi : i < 86) : w.cell? ⟨g, i, none⟩ = some (ckAt rs rl rw many A n c P i) := by
  simp only [World.cell?, h, Option.isSome_none, Bool.false_eq_true, if_false]
  exact ck_get hi
theorem zset (rs rl rw many : Int) (A : Option Addr) (n c : Nat) : (((((Tryz.zeroCells81.setIfInBounds 0 (.int .i64 rs)).setIfInBounds 1 (.int .i64 rl)).setIfInBounds 2 (.int .i64 rw)).setIfInBounds 3 (.int .i64 many)).setIfInBounds 4 (.slice A n c)) = ckCells rs rl rw many A n c fun _ => 0 := by kernel_rfl
theorem ck_all (rs rl rw many : Int) (A : Option Addr) (n c : Nat) (P : Nat → Int) : (ckCells rs rl rw many A n c P).all (·.oneCell') = true := by
  rw [Array.all_eq_true]
  intro i h
  rw [ck_size] at h
  have h1 := ck_get (rs := rs) (rl := rl) (rw := rw) (many := many) (A := A) (n := n) (c := c) (P := P) h
  rw [Array.getElem?_eq_getElem (by rw [ck_size]; exact h)] at h1
  rw [Option.some.inj h1]
  exact ck_one _ _ _ _ _ _ _ _ _
theorem ck_frozen {w : World} {g : Nat} {cs : Array Value} (h : w.heap[g]? = some (.cells cs 81 (0, 0))) (i : Nat) : w.frozen? ⟨g, i, none⟩ = false := by simp [World.frozen?, h]
theorem ck_ready {w w' : World} {g : Nat} {rs rl rw many : Int} {A : Option Addr} {n c : Nat} {P : Nat → Int} (h : w.heap[g]? = some (.cells (ckCells rs rl rw many A n c P) 81 (0, 0))) (hb : Below w.heap.size w w') {i : Nat} (hi : 5 + i < 86) :
    w'.cell? ⟨g, 5 + i, none⟩ = some (.int .i64 (P i)) ∧ w'.frozen? ⟨g, 5 + i, none⟩ = false ∧ w'.heap[g]? = some (.cells (ckCells rs rl rw many A n c P) 81 (0, 0)) := by
  have hl : g < w.heap.size := (Array.getElem?_eq_some_iff.1 h).1
  have h' : w'.heap[g]? = some (.cells (ckCells rs rl rw many A n c P) 81 (0, 0)) := by rw [hb.block g hl]; exact h
  refine ⟨?_, ck_frozen h' _, h'⟩
  rw [ck_cell h' hi, Nat.add_comm 5 i]
  rfl
theorem CkInv.step {W wr w5 : World} {rs rl rw many : Int} {A : Option Addr} {n c : Nat} {sh : Nat → Shaft} {k j : Nat} (hI : CkInv W rs rl rw many A n c sh k j wr) (hb : Below wr.drew.heap.size wr.drew w5) (hj : j < k) (hk : k < 9) :
    CkInv W rs rl rw many A n c sh k (j + 1) (w5.setCell ⟨W.heap.size + 1 + 1, 5 + j * 9 + k, none⟩ (.int .i64 (pairZ rs rl rw (sh j) (sh k)))) := by
  obtain ⟨hB, h1, P, h2, h3⟩ := hI
  have hl1 : W.heap.size + 1 < wr.heap.size := (Array.getElem?_eq_some_iff.1 h1).1
  have hl2 : W.heap.size + 2 < wr.heap.size := (Array.getElem?_eq_some_iff.1 h2).1
  have h5 : w5.heap[W.heap.size + 2]? = some (.cells (ckCells rs rl rw many A n c P) 81 (0, 0)) := by rw [hb.block _ hl2]; exact h2
  have h4 : w5.heap[W.heap.size + 1]? = some (.cells Tryz.zeroCells81 81 (0, 0)) := by rw [hb.block _ hl1]; exact h1
  refine ⟨(hB.drew.trans (hb.mono hB.size)).setCell (by show W.heap.size ≤ W.heap.size + 1 + 1; omega) _, ?_, fun i => if i = j * 9 + k then pairZ rs rl rw (sh j) (sh k) else P i, ?_, ?_⟩
  · rw [Below.heap_setCell _ _ _ _ (by show W.heap.size + 1 ≠ W.heap.size + 1 + 1; omega)]
    exact h4
  · simp only [World.setCell, Array.getElem?_modify]
    rw [if_pos trivial, h5]
    simp only [Option.map_some, Option.isSome_none, Bool.false_eq_true, if_false]
    rw [Nat.add_assoc, ck_set]
  · intro two one h6 h7
    show (if one * 9 + two = j * 9 + k then pairZ rs rl rw (sh j) (sh k) else P (one * 9 + two)) = _
    by_cases e : one * 9 + two = j * 9 + k
    · rw [if_pos e]
      have e1 : one = j := by omega
      have e2 : two = k := by omega
      rw [e1, e2]
    · rw [if_neg e]
      refine h3 two one h6 ?_
      rcases h7 with h7 | ⟨h7, h8⟩
      · exact .inl h7
      · refine .inr ⟨h7, ?_⟩
        rcases Nat.lt_succ_iff_lt_or_eq.1 h8 with h9 | h9
        · exact h9
        · subst h9; subst h7; exact absurd rfl e
theorem results_ck {fn : Func} {tmps : Array Value} {w : World} {g : Nat} {cs : Array Value} (h : fn.results = #[.cell 2 81]) (ht : tmps.getD 2 undef = .pointer (some ⟨g, 0, none⟩)) (hb : w.heap[g]? = some (.cells cs 81 (0, 0))) (hs : cs.size = 86) :
    (results fn tmps).run Tryz.prog w = .ok (.agg cs) w := by
  have e := load81 w g cs hb hs
  have ht' : tmps[2]?.getD undef = .pointer (some ⟨g, 0, none⟩) := by rw [← ht, Array.getD_eq_getD_getElem?]
  unfold results
  rw [h]
  simp [ht', asAddr, e]
def HandsChecked (W : World) (rs rl rw many : Int) (A : Option Addr) (n c : Nat) (sh : Nat → Shaft) (e : Ending) (w' : World) : Prop :=
  ∃ P : Nat → Int, e = .returned (.agg (ckCells rs rl rw many A n c P)) ∧ (∀ two one, one < two → two < n → P (one * 9 + two) = pairZ rs rl rw (sh one) (sh two)) ∧ Below W.heap.size W w'
set_option maxHeartbeats 1000000 in
set_option maxRecDepth 100000 in
theorem checked_any (rs rl rw many : Int) (A : Option Addr) (n c : Nat) (sh : Nat → Shaft) (W : World) (hst : Hid (StockOk rs rl rw many n sh)) (hsh : Hid (ShaftsAt W A n sh)) :
    CallsIn Fc 0 Tryz.prog 29 #[stockV rs rl rw many A n c] W (HandsChecked W rs rl rw many A n c sh) := by
  have hn := hst.out.count
  have hsz : ∀ a b : Obj, ((W.alloc a).alloc b).heap.size = W.heap.size + 1 + 1 := fun a b => by simp
  have HSZ := Lib.hid hsz
  clear hsz
  gi_enter Tryz.func29, Tryz.ntmps29
  gi_wp2_with (first
    | (refine wpListIn_alloc81 rfl rfl ?_)
    | (refine wpListIn_store81 rfl _ _ rfl _ _ Tryz.zeroCells81 rfl rfl (heap_new' (by simp)) zc81 (by rw [zset]; exact ck_size _ _ _ _ _ _ _ _) (by rw [zset]; exact ck_all _ _ _ _ _ _ _ _) ?_; intro w4 hg4 hb4; rw [zset, HSZ.out] at hb4; rw [HSZ.out] at hg4; have c4 : w4.cell? ⟨W.heap.size + 1 + 1, 4, none⟩ = some (.slice A n c) := ck_cell hb4 (by decide); have HB4 := Lib.hid hb4; have HG4 := Lib.hid hg4; clear hb4 hg4))
  have hinv : CkInv W rs rl rw many A n c sh 0 0 w4 := by
    refine ⟨((((Below.refl W.heap.size W).alloc (Nat.le_refl _) _).alloc (by simp) _).alloc (by simp; omega) _).grown HG4.out (by simp; omega) (fun k e => by cases e; omega), ?_, fun _ => 0, HB4.out, fun two one h1 h2 => by omega⟩
    rw [HG4.out.block (W.heap.size + 1) (by simp) (by simp)]
    exact heap_old (heap_new' (by simp))
  have HI0 := Lib.hid hinv
  clear hinv c4
  gi_loopw [13] (fun i wr => ∃ k : Nat, k ≤ n ∧ i = .int .i64 k ∧ CkInv W rs rl rw many A n c sh k 0 wr) (fun i _ => n - (intOf i).toNat)
  case atStart => exact ⟨0, by omega, rfl, HI0.out⟩
  case round =>
    obtain ⟨k, hk, rfl, hinv⟩ := hrel
    have HI := Lib.hid hinv
    clear hinv
    by_cases hlt : k < n
    · obtain ⟨b, o, rfl, _⟩ := hsh.out k hlt
      gi_wp2
      gi_loopw [17] (fun i wi => ∃ j : Nat, j ≤ k ∧ i = .int .i64 j ∧ CkInv W rs rl rw many (some ⟨b, o, none⟩) n c sh k j wi) (fun i _ => k - (intOf i).toNat)
      case atStart => exact ⟨0, by omega, rfl, HI.out⟩
      case round =>
        obtain ⟨j, hj, rfl, hinv⟩ := hrel
        by_cases hlj : j < k
        · have HINV := Lib.hid hinv
          obtain ⟨hB, h1, P, h2, h3⟩ := hinv
          have d0 : wr.cell? ⟨W.heap.size + 1 + 1, 0, none⟩ = some (.int .i64 rs) := ck_cell h2 (by decide)
          have d1 : wr.cell? ⟨W.heap.size + 1 + 1, 1, none⟩ = some (.int .i64 rl) := ck_cell h2 (by decide)
          have d2 : wr.cell? ⟨W.heap.size + 1 + 1, 2, none⟩ = some (.int .i64 rw) := ck_cell h2 (by decide)
          have d3 : wr.cell? ⟨W.heap.size + 1 + 1, 3, none⟩ = some (.int .i64 many) := ck_cell h2 (by decide)
          have d4 : wr.cell? ⟨W.heap.size + 1 + 1, 4, none⟩ = some (.slice (some ⟨b, o, none⟩) n c) := ck_cell h2 (by decide)
          have HB := Lib.hid hB
          have H1 := Lib.hid h1
          have H2 := Lib.hid h2
          have H3 := Lib.hid h3
          clear hB h1 h2 h3
          gi_wp2
          gi_region_with (gi_at_call 57; refine (matchTwo_any rs rl rw many b o n c j k sh _ (by omega) (by omega) (by omega) hst (Lib.hid (hsh.out.below HB.out.drew))).mono ?_; rintro e w5 ⟨rfl, hb5⟩; obtain ⟨f5, g5, h5⟩ := ck_ready (w := wr.drew) H2.out hb5 (i := j * 9 + k) (by omega); rw [← Nat.add_assoc] at f5 g5; have H5 := Lib.hid h5; have B5 := Lib.hid hb5; clear h5 hb5)
          all_goals
            gi_wp2
            go_roundw
            case rel => exact ⟨j + 1, by omega, by go_num, HINV.out.step B5.out hlj (by omega)⟩
            case measure => simp [intOf]; omega
        · obtain rfl : j = k := by omega
          have HJ := Lib.hid hinv
          clear hinv
          gi_wp2
          go_roundw
          case rel =>
            obtain ⟨hB, h1, P, h2, h3⟩ := HJ.out
            exact ⟨j + 1, by omega, by go_num, hB, h1, P, h2, fun two one h4 h5 => h3 two one h4 (by omega)⟩
          case measure => simp [intOf]; omega
    · obtain ⟨hB, h1, P, h2, h3⟩ := HI.out
      gi_wp2_with (first
        | (refine wpListIn_load81 rfl _ rfl _ _ rfl h2 (ck_size _ _ _ _ _ _ _ _) ?_)
        | (refine wpListIn_store81 rfl _ _ rfl _ _ Tryz.zeroCells81 rfl rfl h1 zc81 (ck_size _ _ _ _ _ _ _ _) (ck_all _ _ _ _ _ _ _ _) ?_; intro w6 hg6 hb6))
      refine bodyPost_ret (v := .agg (ckCells rs rl rw many A n c P)) (results_ck rfl rfl hb6 (ck_size _ _ _ _ _ _ _ _)) rfl ?_
      obtain rfl : k = n := by omega
      exact ⟨P, rfl, fun two one h4 h5 => h3 two one h4 (.inl h5), hB.grown hg6 hB.size (fun j e => by cases e; omega)⟩
end Go.Proofs.YtnehjneldpinmaaGreat
end
section
set_option linter.unusedVariables false
namespace Go.Proofs.YtnehjneldpinmaaGreat
open Go.RowKit
def rowZ (T : Nat → Nat → Int) (l : Nat → Nat) (i : Nat) : Nat → Int → Int
  | 0, s => s
  | j + 1, s => bothZ (rowZ T l i j s) (T (l j) (l i))
def listZ (T : Nat → Nat → Int) (l : Nat → Nat) : Nat → Int
  | 0 => 1
  | i + 1 => rowZ T l i i (listZ T l i)
set_option maxHeartbeats 1000000 in
set_option maxRecDepth 100000 in
theorem match_any (rs rl rw many : Int) (A : Option Addr) (n c : Nat) (P : Nat → Int) (LA : Option Addr) (m lc : Nat) (l : Nat → Nat) (W : World) (hm : m ≤ 9) (hmc : m ≤ lc) (hl : Hid (∀ k, k < m → l k < 9)) (hi : Hid (IntsAt W LA m fun k => (l k : Int))) :
    CallsIn Fc 0 Tryz.prog 30 #[.agg (ckCells rs rl rw many A n c P), .slice LA m lc] W (SaysNear (listZ (fun one two => P (one * 9 + two)) l m) W) := by
  gi_enter Tryz.func30, Tryz.ntmps30
  gi_wp2
  gi_loopw [5, 12] (fun sv i wr => ∃ k : Nat, k ≤ m ∧ i = .int .i64 k ∧ sv = .int .i64 (listZ (fun one two => P (one * 9 + two)) l k) ∧ wr = W.alloc (.cells (ckCells rs rl rw many A n c P) 81)) (fun _ i _ => m - (intOf i).toNat)
  case atStart => exact ⟨0, by omega, rfl, rfl, rfl⟩
  case round =>
    obtain ⟨k, hk, rfl, rfl, rfl⟩ := hrel
    by_cases hlt : k < m
    · obtain ⟨b, o, rfl, hc⟩ := hi.out k hlt
      have hlb : b < W.heap.size := World.block_lt_of_cell? W _ hc
      have HC := Lib.hid hc
      have hkc : k ≤ lc := by omega
      have hlk := hl.out k hlt
      gi_wp2
      gi_loopw [5, 21] (fun sv i wi => ∃ j : Nat, j ≤ k ∧ i = .int .i64 j ∧ sv = .int .i64 (rowZ (fun one two => P (one * 9 + two)) l k j (listZ (fun one two => P (one * 9 + two)) l k)) ∧ wi = W.alloc (.cells (ckCells rs rl rw many A n c P) 81)) (fun _ i _ => k - (intOf i).toNat)
      case atStart => exact ⟨0, by omega, rfl, rfl, rfl⟩
      case round =>
        obtain ⟨j, hj, rfl, rfl, rfl⟩ := hrel
        by_cases hlj : j < k
        · obtain ⟨b', o', e, hcj⟩ := hi.out j (by omega)
          cases e
          have hlj' := hl.out j (by omega)
          have hg : (W.alloc (.cells (ckCells rs rl rw many A n c P) 81)).cell? ⟨W.heap.size, 5 + l j * 9 + l k, none⟩ = some (.int .i64 (P (l j * 9 + l k))) := by
            rw [Nat.add_assoc, ck_cell (heap_new _ _) (by omega), Nat.add_comm 5]
            rfl
          gi_wp2_with (gi_at_call 58; refine (both_any _ _ _).mono ?_; rintro e w' ⟨rfl, rfl⟩)
          go_roundw
          case rel => exact ⟨j + 1, by omega, by go_num, rfl, trivial⟩
          case measure => simp [intOf]; omega
        · obtain rfl : j = k := by omega
          gi_wp2
          go_roundw
          case rel => exact ⟨j + 1, by omega, by go_num, rfl, trivial⟩
          case measure => simp [intOf]; omega
    · gi_wp2
      go_ret
      obtain rfl : k = m := by omega
      exact ⟨rfl, (Below.refl _ _).alloc (Nat.le_refl _) _⟩
end Go.Proofs.YtnehjneldpinmaaGreat
end
section
set_option linter.unusedVariables false
namespace Go.Proofs.YtnehjneldpinmaaGreat
open Go.RowKit
def matchZ (rs rl rw : Int) (sh : Nat → Shaft) (l : Nat → Nat) (m : Nat) : Int := listZ (fun one two => pairZ rs rl rw (sh one) (sh two)) l m
theorem rowZ_congr {T U : Nat → Nat → Int} {l : Nat → Nat} {i : Nat} : ∀ (j : Nat) (s : Int), (∀ k, k < j → T (l k) (l i) = U (l k) (l i)) → rowZ T l i j s = rowZ U l i j s
  | 0, s, _ => rfl
  | j + 1, s, h => by
    simp only [rowZ]
    rw [rowZ_congr j s (fun k hk => h k (by omega)), h j (by omega)]
theorem listZ_congr {T U : Nat → Nat → Int} {l : Nat → Nat} : ∀ (m : Nat), (∀ j i, j < i → i < m → T (l j) (l i) = U (l j) (l i)) → listZ T l m = listZ U l m
  | 0, _ => rfl
  | m + 1, h => by
    simp only [listZ]
    rw [listZ_congr m (fun j i h1 h2 => h j i h1 (by omega)), rowZ_congr m _ (fun k hk => h k m hk (by omega))]
def SaysMatch (v : Int) (w : World) (e : Ending) (w' : World) : Prop := e = .returned (.tuple #[.int .i64 v, .int .i64 0]) ∧ Below w.heap.size w w'
set_option maxHeartbeats 1000000 in
set_option maxRecDepth 100000 in
theorem Match_any (rs rl rw many : Int) (A : Option Addr) (n c : Nat) (sh : Nat → Shaft) (LA : Option Addr) (m lc : Nat) (l : Nat → Nat) (W : World) (hc : n ≤ c) (hst : Hid (StockOk rs rl rw many n sh)) (hsh : Hid (ShaftsAt W A n sh))
    (hm : m ≤ 9) (hmc : m ≤ lc) (hl : Hid (∀ k, k < m → l k < n)) (hasc : Hid (∀ j k, j < k → k < m → l j < l k)) (hi : Hid (IntsAt W LA m fun k => (l k : Int))) :
    CallsIn Fc 0 Tryz.prog 7 #[stockV rs rl rw many A n c, .slice LA m lc] W (SaysMatch (matchZ rs rl rw sh l m) W) := by
  have hn := hst.out.count
  have hB2 : ∀ x y, Below W.heap.size W (((W.alloc x).alloc y).drew) := fun x y => (((Below.refl _ _).alloc (Nat.le_refl _) _).alloc (by simp) _).drew
  have HB2 := Lib.hid hB2
  have hlo : ListOk (fun k => (l k : Int)) m n := ⟨fun k hk => ⟨Int.natCast_nonneg _, Int.ofNat_lt.2 (hl.out k hk)⟩, fun k hk => Int.ofNat_lt.2 (hasc.out k (k + 1) (by omega) hk)⟩
  have HLO := Lib.hid hlo
  clear hB2 hlo
  gi_enter Tryz.func7, Tryz.ntmps7
  gi_wp2
  gi_region_with (first
    | (gi_at_call 28; refine (hasList_any LA m lc rs rl rw many A n c _).mono ?_; rintro e w5 ⟨lp, sp, rfl, hbox, hb5⟩
       have e0 : w5.cell? ⟨W.heap.size + 1, 0, none⟩ = some (.int .i64 rs) := Below.old hb5 (by go_simp)
       have e1 : w5.cell? ⟨W.heap.size + 1, 1, none⟩ = some (.int .i64 rl) := Below.old hb5 (by go_simp)
       have e2 : w5.cell? ⟨W.heap.size + 1, 2, none⟩ = some (.int .i64 rw) := Below.old hb5 (by go_simp)
       have e3 : w5.cell? ⟨W.heap.size + 1, 3, none⟩ = some (.int .i64 many) := Below.old hb5 (by go_simp)
       have e4 : w5.cell? ⟨W.heap.size + 1, 4, none⟩ = some (.slice A n c) := Below.old hb5 (by go_simp)
       have HBX := Lib.hid hbox
       have HB5 := Lib.hid ((HB2.out _ _).trans (hb5.mono (HB2.out _ _).size))
       clear hbox hb5)
    | (gi_at_call 26
       refine (firstFoul_ok _ 2 _ _ (by omega) (Lib.hid fun u hu => by
         have h2 : u = 0 ∨ u = 1 := by omega
         rcases h2 with rfl | rfl
         · exact ⟨.func (.func 27) #[stockV rs rl rw many A n c] #[], by go_simp, .inl ⟨27, _, by simp, rfl, fun w' hb => check_ok rs rl rw many A n c sh w' hc hst (Lib.hid ((hsh.out.below (HB5.out.alloc HB5.out.size _)).below hb))⟩⟩
         · exact ⟨.func (.func 55) #[] #[ptr lp, ptr sp], by go_simp, .inr (.inr ⟨lp, sp, rfl, fun w' hb => hasList1_ok lp sp LA m lc _ rs rl rw many A n c w' hn (by omega) (Lib.hid (HBX.out.below (((Below.refl _ _).alloc (Nat.le_refl _) _).trans (hb.mono (by simp))))) HLO (Lib.hid ((hi.out.below (HB5.out.alloc HB5.out.size _)).below hb))⟩)⟩)).mono ?_
       rintro e w6 ⟨rfl, hb6⟩
       have f0 := Below.old hb6 (Below.old ((Below.refl _ _).alloc (Nat.le_refl _) _) e0)
       have f1 := Below.old hb6 (Below.old ((Below.refl _ _).alloc (Nat.le_refl _) _) e1)
       have f2 := Below.old hb6 (Below.old ((Below.refl _ _).alloc (Nat.le_refl _) _) e2)
       have f3 := Below.old hb6 (Below.old ((Below.refl _ _).alloc (Nat.le_refl _) _) e3)
       have f4 := Below.old hb6 (Below.old ((Below.refl _ _).alloc (Nat.le_refl _) _) e4)
       have HB6 := Lib.hid ((HB5.out.alloc HB5.out.size _).trans (hb6.mono (HB5.out.alloc HB5.out.size _).size))
       clear hb6 e0 e1 e2 e3 e4))
  all_goals
    have HLK : Hid (∀ k, k < m → l k < 9) := Lib.hid fun k hk => by have := hl.out k hk; omega
    gi_wp2_with (first
      | (gi_at_call 29; refine (checked_any rs rl rw many A n c sh _ hst (Lib.hid (hsh.out.below HB6.out))).mono ?_; rintro e w7 ⟨P, rfl, hP, hb7⟩; have HB7 := Lib.hid (HB6.out.trans (hb7.mono HB6.out.size)); have HP := Lib.hid hP; clear hb7 hP)
      | (gi_at_call 30; refine (match_any rs rl rw many A n c P LA m lc l _ hm hmc HLK (Lib.hid (hi.out.below HB7.out))).mono ?_; rintro e w8 ⟨rfl, hb8⟩; have HB8 := Lib.hid (HB7.out.trans (hb8.mono HB7.out.size)); clear hb8))
    go_ret2
    refine ⟨?_, HB8.out⟩
    rw [show listZ (fun one two => P (one * 9 + two)) l m = matchZ rs rl rw sh l m from listZ_congr m fun j i h1 h2 => HP.out _ _ (hasc.out j i h1 h2) (hl.out i h2)]; rfl
end Go.Proofs.YtnehjneldpinmaaGreat
end
section
set_option linter.unusedVariables false
namespace Go.Proofs.YtnehjneldpinmaaGreat
open Go.RowKit
def SaysGreat (n : Nat) (sh : Nat → Shaft) (W : World) (e : Ending) (w' : World) : Prop := ∃ b : Bool, e = .returned (.bool b) ∧ (b = false → n ≤ 20 ∧ ∀ k, k < n → (sh k).name.size ≤ 100) ∧ Below W.heap.size W w'
set_option maxHeartbeats 1000000 in
set_option maxRecDepth 100000 in
theorem Great_any (rs rl rw many : Int) (A : Option Addr) (n c : Nat) (sh : Nat → Shaft) (W : World) (hc : n ≤ c) (hsh : Hid (ShaftsAt W A n sh)) :
    CallsIn Fc 0 Tryz.prog 8 #[stockV rs rl rw many A n c] W (SaysGreat n sh W) := by
  gi_enter Tryz.func8, Tryz.ntmps8
  by_cases hn : (n : Int) > 20
  · gi_wp2
    go_ret
    exact ⟨true, rfl, fun h => by simp at h, (Below.refl _ _).alloc (Nat.le_refl _) _⟩
  · have hn' : n ≤ 20 := by omega
    gi_wp2
    gi_loopw [3] (fun i wr => ∃ k : Nat, k ≤ n ∧ i = .int .i64 k ∧ (∀ j, j < k → (sh j).name.size ≤ 100) ∧ wr = W.alloc (.cells #[.int .i64 rs, .int .i64 rl, .int .i64 rw, .int .i64 many, .slice A n c] 26)) (fun i _ => n - (intOf i).toNat)
    case atStart => exact ⟨0, by omega, rfl, fun j h => by omega, rfl⟩
    case round =>
      obtain ⟨k, hk, rfl, hall, rfl⟩ := hrel
      have HA := Lib.hid hall
      clear hall
      by_cases hlt : k < n
      · obtain ⟨b, o, rfl, hx⟩ := hsh.out k hlt
        have h0 := hx.h0
        have hlb : b < W.heap.size := World.block_lt_of_cell? W _ h0
        by_cases hnm : ((sh k).name.size : Int) > 100
        · gi_wp2
          go_ret
          exact ⟨true, rfl, fun h => by simp at h, (Below.refl _ _).alloc (Nat.le_refl _) _⟩
        · gi_wp2
          go_roundw
          case rel => exact ⟨k + 1, by omega, by go_num, fun j hj => by
            rcases Nat.lt_succ_iff_lt_or_eq.1 hj with hj | rfl
            · exact HA.out j hj
            · omega, trivial⟩
          case measure => simp [intOf]; omega
      · gi_wp2
        go_ret
        exact ⟨false, rfl, fun _ => ⟨hn', fun j hj => HA.out j (by omega)⟩, (Below.refl _ _).alloc (Nat.le_refl _) _⟩
end Go.Proofs.YtnehjneldpinmaaGreat
end
section
set_option linter.unusedVariables false
namespace Go.Proofs.YtnehjneldpinmaaGreat
open Go.RowKit
theorem u30 : Tryz.prog.underlying 30 = some (.slice 3) := by kernel_rfl
theorem i3 : (Tryz.prog.info? 3).map (fun i => (i.zero, i.size, i.bytes)) = some (some (.int .i64 0), 1, 8) := by kernel_rfl
abbrev intV (k : Nat) : Value := .int .i64 (k : Int)
def LsInv (W W1 : World) (k : Nat) (sl : Value) (wr : World) : Prop := ∃ xs : List Nat, xs.length ≤ k ∧ xs.Pairwise (· < ·) ∧ (∀ x ∈ xs, x < k) ∧ wr.ownsRow (W.heap.size + 1) 3 1 sl xs.length (xs.map intV) ∧ Below (W.heap.size + 1) W1 wr
def SaysListed (n : Nat) (W : World) (e : Ending) (w' : World) : Prop := ∃ (xs : List Nat) (LA : Option Addr) (lc : Nat), e = .returned (.slice LA xs.length lc) ∧ xs.length ≤ lc ∧ xs.length ≤ n ∧ xs.Pairwise (· < ·) ∧ (∀ x ∈ xs, x < n) ∧ IntsAt w' LA xs.length (fun k => ((xs.getD k 0 : Nat) : Int)) ∧ Below W.heap.size W w'
theorem ints_own {w : World} {base : Nat} {sl : Value} {xs : List Nat} (h : w.ownsRow base 3 1 sl xs.length (xs.map intV)) : ∃ LA lc, sl = .slice LA xs.length lc ∧ xs.length ≤ lc ∧ IntsAt w LA xs.length (fun k => ((xs.getD k 0 : Nat) : Int)) := by
  rcases h.2 with ⟨rfl, h0⟩ | ⟨g, cap, cur, rfl, _, hg, hcap, _⟩
  · rw [h0]
    exact ⟨none, 0, rfl, Nat.le_refl _, fun k hk => by omega⟩
  · refine ⟨_, _, rfl, hcap, fun k hk => ⟨g, 0, rfl, ?_⟩⟩
    rw [Nat.zero_add, h.cellAt k (by omega), List.getElem?_map, List.getElem?_eq_getElem hk]
    simp [List.getD_eq_getElem?_getD, List.getElem?_eq_getElem hk]
set_option maxHeartbeats 1000000 in
set_option maxRecDepth 100000 in
theorem Listed_any (rs rl rw many : Int) (A : Option Addr) (n c : Nat) (bits : Int) (W : World) (hn : n ≤ 9) (hc : n ≤ c) :
    CallsIn Fc 0 Tryz.prog 6 #[stockV rs rl rw many A n c, .int .u16 bits] W (SaysListed n W) := by
  obtain ⟨i0, hi, hz0, hz1, hz2⟩ := info_parts i3
  have HI := Lib.hid hi
  have HZ0 := Lib.hid hz0
  have HZ1 := Lib.hid hz1
  have HZ2 := Lib.hid hz2
  clear hi hz0 hz1 hz2
  gi_enter Tryz.func6, Tryz.ntmps6
  gi_wp2
  gi_loopw [5, 6] (fun sl i wr => ∃ k : Nat, k ≤ n ∧ i = .int .i64 k ∧ LsInv W (W.alloc (.cells #[.int .i64 rs, .int .i64 rl, .int .i64 rw, .int .i64 many, .slice A n c] 26)) k sl wr) (fun _ i _ => n - (intOf i).toNat)
  case atStart => exact ⟨0, by omega, rfl, [], Nat.le_refl _, List.Pairwise.nil, by simp, ⟨rfl, .inl ⟨rfl, rfl⟩⟩, Below.refl _ _⟩
  case round =>
    obtain ⟨k, hk, rfl, xs, hle, hp, hx, ho, hb⟩ := hrel
    have c4 : wr.cell? ⟨W.heap.size, 4, none⟩ = some (.slice A n c) := by rw [hb.cell (by simp)]; go_simp
    have hB : Below W.heap.size W wr := ((Below.refl W.heap.size W).alloc (Nat.le_refl _) _).trans (hb.mono (by omega))
    have HX := Lib.hid hx
    have HP := Lib.hid hp
    have HO := Lib.hid ho
    have HB := Lib.hid hb
    have HBB := Lib.hid hB
    have hs := hb.size
    simp at hs
    clear hx hp ho hb hB
    by_cases hlt : k < n
    · gi_wp2_with (gi_at_builtin; refine wpListIn_append_own _ rfl _ _ 30 rfl (W.heap.size + 1) 3 i0 (.int .i64 0) 1 8 u30 HI.out HZ0.out HZ1.out HZ2.out rfl (by decide) _ _ _ rfl (HO.out.alloc _) ⟨wr.heap.size, 0, none⟩ 1 1 [intV k] rfl rfl (cell_one_new _ _ _) (by simp [Value.oneCell']) (by simp [maxLen]; omega) (by omega) (by simp; omega) ?_; intro v' w4 hown4 hg4 hnil4)
      · have hx4 := HO.out.alloc (.cells #[intV k] 3)
        go_roundw
        case rel =>
          refine ⟨k + 1, by omega, by go_num, xs ++ [k], by simp; omega, ?_, ?_, ?_, ?_⟩
          · rw [List.pairwise_append]
            exact ⟨HP.out, by simp, fun a ha b hb => by simp at hb; subst hb; exact HX.out a ha⟩
          · intro x hx
            rw [List.mem_append] at hx
            rcases hx with hx | hx
            · have := HX.out x hx; omega
            · simp at hx; omega
          · simpa using hown4
          · exact (HB.out.alloc (by omega) _).grown hg4 (by simp; omega) (fun g hg => (hx4.lt g hg).1)
        case measure => simp [intOf]; omega
      · go_roundw
        case rel => exact ⟨k + 1, by omega, by go_num, xs, by omega, HP.out, fun x hx => by have := HX.out x hx; omega, HO.out, HB.out⟩
        case measure => simp [intOf]; omega
    · obtain rfl : k = n := by omega
      obtain ⟨LA, lc, rfl, h1, h2⟩ := ints_own HO.out
      gi_wp2
      go_ret
      exact ⟨xs, LA, lc, rfl, h1, hle, HP.out, HX.out, h2, HBB.out⟩
end Go.Proofs.YtnehjneldpinmaaGreat
end
section
set_option linter.unusedVariables false
namespace Go.Proofs.YtnehjneldpinmaaGreat
open Go.RowKit
def SaysStock (rs rl rw many : Int) (n : Nat) (sh : Nat → Shaft) (W : World) (e : Ending) (w' : World) : Prop := ∃ v : Int, e = .returned (.int .i64 v) ∧ (v = 0 → StockOk rs rl rw many n sh) ∧ Below W.heap.size W w'
set_option maxHeartbeats 1000000 in
set_option maxRecDepth 100000 in
theorem CheckStock_any (rs rl rw many : Int) (A : Option Addr) (n c : Nat) (sh : Nat → Shaft) (W : World) (hc : n ≤ c) (hsh : Hid (ShaftsAt W A n sh)) (hnm : Hid (∀ k, k < n → (sh k).name.size ≤ 100)) :
    CallsIn Fc 0 Tryz.prog 9 #[stockV rs rl rw many A n c] W (SaysStock rs rl rw many n sh W) := by
  have hB2 : ∀ x y, Below W.heap.size W ((W.alloc x).alloc y) := fun x y => ((Below.refl _ _).alloc (Nat.le_refl _) _).alloc (by simp) _
  have HB2 := Lib.hid hB2
  clear hB2
  gi_enter Tryz.func9, Tryz.ntmps9
  cases h1 : inB rs 0 9999 with
  | false =>
    gi_wp2_with (gi_at_call 31; refine (in_any _ _ _ _).mono ?_; rintro e w' ⟨rfl, rfl⟩)
    go_ret
    exact ⟨1, rfl, fun h => by simp at h, HB2.out _ _⟩
  | true =>
  cases h2 : inB rl 0 9999 with
  | false =>
    gi_wp2_with (gi_at_call 31; refine (in_any _ _ _ _).mono ?_; rintro e w' ⟨rfl, rfl⟩)
    go_ret
    exact ⟨1, rfl, fun h => by simp at h, HB2.out _ _⟩
  | true =>
  cases h3 : inB rw 0 9999 with
  | false =>
    gi_wp2_with (gi_at_call 31; refine (in_any _ _ _ _).mono ?_; rintro e w' ⟨rfl, rfl⟩)
    go_ret
    exact ⟨1, rfl, fun h => by simp at h, HB2.out _ _⟩
  | true =>
  cases h4 : inB many 2 4 with
  | false =>
    gi_wp2_with (gi_at_call 31; refine (in_any _ _ _ _).mono ?_; rintro e w' ⟨rfl, rfl⟩)
    go_ret
    exact ⟨1, rfl, fun h => by simp at h, HB2.out _ _⟩
  | true =>
  by_cases hn : (n : Int) > 9
  · gi_wp2_with (gi_at_call 31; refine (in_any _ _ _ _).mono ?_; rintro e w' ⟨rfl, rfl⟩)
    go_ret
    exact ⟨2, rfl, fun h => by simp at h, HB2.out _ _⟩
  · have hn9 : n ≤ 9 := by omega
    have HRU : Hid (RuleOk rs rl rw many) := Lib.hid (by
      simp [inB] at h1 h2 h3 h4
      exact ⟨h1.1, h1.2, h2.1, h2.2, h3.1, h3.2, h4.1, h4.2⟩)
    gi_wp2_with (gi_at_call 31; refine (in_any _ _ _ _).mono ?_; rintro e w' ⟨rfl, rfl⟩)
    clear h1 h2 h3 h4
    gi_loopw [4] (fun i wr => ∃ k : Nat, k ≤ n ∧ i = .int .i64 k ∧ wr.cell? ⟨W.heap.size, 4, none⟩ = some (.slice A n c) ∧ Below W.heap.size W wr ∧ (∀ j, j < k → ShaftOk (sh j)) ∧ ∀ j i, j < i → i < k → ((sh j).name.toList == (sh i).name.toList) = false) (fun i _ => n - (intOf i).toNat)
    case atStart => exact ⟨0, by omega, rfl, by go_simp, HB2.out _ _, fun j h => by omega, fun j i _ h => by omega⟩
    case round =>
      obtain ⟨k, hk, rfl, c4, hb, hok, hon⟩ := hrel
      rename World => wq
      have HB := Lib.hid hb
      have HOK := Lib.hid hok
      have HON := Lib.hid hon
      have hs := hb.size
      have hsz : W.heap.size < wq.heap.size := World.block_lt_of_cell? wq _ c4
      clear hb hok hon
      by_cases hlt : k < n
      · obtain ⟨b, o, rfl, hx⟩ := hsh.out k hlt
        obtain ⟨x0, x1, x2, x3, x4, x5, x6⟩ := hx.below HB.out
        have hlb : b < wq.heap.size := World.block_lt_of_cell? wq _ x0
        gi_wp2_with (gi_at_call 32; refine (isName_any _ _ (by have := hnm.out k hlt; simp [maxLen]; omega)).mono ?_; rintro e w' ⟨nb, rfl, hnb, rfl⟩; cases nb)
        · go_ret
          exact ⟨4, rfl, fun h => by simp at h, HB.out.alloc (by omega) _⟩
        · have HNK := Lib.hid (hnb trivial)
          clear hnb hx
          gi_loopw [6] (fun i wi => ∃ j : Nat, j ≤ k ∧ i = .int .i64 j ∧ Below (wq.heap.size + 1) (wq.alloc (.cells #[.string (sh k).name, .int .i64 (sh k).s0, .int .i64 (sh k).s1, .int .i64 (sh k).l0, .int .i64 (sh k).l1, .int .i64 (sh k).w0, .int .i64 (sh k).w1] 85)) wi ∧ ∀ t, t < j → ((sh t).name.toList == (sh k).name.toList) = false) (fun i _ => k - (intOf i).toNat)
          case atStart => exact ⟨0, by omega, rfl, Below.refl _ _, fun t h => by omega⟩
          case round =>
            clear x0 x1 x2 x3 x4 x5 x6
            obtain ⟨j, hj, rfl, hbi, hne⟩ := hrel
            have d4 : wr.cell? ⟨W.heap.size, 4, none⟩ = some (.slice (some ⟨b, o, none⟩) n c) := by rw [hbi.cell (by simp; omega)]; go_simp
            have y0 : wr.cell? ⟨wq.heap.size, 0, none⟩ = some (.string (sh k).name) := by rw [hbi.cell (by simp)]; go_simp
            have hsi := hbi.size
            simp at hsi
            have HNE := Lib.hid hne
            have hbw : Below W.heap.size W wr := (HB.out.alloc (by omega) _).trans (hbi.mono (by omega))
            have HBW := Lib.hid hbw
            have HBI := Lib.hid hbi
            clear hbi hbw hne c4
            by_cases hlj : j < k
            · obtain ⟨b', o', e', hxj⟩ := hsh.out j (by omega)
              cases e'
              have z0 := (hxj.below HBW.out).h0
              clear hxj
              cases he : ((sh j).name.toList == (sh k).name.toList) with
              | true =>
                gi_wp2
                gi_region_with fail
                all_goals
                  gi_wp2
                  go_ret
                  exact ⟨5, rfl, fun h => by simp at h, HBW.out.drew⟩
              | false =>
                gi_wp2
                gi_region_with fail
                all_goals
                  gi_wp2
                  go_roundw
                  case rel => exact ⟨j + 1, by omega, by go_num, HBI.out.drew, fun t ht => by
                    rcases Nat.lt_succ_iff_lt_or_eq.1 ht with ht | rfl
                    · exact HNE.out t ht
                    · exact he⟩
                  case measure => simp [intOf]; omega
            · obtain rfl : j = k := by omega
              have y1 : wr.cell? ⟨wq.heap.size, 1, none⟩ = some (.int .i64 (sh j).s0) := by rw [HBI.out.cell (by simp)]; go_simp
              have y2 : wr.cell? ⟨wq.heap.size, 2, none⟩ = some (.int .i64 (sh j).s1) := by rw [HBI.out.cell (by simp)]; go_simp
              have y3 : wr.cell? ⟨wq.heap.size, 3, none⟩ = some (.int .i64 (sh j).l0) := by rw [HBI.out.cell (by simp)]; go_simp
              have y4 : wr.cell? ⟨wq.heap.size, 4, none⟩ = some (.int .i64 (sh j).l1) := by rw [HBI.out.cell (by simp)]; go_simp
              have y5 : wr.cell? ⟨wq.heap.size, 5, none⟩ = some (.int .i64 (sh j).w0) := by rw [HBI.out.cell (by simp)]; go_simp
              have y6 : wr.cell? ⟨wq.heap.size, 6, none⟩ = some (.int .i64 (sh j).w1) := by rw [HBI.out.cell (by simp)]; go_simp
              cases q1 : insideB (sh j).s0 (sh j).s1 0 9999 with
              | false =>
                gi_wp2_with (gi_at_call 33; refine (inside_any _ _ _ _ _).mono ?_; rintro e w2 ⟨rfl, hb2⟩; (have d4 := Below.old hb2 d4); (have y3 := Below.old hb2 y3); (have y4 := Below.old hb2 y4); (have y5 := Below.old hb2 y5); (have y6 := Below.old hb2 y6); have HBW := Lib.hid (HBW.out.trans (hb2.mono HBW.out.size)); clear hb2)
                go_ret
                exact ⟨1, rfl, fun h => by simp at h, HBW.out⟩
              | true =>
              cases q2 : insideB (sh j).l0 (sh j).l1 0 9999 with
              | false =>
                gi_wp2_with (gi_at_call 33; refine (inside_any _ _ _ _ _).mono ?_; rintro e w2 ⟨rfl, hb2⟩; (have d4 := Below.old hb2 d4); (have y3 := Below.old hb2 y3); (have y4 := Below.old hb2 y4); (have y5 := Below.old hb2 y5); (have y6 := Below.old hb2 y6); have HBW := Lib.hid (HBW.out.trans (hb2.mono HBW.out.size)); clear hb2)
                go_ret
                exact ⟨1, rfl, fun h => by simp at h, HBW.out⟩
              | true =>
              cases q3 : insideB (sh j).w0 (sh j).w1 0 9999 with
              | false =>
                gi_wp2_with (gi_at_call 33; refine (inside_any _ _ _ _ _).mono ?_; rintro e w2 ⟨rfl, hb2⟩; (have d4 := Below.old hb2 d4); (have y3 := Below.old hb2 y3); (have y4 := Below.old hb2 y4); (have y5 := Below.old hb2 y5); (have y6 := Below.old hb2 y6); have HBW := Lib.hid (HBW.out.trans (hb2.mono HBW.out.size)); clear hb2)
                go_ret
                exact ⟨1, rfl, fun h => by simp at h, HBW.out⟩
              | true =>
                gi_wp2_with (gi_at_call 33; refine (inside_any _ _ _ _ _).mono ?_; rintro e w2 ⟨rfl, hb2⟩; (have d4 := Below.old hb2 d4); (have y3 := Below.old hb2 y3); (have y4 := Below.old hb2 y4); (have y5 := Below.old hb2 y5); (have y6 := Below.old hb2 y6); have HBW := Lib.hid (HBW.out.trans (hb2.mono HBW.out.size)); clear hb2)
                go_roundw
                case rel =>
                  refine ⟨j + 1, by omega, by go_num, d4, HBW.out, fun t ht => ?_, fun t i h5 h6 => ?_⟩
                  · rcases Nat.lt_succ_iff_lt_or_eq.1 ht with ht | rfl
                    · exact HOK.out t ht
                    · simp [insideB, inB] at q1 q2 q3
                      exact ⟨HNK.out, by omega, by omega, by omega, by omega, by omega, by omega, by omega, by omega, by omega⟩
                  · rcases Nat.lt_succ_iff_lt_or_eq.1 h6 with h6 | rfl
                    · exact HON.out t i h5 h6
                    · exact HNE.out t h5
                case measure => simp [intOf]; omega
      · obtain rfl : k = n := by omega
        gi_wp2
        go_ret
        exact ⟨0, rfl, fun _ => ⟨HRU.out, hn9, HOK.out, HON.out⟩, HB.out⟩
end Go.Proofs.YtnehjneldpinmaaGreat
end
section
set_option linter.unusedVariables false
namespace Go.Proofs.YtnehjneldpinmaaGreat
open Go.RowKit
def SaysFit (rs rl rw many : Int) (n : Nat) (sh : Nat → Shaft) (W : World) (e : Ending) (w' : World) : Prop := ∃ b : Bool, e = .returned (.bool b) ∧ (b = true → StockOk rs rl rw many n sh) ∧ Below W.heap.size W w'
set_option maxHeartbeats 1000000 in
set_option maxRecDepth 100000 in
theorem Fit_any (rs rl rw many : Int) (A : Option Addr) (n c : Nat) (sh : Nat → Shaft) (W : World) (hc : n ≤ c) (hsh : Hid (ShaftsAt W A n sh)) :
    CallsIn Fc 0 Tryz.prog 4 #[stockV rs rl rw many A n c] W (SaysFit rs rl rw many n sh W) := by
  have hB1 : ∀ x, Below W.heap.size W (W.alloc x) := fun x => (Below.refl _ _).alloc (Nat.le_refl _) _
  have HB1 := Lib.hid hB1
  clear hB1
  gi_enter Tryz.func4, Tryz.ntmps4
  gi_wp2_with (first
    | (gi_at_call 8; refine (Great_any _ _ _ _ _ _ _ sh _ hc (Lib.hid (hsh.out.below (HB1.out _)))).mono ?_; rintro e w2 ⟨gb, rfl, hgb, hb2⟩
       have e0 : w2.cell? ⟨W.heap.size, 0, none⟩ = some (.int .i64 rs) := Below.old hb2 (by go_simp)
       have e1 : w2.cell? ⟨W.heap.size, 1, none⟩ = some (.int .i64 rl) := Below.old hb2 (by go_simp)
       have e2 : w2.cell? ⟨W.heap.size, 2, none⟩ = some (.int .i64 rw) := Below.old hb2 (by go_simp)
       have e3 : w2.cell? ⟨W.heap.size, 3, none⟩ = some (.int .i64 many) := Below.old hb2 (by go_simp)
       have e4 : w2.cell? ⟨W.heap.size, 4, none⟩ = some (.slice A n c) := Below.old hb2 (by go_simp)
       have HB2 := Lib.hid ((HB1.out _).trans (hb2.mono (HB1.out _).size))
       have HGB := Lib.hid hgb
       clear hb2 hgb
       cases gb)
    | (gi_at_call 9; refine (CheckStock_any _ _ _ _ _ _ _ sh _ hc (Lib.hid (hsh.out.below HB2.out)) (Lib.hid (HGB.out trivial).2)).mono ?_; rintro e w3 ⟨v, rfl, hv, hb3⟩
       have HB3 := Lib.hid (HB2.out.trans (hb3.mono HB2.out.size))
       have HV := Lib.hid hv
       clear hb3 hv))
  · go_ret
    exact ⟨v == 0, rfl, fun h => HV.out (by simpa using h), HB3.out⟩
  · go_ret
    exact ⟨false, rfl, fun h => by simp at h, HB2.out⟩
end Go.Proofs.YtnehjneldpinmaaGreat
end
