/- A part of the proof that ArrowKnown returns true for every input: no further condition. -/
import Derived.Test.YtpdmgecbapmgdaaGreatGp1
import Derived.Stop.RegionWithIn
set_option linter.unusedVariables false
set_option maxHeartbeats 1000000
set_option maxRecDepth 100000
section
namespace Go.Proofs.YtpdmgecbapmgdaaGreat
open Go.RowKit
def bothZ (a b : Int) : Int := if a = 2 ∨ b = 2 then 2 else if a = 1 ∧ b = 1 then 1 else 0
theorem both_any (a b : Int) (w : World) : CallsIn Fc 0 Tryz.prog 102 #[.int .i64 a, .int .i64 b] w fun e w' => e = .returned (.int .i64 (bothZ a b)) ∧ w = w' := by
  by_cases a2 : a = 2
  · subst a2
    gi_enter Tryz.func102, Tryz.ntmps102
    gi_wp2
    go_ret
    exact ⟨by simp [bothZ], rfl⟩
  · have ha : (a == 2) = false := by simpa using a2
    by_cases b2 : b = 2
    · subst b2
      gi_enter Tryz.func102, Tryz.ntmps102
      gi_wp2
      go_ret
      exact ⟨by simp [bothZ], rfl⟩
    · have hb : (b == 2) = false := by simpa using b2
      by_cases a1 : a = 1
      · subst a1
        by_cases b1 : b = 1
        · subst b1
          gi_enter Tryz.func102, Tryz.ntmps102
          gi_wp2
          go_ret
          exact ⟨by simp [bothZ], rfl⟩
        · have hb1 : (b == 1) = false := by simpa using b1
          gi_enter Tryz.func102, Tryz.ntmps102
          gi_wp2
          go_ret
          exact ⟨by simp [bothZ, b2, b1], rfl⟩
      · have ha1 : (a == 1) = false := by simpa using a1
        gi_enter Tryz.func102, Tryz.ntmps102
        gi_wp2
        go_ret
        exact ⟨by simp [bothZ, a2, b2, a1], rfl⟩
def SaysNear (v : Int) (w : World) (e : Ending) (w' : World) : Prop := e = .returned (.int .i64 v) ∧ Below w.heap.size w w'
def nearZ (al aMin aMax bMin bMax : Int) : Int :=
  if max (aMax - bMin) (bMax - aMin) ≤ al then 1 else if max (aMin - bMax) (bMin - aMax) > al then 2 else 0
theorem near_any0 (rs rl rw many : Int) (b o n c i1 i2 : Nat) (sh : Nat → Shaft) (W : World) (h1 : i1 < n) (h2 : i2 < n) (hn : n ≤ 9) (hst : Hid (StockOk rs rl rw many n sh)) (hsh : Hid (ShaftsAt W (some ⟨b, o, none⟩) n sh)) :
    CallsIn Fc 0 Tryz.prog 66 #[stockV rs rl rw many (some ⟨b, o, none⟩) n c, .int .i64 i1, .int .i64 i2, .agg #[.func (.func 105) #[] #[], .func (.func 106) #[] #[]]] W
      (SaysNear (nearZ (allowOf rs rl rw 0) (spanA (sh i1) 0) (spanB (sh i1) 0) (spanA (sh i2) 0) (spanB (sh i2) 0)) W) := by
  gi_enter Tryz.func66, Tryz.ntmps66
  gi_wp2
  have hB1 : Below W.heap.size W ((W.alloc (.cells #[.int .i64 rs, .int .i64 rl, .int .i64 rw, .int .i64 many, .slice (some ⟨b, o, none⟩) n c] 99)).alloc (.cells #[.func (.func 105) #[] #[], .func (.func 106) #[] #[]] 119)) := ((Below.refl _ _).alloc (Nat.le_refl _) _).alloc (by simp) _
  have cf : World.cell? ((W.alloc (.cells #[.int .i64 rs, .int .i64 rl, .int .i64 rw, .int .i64 many, .slice (some ⟨b, o, none⟩) n c] 99)).alloc (.cells #[.func (.func 105) #[] #[], .func (.func 106) #[] #[]] 119)) ⟨W.heap.size + 1, 0, none⟩ = some (.func (.func 105) #[] #[]) := by simp
  have cg : World.cell? ((W.alloc (.cells #[.int .i64 rs, .int .i64 rl, .int .i64 rw, .int .i64 many, .slice (some ⟨b, o, none⟩) n c] 99)).alloc (.cells #[.func (.func 105) #[] #[], .func (.func 106) #[] #[]] 119)) ⟨W.heap.size + 1, 1, none⟩ = some (.func (.func 106) #[] #[]) := by simp
  have c0 : World.cell? ((W.alloc (.cells #[.int .i64 rs, .int .i64 rl, .int .i64 rw, .int .i64 many, .slice (some ⟨b, o, none⟩) n c] 99)).alloc (.cells #[.func (.func 105) #[] #[], .func (.func 106) #[] #[]] 119)) ⟨W.heap.size, 0, none⟩ = some (.int .i64 rs) := by simp
  have c1 : World.cell? ((W.alloc (.cells #[.int .i64 rs, .int .i64 rl, .int .i64 rw, .int .i64 many, .slice (some ⟨b, o, none⟩) n c] 99)).alloc (.cells #[.func (.func 105) #[] #[], .func (.func 106) #[] #[]] 119)) ⟨W.heap.size, 1, none⟩ = some (.int .i64 rl) := by simp
  have c2 : World.cell? ((W.alloc (.cells #[.int .i64 rs, .int .i64 rl, .int .i64 rw, .int .i64 many, .slice (some ⟨b, o, none⟩) n c] 99)).alloc (.cells #[.func (.func 105) #[] #[], .func (.func 106) #[] #[]] 119)) ⟨W.heap.size, 2, none⟩ = some (.int .i64 rw) := by simp
  have c3 : World.cell? ((W.alloc (.cells #[.int .i64 rs, .int .i64 rl, .int .i64 rw, .int .i64 many, .slice (some ⟨b, o, none⟩) n c] 99)).alloc (.cells #[.func (.func 105) #[] #[], .func (.func 106) #[] #[]] 119)) ⟨W.heap.size, 3, none⟩ = some (.int .i64 many) := by simp
  have cs : World.cell? ((W.alloc (.cells #[.int .i64 rs, .int .i64 rl, .int .i64 rw, .int .i64 many, .slice (some ⟨b, o, none⟩) n c] 99)).alloc (.cells #[.func (.func 105) #[] #[], .func (.func 106) #[] #[]] 119)) ⟨W.heap.size, 4, none⟩ = some (.slice (some ⟨b, o, none⟩) n c) := by simp
  have ls : W.heap.size + 1 < ((W.alloc (.cells #[.int .i64 rs, .int .i64 rl, .int .i64 rw, .int .i64 many, .slice (some ⟨b, o, none⟩) n c] 99)).alloc (.cells #[.func (.func 105) #[] #[], .func (.func 106) #[] #[]] 119)).heap.size := by simp
  generalize (W.alloc (.cells #[.int .i64 rs, .int .i64 rl, .int .i64 rw, .int .i64 many, .slice (some ⟨b, o, none⟩) n c] 99)).alloc (.cells #[.func (.func 105) #[] #[], .func (.func 106) #[] #[]] 119) = W1 at *
  have hR : NearR W1 W.heap.size (W.heap.size + 1) b o n c i1 i2 105 1 (spanA (sh i1) 0) (spanB (sh i1) 0) (spanA (sh i2) 0) (spanB (sh i2) 0) := by
    obtain ⟨b', o', e, hx⟩ := hsh.out i1 h1
    cases e
    obtain ⟨b', o', e, hy⟩ := hsh.out i2 h2
    cases e
    have hx := hx.below hB1
    have hy := hy.below hB1
    exact ⟨by omega, ls, hx.lt, cf, cs, hx.h1, hx.h2, hy.h1, hy.h2⟩
  have HR := Lib.hid hR
  have HB1 := Lib.hid hB1
  have HC := Lib.hid (And.intro cf (And.intro cg (And.intro c0 (And.intro c1 (And.intro c2 (And.intro c3 ls))))))
  clear hR hB1 cf cg c0 c1 c2 c3 cs ls
  have hx := hst.out.each i1 h1
  have hy := hst.out.each i2 h2
  have hu := hst.out.rule
  have a0 : 0 ≤ spanA (sh i1) 0 ∧ spanA (sh i1) 0 ≤ 9999 := by have := hx.s0; have := hx.s1; have := hx.s2; simp only [spanA]; omega
  have a1 : 0 ≤ spanB (sh i1) 0 ∧ spanB (sh i1) 0 ≤ 9999 := by have := hx.s0; have := hx.s1; have := hx.s2; simp only [spanB]; omega
  have a2 : 0 ≤ spanA (sh i2) 0 ∧ spanA (sh i2) 0 ≤ 9999 := by have := hy.s0; have := hy.s1; have := hy.s2; simp only [spanA]; omega
  have a3 : 0 ≤ spanB (sh i2) 0 ∧ spanB (sh i2) 0 ≤ 9999 := by have := hy.s0; have := hy.s1; have := hy.s2; simp only [spanB]; omega
  generalize spanA (sh i1) 0 = x1 at *
  generalize spanB (sh i1) 0 = y1 at *
  generalize spanA (sh i2) 0 = x2 at *
  generalize spanB (sh i2) 0 = y2 at *
  obtain ⟨a0, a0'⟩ := a0
  obtain ⟨a1, a1'⟩ := a1
  obtain ⟨a2, a2'⟩ := a2
  obtain ⟨a3, a3'⟩ := a3
  clear hx hy hu
  refine wpIn_region_J (by kernel_rfl) near_back (J := NearJ W1 (stockV rs rl rw many (some ⟨b, o, none⟩) n c) (.agg #[.func (.func 105) #[] #[], .func (.func 106) #[] #[]]) W.heap.size (W.heap.size + 1) b o n c i1 i2 105 1 x1 y1 x2 y2) ?_ ?_ ?_
  · refine ⟨undef, undef, undef, undef, undef, undef, undef, undef, undef, undef, undef, undef, undef, undef, undef, undef, undef, undef, undef, undef, undef, undef, rfl, Below.drew (Below.refl _ _), ?_⟩
    refine ⟨?_, ?_, ?_, ?_, ?_, ?_, ?_, ?_, ?_, ?_, ?_, ?_, ?_, ?_, ?_, ?_, ?_, ?_, ?_, ?_, ?_, ?_, ?_, ?_, ?_⟩ <;> (intro h; exact absurd h (by decide))
  · intro listed a w i hJ hi
    exact near_op ⟨HR, hn, h1, h2, by decide, hJ⟩ hi
  · intro listed a w hJ hall
    obtain ⟨p, q, rfl, hb, hp1, hq1, hp2, hq2, hpq⟩ := near_last hJ hall
    clear hJ
    obtain ⟨cf, cg, c0, c1, c2, c3, ls⟩ := HC.out
    have cg := Below.old hb cg
    have c0 := Below.old hb c0
    have c1 := Below.old hb c1
    have c2 := Below.old hb c2
    have c3 := Below.old hb c3
    obtain ⟨p0, p1⟩ := hp2.cell
    obtain ⟨q0, q1⟩ := hq2.cell
    have lp := hp2.lt
    have lq := hq2.lt
    have lw : W.heap.size + 1 < w.heap.size := Nat.lt_of_lt_of_le ls hb.size
    have lw0 : W.heap.size < w.heap.size := by omega
    have HP := Lib.hid hp2
    have HQ := Lib.hid hq2
    clear cf hall hp2 hq2 ls
    have HB := Lib.hid hb
    clear hb
    gi_wp2
    all_goals
      go_ret
      refine ⟨?_, ?_⟩
      · congr 2
        simp only [nearZ, allowOf, Int.max_def] at *
        repeat' split
        all_goals first | rfl | omega
      · exact (HB1.out.trans (HB.out.mono HB1.out.size)).alloc (Nat.le_trans HB1.out.size HB.out.size) _
theorem near_any1 (rs rl rw many : Int) (b o n c i1 i2 : Nat) (sh : Nat → Shaft) (W : World) (h1 : i1 < n) (h2 : i2 < n) (hn : n ≤ 9) (hst : Hid (StockOk rs rl rw many n sh)) (hsh : Hid (ShaftsAt W (some ⟨b, o, none⟩) n sh)) :
    CallsIn Fc 0 Tryz.prog 66 #[stockV rs rl rw many (some ⟨b, o, none⟩) n c, .int .i64 i1, .int .i64 i2, .agg #[.func (.func 107) #[] #[], .func (.func 108) #[] #[]]] W
      (SaysNear (nearZ (allowOf rs rl rw 1) (spanA (sh i1) 1) (spanB (sh i1) 1) (spanA (sh i2) 1) (spanB (sh i2) 1)) W) := by
  gi_enter Tryz.func66, Tryz.ntmps66
  gi_wp2
  have hB1 : Below W.heap.size W ((W.alloc (.cells #[.int .i64 rs, .int .i64 rl, .int .i64 rw, .int .i64 many, .slice (some ⟨b, o, none⟩) n c] 99)).alloc (.cells #[.func (.func 107) #[] #[], .func (.func 108) #[] #[]] 119)) := ((Below.refl _ _).alloc (Nat.le_refl _) _).alloc (by simp) _
  have cf : World.cell? ((W.alloc (.cells #[.int .i64 rs, .int .i64 rl, .int .i64 rw, .int .i64 many, .slice (some ⟨b, o, none⟩) n c] 99)).alloc (.cells #[.func (.func 107) #[] #[], .func (.func 108) #[] #[]] 119)) ⟨W.heap.size + 1, 0, none⟩ = some (.func (.func 107) #[] #[]) := by simp
  have cg : World.cell? ((W.alloc (.cells #[.int .i64 rs, .int .i64 rl, .int .i64 rw, .int .i64 many, .slice (some ⟨b, o, none⟩) n c] 99)).alloc (.cells #[.func (.func 107) #[] #[], .func (.func 108) #[] #[]] 119)) ⟨W.heap.size + 1, 1, none⟩ = some (.func (.func 108) #[] #[]) := by simp
  have c0 : World.cell? ((W.alloc (.cells #[.int .i64 rs, .int .i64 rl, .int .i64 rw, .int .i64 many, .slice (some ⟨b, o, none⟩) n c] 99)).alloc (.cells #[.func (.func 107) #[] #[], .func (.func 108) #[] #[]] 119)) ⟨W.heap.size, 0, none⟩ = some (.int .i64 rs) := by simp
  have c1 : World.cell? ((W.alloc (.cells #[.int .i64 rs, .int .i64 rl, .int .i64 rw, .int .i64 many, .slice (some ⟨b, o, none⟩) n c] 99)).alloc (.cells #[.func (.func 107) #[] #[], .func (.func 108) #[] #[]] 119)) ⟨W.heap.size, 1, none⟩ = some (.int .i64 rl) := by simp
  have c2 : World.cell? ((W.alloc (.cells #[.int .i64 rs, .int .i64 rl, .int .i64 rw, .int .i64 many, .slice (some ⟨b, o, none⟩) n c] 99)).alloc (.cells #[.func (.func 107) #[] #[], .func (.func 108) #[] #[]] 119)) ⟨W.heap.size, 2, none⟩ = some (.int .i64 rw) := by simp
  have c3 : World.cell? ((W.alloc (.cells #[.int .i64 rs, .int .i64 rl, .int .i64 rw, .int .i64 many, .slice (some ⟨b, o, none⟩) n c] 99)).alloc (.cells #[.func (.func 107) #[] #[], .func (.func 108) #[] #[]] 119)) ⟨W.heap.size, 3, none⟩ = some (.int .i64 many) := by simp
  have cs : World.cell? ((W.alloc (.cells #[.int .i64 rs, .int .i64 rl, .int .i64 rw, .int .i64 many, .slice (some ⟨b, o, none⟩) n c] 99)).alloc (.cells #[.func (.func 107) #[] #[], .func (.func 108) #[] #[]] 119)) ⟨W.heap.size, 4, none⟩ = some (.slice (some ⟨b, o, none⟩) n c) := by simp
  have ls : W.heap.size + 1 < ((W.alloc (.cells #[.int .i64 rs, .int .i64 rl, .int .i64 rw, .int .i64 many, .slice (some ⟨b, o, none⟩) n c] 99)).alloc (.cells #[.func (.func 107) #[] #[], .func (.func 108) #[] #[]] 119)).heap.size := by simp
  generalize (W.alloc (.cells #[.int .i64 rs, .int .i64 rl, .int .i64 rw, .int .i64 many, .slice (some ⟨b, o, none⟩) n c] 99)).alloc (.cells #[.func (.func 107) #[] #[], .func (.func 108) #[] #[]] 119) = W1 at *
  have hR : NearR W1 W.heap.size (W.heap.size + 1) b o n c i1 i2 107 3 (spanA (sh i1) 1) (spanB (sh i1) 1) (spanA (sh i2) 1) (spanB (sh i2) 1) := by
    obtain ⟨b', o', e, hx⟩ := hsh.out i1 h1
    cases e
    obtain ⟨b', o', e, hy⟩ := hsh.out i2 h2
    cases e
    have hx := hx.below hB1
    have hy := hy.below hB1
    exact ⟨by omega, ls, hx.lt, cf, cs, hx.h3, hx.h4, hy.h3, hy.h4⟩
  have HR := Lib.hid hR
  have HB1 := Lib.hid hB1
  have HC := Lib.hid (And.intro cf (And.intro cg (And.intro c0 (And.intro c1 (And.intro c2 (And.intro c3 ls))))))
  clear hR hB1 cf cg c0 c1 c2 c3 cs ls
  have hx := hst.out.each i1 h1
  have hy := hst.out.each i2 h2
  have hu := hst.out.rule
  have a0 : 0 ≤ spanA (sh i1) 1 ∧ spanA (sh i1) 1 ≤ 9999 := by have := hx.l0; have := hx.l1; have := hx.l2; simp only [spanA]; omega
  have a1 : 0 ≤ spanB (sh i1) 1 ∧ spanB (sh i1) 1 ≤ 9999 := by have := hx.l0; have := hx.l1; have := hx.l2; simp only [spanB]; omega
  have a2 : 0 ≤ spanA (sh i2) 1 ∧ spanA (sh i2) 1 ≤ 9999 := by have := hy.l0; have := hy.l1; have := hy.l2; simp only [spanA]; omega
  have a3 : 0 ≤ spanB (sh i2) 1 ∧ spanB (sh i2) 1 ≤ 9999 := by have := hy.l0; have := hy.l1; have := hy.l2; simp only [spanB]; omega
  generalize spanA (sh i1) 1 = x1 at *
  generalize spanB (sh i1) 1 = y1 at *
  generalize spanA (sh i2) 1 = x2 at *
  generalize spanB (sh i2) 1 = y2 at *
  obtain ⟨a0, a0'⟩ := a0
  obtain ⟨a1, a1'⟩ := a1
  obtain ⟨a2, a2'⟩ := a2
  obtain ⟨a3, a3'⟩ := a3
  clear hx hy hu
  refine wpIn_region_J (by kernel_rfl) near_back (J := NearJ W1 (stockV rs rl rw many (some ⟨b, o, none⟩) n c) (.agg #[.func (.func 107) #[] #[], .func (.func 108) #[] #[]]) W.heap.size (W.heap.size + 1) b o n c i1 i2 107 3 x1 y1 x2 y2) ?_ ?_ ?_
  · refine ⟨undef, undef, undef, undef, undef, undef, undef, undef, undef, undef, undef, undef, undef, undef, undef, undef, undef, undef, undef, undef, undef, undef, rfl, Below.drew (Below.refl _ _), ?_⟩
    refine ⟨?_, ?_, ?_, ?_, ?_, ?_, ?_, ?_, ?_, ?_, ?_, ?_, ?_, ?_, ?_, ?_, ?_, ?_, ?_, ?_, ?_, ?_, ?_, ?_, ?_⟩ <;> (intro h; exact absurd h (by decide))
  · intro listed a w i hJ hi
    exact near_op ⟨HR, hn, h1, h2, by decide, hJ⟩ hi
  · intro listed a w hJ hall
    obtain ⟨p, q, rfl, hb, hp1, hq1, hp2, hq2, hpq⟩ := near_last hJ hall
    clear hJ
    obtain ⟨cf, cg, c0, c1, c2, c3, ls⟩ := HC.out
    have cg := Below.old hb cg
    have c0 := Below.old hb c0
    have c1 := Below.old hb c1
    have c2 := Below.old hb c2
    have c3 := Below.old hb c3
    obtain ⟨p0, p1⟩ := hp2.cell
    obtain ⟨q0, q1⟩ := hq2.cell
    have lp := hp2.lt
    have lq := hq2.lt
    have lw : W.heap.size + 1 < w.heap.size := Nat.lt_of_lt_of_le ls hb.size
    have lw0 : W.heap.size < w.heap.size := by omega
    have HP := Lib.hid hp2
    have HQ := Lib.hid hq2
    clear cf hall hp2 hq2 ls
    have HB := Lib.hid hb
    clear hb
    gi_wp2
    all_goals
      go_ret
      refine ⟨?_, ?_⟩
      · congr 2
        simp only [nearZ, allowOf, Int.max_def] at *
        repeat' split
        all_goals first | rfl | omega
      · exact (HB1.out.trans (HB.out.mono HB1.out.size)).alloc (Nat.le_trans HB1.out.size HB.out.size) _
theorem near_any2 (rs rl rw many : Int) (b o n c i1 i2 : Nat) (sh : Nat → Shaft) (W : World) (h1 : i1 < n) (h2 : i2 < n) (hn : n ≤ 9) (hst : Hid (StockOk rs rl rw many n sh)) (hsh : Hid (ShaftsAt W (some ⟨b, o, none⟩) n sh)) :
    CallsIn Fc 0 Tryz.prog 66 #[stockV rs rl rw many (some ⟨b, o, none⟩) n c, .int .i64 i1, .int .i64 i2, .agg #[.func (.func 109) #[] #[], .func (.func 110) #[] #[]]] W
      (SaysNear (nearZ (allowOf rs rl rw 2) (spanA (sh i1) 2) (spanB (sh i1) 2) (spanA (sh i2) 2) (spanB (sh i2) 2)) W) := by
  gi_enter Tryz.func66, Tryz.ntmps66
  gi_wp2
  have hB1 : Below W.heap.size W ((W.alloc (.cells #[.int .i64 rs, .int .i64 rl, .int .i64 rw, .int .i64 many, .slice (some ⟨b, o, none⟩) n c] 99)).alloc (.cells #[.func (.func 109) #[] #[], .func (.func 110) #[] #[]] 119)) := ((Below.refl _ _).alloc (Nat.le_refl _) _).alloc (by simp) _
  have cf : World.cell? ((W.alloc (.cells #[.int .i64 rs, .int .i64 rl, .int .i64 rw, .int .i64 many, .slice (some ⟨b, o, none⟩) n c] 99)).alloc (.cells #[.func (.func 109) #[] #[], .func (.func 110) #[] #[]] 119)) ⟨W.heap.size + 1, 0, none⟩ = some (.func (.func 109) #[] #[]) := by simp
  have cg : World.cell? ((W.alloc (.cells #[.int .i64 rs, .int .i64 rl, .int .i64 rw, .int .i64 many, .slice (some ⟨b, o, none⟩) n c] 99)).alloc (.cells #[.func (.func 109) #[] #[], .func (.func 110) #[] #[]] 119)) ⟨W.heap.size + 1, 1, none⟩ = some (.func (.func 110) #[] #[]) := by simp
  have c0 : World.cell? ((W.alloc (.cells #[.int .i64 rs, .int .i64 rl, .int .i64 rw, .int .i64 many, .slice (some ⟨b, o, none⟩) n c] 99)).alloc (.cells #[.func (.func 109) #[] #[], .func (.func 110) #[] #[]] 119)) ⟨W.heap.size, 0, none⟩ = some (.int .i64 rs) := by simp
  have c1 : World.cell? ((W.alloc (.cells #[.int .i64 rs, .int .i64 rl, .int .i64 rw, .int .i64 many, .slice (some ⟨b, o, none⟩) n c] 99)).alloc (.cells #[.func (.func 109) #[] #[], .func (.func 110) #[] #[]] 119)) ⟨W.heap.size, 1, none⟩ = some (.int .i64 rl) := by simp
  have c2 : World.cell? ((W.alloc (.cells #[.int .i64 rs, .int .i64 rl, .int .i64 rw, .int .i64 many, .slice (some ⟨b, o, none⟩) n c] 99)).alloc (.cells #[.func (.func 109) #[] #[], .func (.func 110) #[] #[]] 119)) ⟨W.heap.size, 2, none⟩ = some (.int .i64 rw) := by simp
  have c3 : World.cell? ((W.alloc (.cells #[.int .i64 rs, .int .i64 rl, .int .i64 rw, .int .i64 many, .slice (some ⟨b, o, none⟩) n c] 99)).alloc (.cells #[.func (.func 109) #[] #[], .func (.func 110) #[] #[]] 119)) ⟨W.heap.size, 3, none⟩ = some (.int .i64 many) := by simp
  have cs : World.cell? ((W.alloc (.cells #[.int .i64 rs, .int .i64 rl, .int .i64 rw, .int .i64 many, .slice (some ⟨b, o, none⟩) n c] 99)).alloc (.cells #[.func (.func 109) #[] #[], .func (.func 110) #[] #[]] 119)) ⟨W.heap.size, 4, none⟩ = some (.slice (some ⟨b, o, none⟩) n c) := by simp
  have ls : W.heap.size + 1 < ((W.alloc (.cells #[.int .i64 rs, .int .i64 rl, .int .i64 rw, .int .i64 many, .slice (some ⟨b, o, none⟩) n c] 99)).alloc (.cells #[.func (.func 109) #[] #[], .func (.func 110) #[] #[]] 119)).heap.size := by simp
  generalize (W.alloc (.cells #[.int .i64 rs, .int .i64 rl, .int .i64 rw, .int .i64 many, .slice (some ⟨b, o, none⟩) n c] 99)).alloc (.cells #[.func (.func 109) #[] #[], .func (.func 110) #[] #[]] 119) = W1 at *
  have hR : NearR W1 W.heap.size (W.heap.size + 1) b o n c i1 i2 109 5 (spanA (sh i1) 2) (spanB (sh i1) 2) (spanA (sh i2) 2) (spanB (sh i2) 2) := by
    obtain ⟨b', o', e, hx⟩ := hsh.out i1 h1
    cases e
    obtain ⟨b', o', e, hy⟩ := hsh.out i2 h2
    cases e
    have hx := hx.below hB1
    have hy := hy.below hB1
    exact ⟨by omega, ls, hx.lt, cf, cs, hx.h5, hx.h6, hy.h5, hy.h6⟩
  have HR := Lib.hid hR
  have HB1 := Lib.hid hB1
  have HC := Lib.hid (And.intro cf (And.intro cg (And.intro c0 (And.intro c1 (And.intro c2 (And.intro c3 ls))))))
  clear hR hB1 cf cg c0 c1 c2 c3 cs ls
  have hx := hst.out.each i1 h1
  have hy := hst.out.each i2 h2
  have hu := hst.out.rule
  have a0 : 0 ≤ spanA (sh i1) 2 ∧ spanA (sh i1) 2 ≤ 9999 := by have := hx.w0; have := hx.w1; have := hx.w2; simp only [spanA]; omega
  have a1 : 0 ≤ spanB (sh i1) 2 ∧ spanB (sh i1) 2 ≤ 9999 := by have := hx.w0; have := hx.w1; have := hx.w2; simp only [spanB]; omega
  have a2 : 0 ≤ spanA (sh i2) 2 ∧ spanA (sh i2) 2 ≤ 9999 := by have := hy.w0; have := hy.w1; have := hy.w2; simp only [spanA]; omega
  have a3 : 0 ≤ spanB (sh i2) 2 ∧ spanB (sh i2) 2 ≤ 9999 := by have := hy.w0; have := hy.w1; have := hy.w2; simp only [spanB]; omega
  generalize spanA (sh i1) 2 = x1 at *
  generalize spanB (sh i1) 2 = y1 at *
  generalize spanA (sh i2) 2 = x2 at *
  generalize spanB (sh i2) 2 = y2 at *
  obtain ⟨a0, a0'⟩ := a0
  obtain ⟨a1, a1'⟩ := a1
  obtain ⟨a2, a2'⟩ := a2
  obtain ⟨a3, a3'⟩ := a3
  clear hx hy hu
  refine wpIn_region_J (by kernel_rfl) near_back (J := NearJ W1 (stockV rs rl rw many (some ⟨b, o, none⟩) n c) (.agg #[.func (.func 109) #[] #[], .func (.func 110) #[] #[]]) W.heap.size (W.heap.size + 1) b o n c i1 i2 109 5 x1 y1 x2 y2) ?_ ?_ ?_
  · refine ⟨undef, undef, undef, undef, undef, undef, undef, undef, undef, undef, undef, undef, undef, undef, undef, undef, undef, undef, undef, undef, undef, undef, rfl, Below.drew (Below.refl _ _), ?_⟩
    refine ⟨?_, ?_, ?_, ?_, ?_, ?_, ?_, ?_, ?_, ?_, ?_, ?_, ?_, ?_, ?_, ?_, ?_, ?_, ?_, ?_, ?_, ?_, ?_, ?_, ?_⟩ <;> (intro h; exact absurd h (by decide))
  · intro listed a w i hJ hi
    exact near_op ⟨HR, hn, h1, h2, by decide, hJ⟩ hi
  · intro listed a w hJ hall
    obtain ⟨p, q, rfl, hb, hp1, hq1, hp2, hq2, hpq⟩ := near_last hJ hall
    clear hJ
    obtain ⟨cf, cg, c0, c1, c2, c3, ls⟩ := HC.out
    have cg := Below.old hb cg
    have c0 := Below.old hb c0
    have c1 := Below.old hb c1
    have c2 := Below.old hb c2
    have c3 := Below.old hb c3
    obtain ⟨p0, p1⟩ := hp2.cell
    obtain ⟨q0, q1⟩ := hq2.cell
    have lp := hp2.lt
    have lq := hq2.lt
    have lw : W.heap.size + 1 < w.heap.size := Nat.lt_of_lt_of_le ls hb.size
    have lw0 : W.heap.size < w.heap.size := by omega
    have HP := Lib.hid hp2
    have HQ := Lib.hid hq2
    clear cf hall hp2 hq2 ls
    have HB := Lib.hid hb
    clear hb
    gi_wp2
    all_goals
      go_ret
      refine ⟨?_, ?_⟩
      · congr 2
        simp only [nearZ, allowOf, Int.max_def] at *
        repeat' split
        all_goals first | rfl | omega
      · exact (HB1.out.trans (HB.out.mono HB1.out.size)).alloc (Nat.le_trans HB1.out.size HB.out.size) _
end Go.Proofs.YtpdmgecbapmgdaaGreat
end
section
namespace Go.Proofs.YtpdmgecbapmgdaaGreat
open Go.RowKit
def nearOf (rs rl rw : Int) (x y : Shaft) (m : Nat) : Int := nearZ (allowOf rs rl rw m) (spanA x m) (spanB x m) (spanA y m) (spanB y m)
def upTo (rs rl rw : Int) (x y : Shaft) : Nat → Int
  | 0 => 1
  | m + 1 => bothZ (upTo rs rl rw x y m) (nearOf rs rl rw x y m)
def pairZ (rs rl rw : Int) (x y : Shaft) : Int := upTo rs rl rw x y 3
theorem matchTwo_any (rs rl rw many : Int) (b o n c i1 i2 : Nat) (sh : Nat → Shaft) (W : World) (h1 : i1 < n) (h2 : i2 < n) (hn : n ≤ 9) (hst : Hid (StockOk rs rl rw many n sh)) (hsh : Hid (ShaftsAt W (some ⟨b, o, none⟩) n sh)) :
    CallsIn Fc 0 Tryz.prog 101 #[stockV rs rl rw many (some ⟨b, o, none⟩) n c, .int .i64 i1, .int .i64 i2] W (SaysNear (pairZ rs rl rw (sh i1) (sh i2)) W) := by
  gi_enter Tryz.func101, Tryz.ntmps101
  gi_wp2_with (gi_at_call 65; refine (measures_any _).mono ?_; rintro e w' ⟨rfl, rfl⟩)
  gi_loopw [7, 12] (fun sv i wr => ∃ k : Nat, k ≤ 3 ∧ i = .int .i64 k ∧ sv = .int .i64 (upTo rs rl rw (sh i1) (sh i2) k) ∧
      Below (W.heap.size + 2) ((W.alloc (.cells #[.int .i64 rs, .int .i64 rl, .int .i64 rw, .int .i64 many, .slice (some ⟨b, o, none⟩) n c] 99)).alloc (.cells measuresV 119)) wr) (fun _ i _ => 3 - (intOf i).toNat)
  case atStart => exact ⟨0, by omega, rfl, rfl, Below.refl _ _⟩
  case round =>
    obtain ⟨k, hk, rfl, rfl, hb⟩ := hrel
    have c0 : wr.cell? ⟨W.heap.size, 0, none⟩ = some (.int .i64 rs) := by rw [hb.cell (by simp)]; go_simp
    have c1 : wr.cell? ⟨W.heap.size, 1, none⟩ = some (.int .i64 rl) := by rw [hb.cell (by simp)]; go_simp
    have c2 : wr.cell? ⟨W.heap.size, 2, none⟩ = some (.int .i64 rw) := by rw [hb.cell (by simp)]; go_simp
    have c3 : wr.cell? ⟨W.heap.size, 3, none⟩ = some (.int .i64 many) := by rw [hb.cell (by simp)]; go_simp
    have c4 : wr.cell? ⟨W.heap.size, 4, none⟩ = some (.slice (some ⟨b, o, none⟩) n c) := by rw [hb.cell (by simp)]; go_simp
    have m0 : wr.cell? ⟨W.heap.size + 1, 0, none⟩ = some (.func (.func 105) #[] #[]) := by rw [hb.cell (by simp)]; simp [measuresV]
    have m1 : wr.cell? ⟨W.heap.size + 1, 1, none⟩ = some (.func (.func 106) #[] #[]) := by rw [hb.cell (by simp)]; simp [measuresV]
    have m2 : wr.cell? ⟨W.heap.size + 1, 2, none⟩ = some (.func (.func 107) #[] #[]) := by rw [hb.cell (by simp)]; simp [measuresV]
    have m3 : wr.cell? ⟨W.heap.size + 1, 3, none⟩ = some (.func (.func 108) #[] #[]) := by rw [hb.cell (by simp)]; simp [measuresV]
    have m4 : wr.cell? ⟨W.heap.size + 1, 4, none⟩ = some (.func (.func 109) #[] #[]) := by rw [hb.cell (by simp)]; simp [measuresV]
    have m5 : wr.cell? ⟨W.heap.size + 1, 5, none⟩ = some (.func (.func 110) #[] #[]) := by rw [hb.cell (by simp)]; simp [measuresV]
    have hz1 : W.heap.size + 1 < wr.heap.size := by have := hb.size; simp at this; omega
    have hz0 : W.heap.size < wr.heap.size := by omega
    have hBW : Below W.heap.size W wr := (((Below.refl W.heap.size W).alloc (Nat.le_refl _) _).alloc (by simp) _).trans (hb.mono (by omega))
    have HS := Lib.hid (hsh.out.below hBW)
    have HB := Lib.hid hb
    have HBW := Lib.hid hBW
    clear hb hBW
    by_cases hlt : k < 3
    · have h3 : k = 0 ∨ k = 1 ∨ k = 2 := by omega
      rcases h3 with rfl | rfl | rfl
      · gi_wp2_with (first
          | (gi_at_call 66; refine (near_any0 rs rl rw many b o n c i1 i2 sh _ h1 h2 hn hst (Lib.hid (HS.out.below ((Below.refl _ _).alloc (Nat.le_refl _) _)))).mono ?_; rintro e w2 ⟨rfl, hb2⟩)
          | (gi_at_call 102; refine (both_any _ _ _).mono ?_; rintro e w' ⟨rfl, rfl⟩))
        have hs2 := hb2.size
        simp at hs2
        go_roundw
        case rel => exact ⟨0 + 1, by omega, by first | rfl | go_num, rfl, (HB.out.alloc (by omega) _).trans (hb2.mono (by simp; omega))⟩
        case measure => simp [intOf]
      · gi_wp2_with (first
          | (gi_at_call 66; refine (near_any1 rs rl rw many b o n c i1 i2 sh _ h1 h2 hn hst (Lib.hid (HS.out.below ((Below.refl _ _).alloc (Nat.le_refl _) _)))).mono ?_; rintro e w2 ⟨rfl, hb2⟩)
          | (gi_at_call 102; refine (both_any _ _ _).mono ?_; rintro e w' ⟨rfl, rfl⟩))
        have hs2 := hb2.size
        simp at hs2
        go_roundw
        case rel => exact ⟨1 + 1, by omega, by first | rfl | go_num, rfl, (HB.out.alloc (by omega) _).trans (hb2.mono (by simp; omega))⟩
        case measure => simp [intOf]
      · gi_wp2_with (first
          | (gi_at_call 66; refine (near_any2 rs rl rw many b o n c i1 i2 sh _ h1 h2 hn hst (Lib.hid (HS.out.below ((Below.refl _ _).alloc (Nat.le_refl _) _)))).mono ?_; rintro e w2 ⟨rfl, hb2⟩)
          | (gi_at_call 102; refine (both_any _ _ _).mono ?_; rintro e w' ⟨rfl, rfl⟩))
        have hs2 := hb2.size
        simp at hs2
        go_roundw
        case rel => exact ⟨2 + 1, by omega, by first | rfl | go_num, rfl, (HB.out.alloc (by omega) _).trans (hb2.mono (by simp; omega))⟩
        case measure => simp [intOf]
    · obtain rfl : k = 3 := by omega
      gi_wp2
      go_ret
      exact ⟨rfl, HBW.out⟩
end Go.Proofs.YtpdmgecbapmgdaaGreat
end
section
namespace Go.Proofs.YtpdmgecbapmgdaaGreat
open Go.RowKit
def ckAt (rs rl rw many : Int) (A : Option Addr) (n c : Nat) (P : Nat → Int) : Nat → Value
  | 0 => .int .i64 rs
  | 1 => .int .i64 rl
  | 2 => .int .i64 rw
  | 3 => .int .i64 many
  | 4 => .slice A n c
  | i + 5 => .int .i64 (P i)
def ckCells (rs rl rw many : Int) (A : Option Addr) (n c : Nat) (P : Nat → Int) : Array Value := Array.ofFn (n := 86) fun i => ckAt rs rl rw many A n c P i.val
theorem zero106 (w : World) : (Instr.alloc 106 true (.tuple #[])).run Tryz.prog w = .ok (.pointer (some ⟨w.heap.size, 0, none⟩)) (w.alloc (.cells Tryz.zeroCells106 106)) := by kernel_rfl
theorem i106 : (Tryz.prog.info? 106).map (·.size) = some 86 := by kernel_rfl
theorem zc106 : Tryz.zeroCells106.size = 86 := by kernel_rfl
theorem ck_size (rs rl rw many : Int) (A : Option Addr) (n c : Nat) (P : Nat → Int) : (ckCells rs rl rw many A n c P).size = 86 := by simp [ckCells]
theorem ck_get {rs rl rw many : Int} {A : Option Addr} {n c : Nat} {P : Nat → Int} {i : Nat} (h : i < 86) : (ckCells rs rl rw many A n c P)[i]? = some (ckAt rs rl rw many A n c P i) := by
  simp [ckCells, h]
theorem ck_one (rs rl rw many : Int) (A : Option Addr) (n c : Nat) (P : Nat → Int) (i : Nat) : (ckAt rs rl rw many A n c P i).oneCell' = true := by
  unfold ckAt; split <;> rfl
theorem ck_set {rs rl rw many : Int} {A : Option Addr} {n c : Nat} {P : Nat → Int} {i : Nat} (x : Int) : (ckCells rs rl rw many A n c P).setIfInBounds (5 + i) (.int .i64 x) = ckCells rs rl rw many A n c (fun j => if j = i then x else P j) := by
  apply Array.ext_getElem?
  intro j
  rw [Array.getElem?_setIfInBounds, ck_size]
  rcases Nat.lt_or_ge j 86 with hj | hj
  · rw [ck_get hj, ck_get hj]
    by_cases e : 5 + i = j
    · subst e
      rw [if_pos rfl, if_pos hj]
      rw [Nat.add_comm]
      show _ = some (ckAt rs rl rw many A n c _ (i + 5))
      simp only [ckAt, if_true]
    · rw [if_neg e]
      match j, e with
      | 0, _ => rfl
      | 1, _ => rfl
      | 2, _ => rfl
      | 3, _ => rfl
      | 4, _ => rfl
      | j + 5, e => simp only [ckAt]; rw [if_neg (by omega)]
  · rw [Array.getElem?_eq_none (by rw [ck_size]; exact hj), Array.getElem?_eq_none (by rw [ck_size]; exact hj)]
    by_cases e : 5 + i = j
    · rw [if_pos e, if_neg (by omega)]
    · rw [if_neg e]
section
variable {ops : Array Oper} {rest : List Oper} {o : Oper} {a : Act} {w : World} {Q : Exit → Act → World → Prop}
theorem wpListIn_run {v : Value} {w' : World} (hg : o.guard = none) (hc : ∀ c, o.op ≠ .call c) (hd : ∀ c, o.op ≠ .defer c) (hr : (execOp a.eval o).run Tryz.prog w = .ok (.value v) w') (h : wpListIn Fc 0 Tryz.prog ops Q rest (a.put o.dst v) w') : wpListIn Fc 0 Tryz.prog ops Q (o :: rest) a w := by
  refine wpListIn_plain hg fun K hK => ?_
  unfold Oper.wpIn
  refine ⟨?_, ?_⟩
  · intro f hf
    unfold Oper.about at hf
    split at hf
    · next c hc' => exact absurd hc' (hc c)
    · cases hf
  · rw [Oper.semAt_plain Fc _ _ hd, hr]
    exact hK _ _ h
theorem wpListIn_skip {w' : World} (hg : o.guard = none) (hc : ∀ c, o.op ≠ .call c) (hd : ∀ c, o.op ≠ .defer c) (hr : (execOp a.eval o).run Tryz.prog w = .ok .skip w') (h : wpListIn Fc 0 Tryz.prog ops Q rest (a.put o.dst undef) w') : wpListIn Fc 0 Tryz.prog ops Q (o :: rest) a w := by
  refine wpListIn_plain hg fun K hK => ?_
  unfold Oper.wpIn
  refine ⟨?_, ?_⟩
  · intro f hf
    unfold Oper.about at hf
    split at hf
    · next c hc' => exact absurd hc' (hc c)
    · cases hf
  · rw [Oper.semAt_plain Fc _ _ hd, hr]
    exact hK _ _ h
theorem wpListIn_alloc106 (hg : o.guard = none) (hop : o.op = .alloc 106) (h : wpListIn Fc 0 Tryz.prog ops Q rest (a.put o.dst (.pointer (some ⟨w.heap.size, 0, none⟩))) (w.alloc (.cells Tryz.zeroCells106 106))) : wpListIn Fc 0 Tryz.prog ops Q (o :: rest) a w := by
  refine wpListIn_run hg (by rw [hop]; intro c e; cases e) (by rw [hop]; intro c e; cases e) ?_ h
  unfold execOp
  rw [hop]
  show (do pure (.value (← Instr.alloc 106 true (.tuple #[]))) : Sem Next).run Tryz.prog w = _
  rw [Sem.run_bind, zero106]
  rfl
theorem wpListIn_store106 (hg : o.guard = none) (p x : Operand) (hop : o.op = .store 106 p x) (g : Nat) (cells old : Array Value) (hp : a.eval p = .pointer (some ⟨g, 0, none⟩)) (hx : a.eval x = .agg cells) (hb : w.heap[g]? = some (.cells old 106 (0, 0))) (ho : old.size = 86) (hs : cells.size = 86) (h1 : cells.all (·.oneCell') = true)
    (h : ∀ w', w.grownBy w' (some g) → w'.heap[g]? = some (.cells cells 106 (0, 0)) → wpListIn Fc 0 Tryz.prog ops Q rest (a.put o.dst undef) w') : wpListIn Fc 0 Tryz.prog ops Q (o :: rest) a w := by
  have hgr : w.grownBy (w.setRow g cells) (some g) := by
    refine ⟨rfl, rfl, rfl, by simp [World.setRow], fun k hk hne => ?_⟩
    simp only [World.setRow, Array.getElem?_modify]
    rw [if_neg (fun e => hne (by rw [e]))]
  have hbl := setRow_heap w g old cells 106 (0, 0) hb
  have hrun : (storeVar 106 ⟨g, 0, none⟩ (.agg cells)).run Tryz.prog w = .ok () (w.setRow g cells) := run_storeVar_row w g 106 106 old cells hb (by rw [i106, hs]) (by rw [ho, hs]) h1
  generalize w.setRow g cells = w1 at *
  have h2 := h w1 hgr hbl
  refine wpListIn_skip (w' := w1) hg (by rw [hop]; intro c e; cases e) (by rw [hop]; intro c e; cases e) ?_ h2
  · unfold execOp
    rw [hop]
    show (do Instr.storeAt 106 (a.eval p) (a.eval x); pure .skip : Sem Next).run Tryz.prog w = _
    have e : (Instr.storeAt 106 (a.eval p) (a.eval x)).run Tryz.prog w = .ok () w1 := by
      rw [hp, hx]
      exact hrun
    rw [Sem.run_bind, e]
    rfl
theorem u106 : (match Tryz.prog.underlying 106 with | some (.struct _) => true | _ => false) = true := by kernel_rfl
theorem load106 (w : World) (g : Nat) (cs : Array Value) (hb : w.heap[g]? = some (.cells cs 106 (0, 0))) (hs : cs.size = 86) : (loadVar 106 ⟨g, 0, none⟩).run Tryz.prog w = .ok (.agg cs) w := by
  have h := u106
  split at h
  · next fs hu => exact run_loadVar_row w g 106 106 cs (0, 0) (.struct fs) hb hu rfl (by rw [i106, hs])
  · cases h
theorem wpListIn_load106 (hg : o.guard = none) (p : Operand) (hop : o.op = .load 106 p) (g : Nat) (cells : Array Value) (hp : a.eval p = .pointer (some ⟨g, 0, none⟩)) (hb : w.heap[g]? = some (.cells cells 106 (0, 0))) (hs : cells.size = 86)
    (h : wpListIn Fc 0 Tryz.prog ops Q rest (a.put o.dst (.agg cells)) w) : wpListIn Fc 0 Tryz.prog ops Q (o :: rest) a w := by
  refine wpListIn_run hg (by rw [hop]; intro c e; cases e) (by rw [hop]; intro c e; cases e) ?_ h
  unfold execOp
  rw [hop]
  show (do pure (.value (← Instr.loadAt 106 (a.eval p))) : Sem Next).run Tryz.prog w = _
  have e : (Instr.loadAt 106 (a.eval p)).run Tryz.prog w = .ok (.agg cells) w := by
    rw [hp]
    exact load106 w g cells hb hs
  rw [Sem.run_bind, e]
  rfl
end
end Go.Proofs.YtpdmgecbapmgdaaGreat
end
section
namespace Go.Proofs.YtpdmgecbapmgdaaGreat
open Go.RowKit
def CkInv (W : World) (rs rl rw many : Int) (A : Option Addr) (n c : Nat) (sh : Nat → Shaft) (kt ko : Nat) (wr : World) : Prop :=
  Below W.heap.size W wr ∧ wr.heap[W.heap.size + 1]? = some (.cells Tryz.zeroCells106 106 (0, 0)) ∧
  ∃ P : Nat → Int, wr.heap[W.heap.size + 2]? = some (.cells (ckCells rs rl rw many A n c P) 106 (0, 0)) ∧ ∀ two one, one < two → (two < kt ∨ (two = kt ∧ one < ko)) → P (one * 9 + two) = pairZ rs rl rw (sh one) (sh two)
theorem ck_cell {w : World} {g : Nat} {rs rl rw many : Int} {A : Option Addr} {n c : Nat} {P : Nat → Int} (h : w.heap[g]? = some (.cells (ckCells rs rl rw many A n c P) 106 (0, 0))) {i : Nat} (hi : i < 86) : w.cell? ⟨g, i, none⟩ = some (ckAt rs rl rw many A n c P i) := by
  simp only [World.cell?, h, Option.isSome_none, Bool.false_eq_true, if_false]
  exact ck_get hi
theorem zset (rs rl rw many : Int) (A : Option Addr) (n c : Nat) : (((((Tryz.zeroCells106.setIfInBounds 0 (.int .i64 rs)).setIfInBounds 1 (.int .i64 rl)).setIfInBounds 2 (.int .i64 rw)).setIfInBounds 3 (.int .i64 many)).setIfInBounds 4 (.slice A n c)) = ckCells rs rl rw many A n c fun _ => 0 := by kernel_rfl
theorem ck_all (rs rl rw many : Int) (A : Option Addr) (n c : Nat) (P : Nat → Int) : (ckCells rs rl rw many A n c P).all (·.oneCell') = true := by
  rw [Array.all_eq_true]
  intro i h
  rw [ck_size] at h
  have h1 := ck_get (rs := rs) (rl := rl) (rw := rw) (many := many) (A := A) (n := n) (c := c) (P := P) h
  rw [Array.getElem?_eq_getElem (by rw [ck_size]; exact h)] at h1
  rw [Option.some.inj h1]
  exact ck_one _ _ _ _ _ _ _ _ _
theorem ck_frozen {w : World} {g : Nat} {cs : Array Value} (h : w.heap[g]? = some (.cells cs 106 (0, 0))) (i : Nat) : w.frozen? ⟨g, i, none⟩ = false := by simp [World.frozen?, h]
theorem ck_ready {w w' : World} {g : Nat} {rs rl rw many : Int} {A : Option Addr} {n c : Nat} {P : Nat → Int} (h : w.heap[g]? = some (.cells (ckCells rs rl rw many A n c P) 106 (0, 0))) (hb : Below w.heap.size w w') {i : Nat} (hi : 5 + i < 86) :
    w'.cell? ⟨g, 5 + i, none⟩ = some (.int .i64 (P i)) ∧ w'.frozen? ⟨g, 5 + i, none⟩ = false ∧ w'.heap[g]? = some (.cells (ckCells rs rl rw many A n c P) 106 (0, 0)) := by
  have hl : g < w.heap.size := (Array.getElem?_eq_some_iff.1 h).1
  have h' : w'.heap[g]? = some (.cells (ckCells rs rl rw many A n c P) 106 (0, 0)) := by rw [hb.block g hl]; exact h
  refine ⟨?_, ck_frozen h' _, h'⟩
  rw [ck_cell h' hi, Nat.add_comm 5 i]
  rfl
theorem CkInv.step {W wr w5 : World} {rs rl rw many : Int} {A : Option Addr} {n c : Nat} {sh : Nat → Shaft} {k j : Nat} (hI : CkInv W rs rl rw many A n c sh k j wr) (hb : Below wr.drew.heap.size wr.drew w5) (hj : j < k) (hk : k < 9) :
    CkInv W rs rl rw many A n c sh k (j + 1) (w5.setCell ⟨W.heap.size + 1 + 1, 5 + j * 9 + k, none⟩ (.int .i64 (pairZ rs rl rw (sh j) (sh k)))) := by
  obtain ⟨hB, h1, P, h2, h3⟩ := hI
  have hl1 : W.heap.size + 1 < wr.heap.size := (Array.getElem?_eq_some_iff.1 h1).1
  have hl2 : W.heap.size + 2 < wr.heap.size := (Array.getElem?_eq_some_iff.1 h2).1
  have h5 : w5.heap[W.heap.size + 2]? = some (.cells (ckCells rs rl rw many A n c P) 106 (0, 0)) := by rw [hb.block _ hl2]; exact h2
  have h4 : w5.heap[W.heap.size + 1]? = some (.cells Tryz.zeroCells106 106 (0, 0)) := by rw [hb.block _ hl1]; exact h1
  refine ⟨(hB.drew.trans (hb.mono hB.size)).setCell (by show W.heap.size ≤ W.heap.size + 1 + 1; omega) _, ?_, fun i => if i = j * 9 + k then pairZ rs rl rw (sh j) (sh k) else P i, ?_, ?_⟩
  · rw [Below.heap_setCell _ _ _ _ (by show W.heap.size + 1 ≠ W.heap.size + 1 + 1; omega)]
    exact h4
  · simp only [World.setCell, Array.getElem?_modify]
    rw [if_pos trivial, h5]
    simp only [Option.map_some, Option.isSome_none, Bool.false_eq_true, if_false]
    rw [Nat.add_assoc, ck_set]
  · intro two one h6 h7
    show (if one * 9 + two = j * 9 + k then pairZ rs rl rw (sh j) (sh k) else P (one * 9 + two)) = _
    by_cases e : one * 9 + two = j * 9 + k
    · rw [if_pos e]
      have e1 : one = j := by omega
      have e2 : two = k := by omega
      rw [e1, e2]
    · rw [if_neg e]
      refine h3 two one h6 ?_
      rcases h7 with h7 | ⟨h7, h8⟩
      · exact .inl h7
      · refine .inr ⟨h7, ?_⟩
        rcases Nat.lt_succ_iff_lt_or_eq.1 h8 with h9 | h9
        · exact h9
        · subst h9; subst h7; exact absurd rfl e
theorem results_ck {fn : Func} {tmps : Array Value} {w : World} {g : Nat} {cs : Array Value} (h : fn.results = #[.cell 2 106]) (ht : tmps.getD 2 undef = .pointer (some ⟨g, 0, none⟩)) (hb : w.heap[g]? = some (.cells cs 106 (0, 0))) (hs : cs.size = 86) :
    (results fn tmps).run Tryz.prog w = .ok (.agg cs) w := by
  have e := load106 w g cs hb hs
  have ht' : tmps[2]?.getD undef = .pointer (some ⟨g, 0, none⟩) := by rw [← ht, Array.getD_eq_getD_getElem?]
  unfold results
  rw [h]
  simp [ht', asAddr, e]
def HandsChecked (W : World) (rs rl rw many : Int) (A : Option Addr) (n c : Nat) (sh : Nat → Shaft) (e : Ending) (w' : World) : Prop :=
  ∃ P : Nat → Int, e = .returned (.agg (ckCells rs rl rw many A n c P)) ∧ (∀ two one, one < two → two < n → P (one * 9 + two) = pairZ rs rl rw (sh one) (sh two)) ∧ Below W.heap.size W w'
theorem checked_any (rs rl rw many : Int) (A : Option Addr) (n c : Nat) (sh : Nat → Shaft) (W : World) (hst : Hid (StockOk rs rl rw many n sh)) (hsh : Hid (ShaftsAt W A n sh)) :
    CallsIn Fc 0 Tryz.prog 58 #[stockV rs rl rw many A n c] W (HandsChecked W rs rl rw many A n c sh) := by
  have hn := hst.out.count
  have hsz : ∀ a b : Obj, ((W.alloc a).alloc b).heap.size = W.heap.size + 1 + 1 := fun a b => by simp
  have HSZ := Lib.hid hsz
  clear hsz
  gi_enter Tryz.func58, Tryz.ntmps58
  gi_wp2_with (first
    | (refine wpListIn_alloc106 rfl rfl ?_)
    | (refine wpListIn_store106 rfl _ _ rfl _ _ Tryz.zeroCells106 rfl rfl (heap_new' (by simp)) zc106 (by rw [zset]; exact ck_size _ _ _ _ _ _ _ _) (by rw [zset]; exact ck_all _ _ _ _ _ _ _ _) ?_; intro w4 hg4 hb4; rw [zset, HSZ.out] at hb4; rw [HSZ.out] at hg4; have c4 : w4.cell? ⟨W.heap.size + 1 + 1, 4, none⟩ = some (.slice A n c) := ck_cell hb4 (by decide); have HB4 := Lib.hid hb4; have HG4 := Lib.hid hg4; clear hb4 hg4))
  have hinv : CkInv W rs rl rw many A n c sh 0 0 w4 := by
    refine ⟨((((Below.refl W.heap.size W).alloc (Nat.le_refl _) _).alloc (by simp) _).alloc (by simp; omega) _).grown HG4.out (by simp; omega) (fun k e => by cases e; omega), ?_, fun _ => 0, HB4.out, fun two one h1 h2 => by omega⟩
    rw [HG4.out.block (W.heap.size + 1) (by simp) (by simp)]
    exact heap_old (heap_new' (by simp))
  have HI0 := Lib.hid hinv
  clear hinv c4
  gi_loopw [13] (fun i wr => ∃ k : Nat, k ≤ n ∧ i = .int .i64 k ∧ CkInv W rs rl rw many A n c sh k 0 wr) (fun i _ => n - (intOf i).toNat)
  case atStart => exact ⟨0, by omega, rfl, HI0.out⟩
  case round =>
    obtain ⟨k, hk, rfl, hinv⟩ := hrel
    have HI := Lib.hid hinv
    clear hinv
    by_cases hlt : k < n
    · obtain ⟨b, o, rfl, _⟩ := hsh.out k hlt
      gi_wp2
      gi_loopw [17] (fun i wi => ∃ j : Nat, j ≤ k ∧ i = .int .i64 j ∧ CkInv W rs rl rw many (some ⟨b, o, none⟩) n c sh k j wi) (fun i _ => k - (intOf i).toNat)
      case atStart => exact ⟨0, by omega, rfl, HI.out⟩
      case round =>
        obtain ⟨j, hj, rfl, hinv⟩ := hrel
        by_cases hlj : j < k
        · have HINV := Lib.hid hinv
          obtain ⟨hB, h1, P, h2, h3⟩ := hinv
          have d0 : wr.cell? ⟨W.heap.size + 1 + 1, 0, none⟩ = some (.int .i64 rs) := ck_cell h2 (by decide)
          have d1 : wr.cell? ⟨W.heap.size + 1 + 1, 1, none⟩ = some (.int .i64 rl) := ck_cell h2 (by decide)
          have d2 : wr.cell? ⟨W.heap.size + 1 + 1, 2, none⟩ = some (.int .i64 rw) := ck_cell h2 (by decide)
          have d3 : wr.cell? ⟨W.heap.size + 1 + 1, 3, none⟩ = some (.int .i64 many) := ck_cell h2 (by decide)
          have d4 : wr.cell? ⟨W.heap.size + 1 + 1, 4, none⟩ = some (.slice (some ⟨b, o, none⟩) n c) := ck_cell h2 (by decide)
          have HB := Lib.hid hB
          have H1 := Lib.hid h1
          have H2 := Lib.hid h2
          have H3 := Lib.hid h3
          clear hB h1 h2 h3
          gi_wp2
          gi_region_with (gi_at_call 101; refine (matchTwo_any rs rl rw many b o n c j k sh _ (by omega) (by omega) (by omega) hst (Lib.hid (hsh.out.below HB.out.drew))).mono ?_; rintro e w5 ⟨rfl, hb5⟩; obtain ⟨f5, g5, h5⟩ := ck_ready (w := wr.drew) H2.out hb5 (i := j * 9 + k) (by omega); rw [← Nat.add_assoc] at f5 g5; have H5 := Lib.hid h5; have B5 := Lib.hid hb5; clear h5 hb5)
          all_goals
            gi_wp2
            go_roundw
            case rel => exact ⟨j + 1, by omega, by go_num, HINV.out.step B5.out hlj (by omega)⟩
            case measure => simp [intOf]; omega
        · obtain rfl : j = k := by omega
          have HJ := Lib.hid hinv
          clear hinv
          gi_wp2
          go_roundw
          case rel =>
            obtain ⟨hB, h1, P, h2, h3⟩ := HJ.out
            exact ⟨j + 1, by omega, by go_num, hB, h1, P, h2, fun two one h4 h5 => h3 two one h4 (by omega)⟩
          case measure => simp [intOf]; omega
    · obtain ⟨hB, h1, P, h2, h3⟩ := HI.out
      gi_wp2_with (first
        | (refine wpListIn_load106 rfl _ rfl _ _ rfl h2 (ck_size _ _ _ _ _ _ _ _) ?_)
        | (refine wpListIn_store106 rfl _ _ rfl _ _ Tryz.zeroCells106 rfl rfl h1 zc106 (ck_size _ _ _ _ _ _ _ _) (ck_all _ _ _ _ _ _ _ _) ?_; intro w6 hg6 hb6))
      refine bodyPost_ret (v := .agg (ckCells rs rl rw many A n c P)) (results_ck rfl rfl hb6 (ck_size _ _ _ _ _ _ _ _)) rfl ?_
      obtain rfl : k = n := by omega
      exact ⟨P, rfl, fun two one h4 h5 => h3 two one h4 (.inl h5), hB.grown hg6 hB.size (fun j e => by cases e; omega)⟩
end Go.Proofs.YtpdmgecbapmgdaaGreat
end
section
namespace Go.Proofs.YtpdmgecbapmgdaaGreat
open Go.RowKit
def rowZ (T : Nat → Nat → Int) (l : Nat → Nat) (i : Nat) : Nat → Int → Int
  | 0, s => s
  | j + 1, s => bothZ (rowZ T l i j s) (T (l j) (l i))
def listZ (T : Nat → Nat → Int) (l : Nat → Nat) : Nat → Int
  | 0 => 1
  | i + 1 => rowZ T l i i (listZ T l i)
theorem match_any (rs rl rw many : Int) (A : Option Addr) (n c : Nat) (P : Nat → Int) (LA : Option Addr) (m lc : Nat) (l : Nat → Nat) (W : World) (hm : m ≤ 9) (hmc : m ≤ lc) (hl : Hid (∀ k, k < m → l k < 9)) (hi : Hid (IntsAt W LA m fun k => (l k : Int))) :
    CallsIn Fc 0 Tryz.prog 59 #[.agg (ckCells rs rl rw many A n c P), .slice LA m lc] W (SaysNear (listZ (fun one two => P (one * 9 + two)) l m) W) := by
  gi_enter Tryz.func59, Tryz.ntmps59
  gi_wp2
  gi_loopw [5, 12] (fun sv i wr => ∃ k : Nat, k ≤ m ∧ i = .int .i64 k ∧ sv = .int .i64 (listZ (fun one two => P (one * 9 + two)) l k) ∧ wr = W.alloc (.cells (ckCells rs rl rw many A n c P) 106)) (fun _ i _ => m - (intOf i).toNat)
  case atStart => exact ⟨0, by omega, rfl, rfl, rfl⟩
  case round =>
    obtain ⟨k, hk, rfl, rfl, rfl⟩ := hrel
    by_cases hlt : k < m
    · obtain ⟨b, o, rfl, hc⟩ := hi.out k hlt
      have hlb : b < W.heap.size := World.block_lt_of_cell? W _ hc
      have HC := Lib.hid hc
      have hkc : k ≤ lc := by omega
      have hlk := hl.out k hlt
      gi_wp2
      gi_loopw [5, 21] (fun sv i wi => ∃ j : Nat, j ≤ k ∧ i = .int .i64 j ∧ sv = .int .i64 (rowZ (fun one two => P (one * 9 + two)) l k j (listZ (fun one two => P (one * 9 + two)) l k)) ∧ wi = W.alloc (.cells (ckCells rs rl rw many A n c P) 106)) (fun _ i _ => k - (intOf i).toNat)
      case atStart => exact ⟨0, by omega, rfl, rfl, rfl⟩
      case round =>
        obtain ⟨j, hj, rfl, rfl, rfl⟩ := hrel
        by_cases hlj : j < k
        · obtain ⟨b', o', e, hcj⟩ := hi.out j (by omega)
          cases e
          have hlj' := hl.out j (by omega)
          have hg : (W.alloc (.cells (ckCells rs rl rw many A n c P) 106)).cell? ⟨W.heap.size, 5 + l j * 9 + l k, none⟩ = some (.int .i64 (P (l j * 9 + l k))) := by
            rw [Nat.add_assoc, ck_cell (heap_new _ _) (by omega), Nat.add_comm 5]
            rfl
          gi_wp2_with (gi_at_call 102; refine (both_any _ _ _).mono ?_; rintro e w' ⟨rfl, rfl⟩)
          go_roundw
          case rel => exact ⟨j + 1, by omega, by go_num, rfl, trivial⟩
          case measure => simp [intOf]; omega
        · obtain rfl : j = k := by omega
          gi_wp2
          go_roundw
          case rel => exact ⟨j + 1, by omega, by go_num, rfl, trivial⟩
          case measure => simp [intOf]; omega
    · gi_wp2
      go_ret
      obtain rfl : k = m := by omega
      exact ⟨rfl, (Below.refl _ _).alloc (Nat.le_refl _) _⟩
end Go.Proofs.YtpdmgecbapmgdaaGreat
end
section
namespace Go.Proofs.YtpdmgecbapmgdaaGreat
open Go.RowKit
def matchZ (rs rl rw : Int) (sh : Nat → Shaft) (l : Nat → Nat) (m : Nat) : Int := listZ (fun one two => pairZ rs rl rw (sh one) (sh two)) l m
theorem rowZ_congr {T U : Nat → Nat → Int} {l : Nat → Nat} {i : Nat} : ∀ (j : Nat) (s : Int), (∀ k, k < j → T (l k) (l i) = U (l k) (l i)) → rowZ T l i j s = rowZ U l i j s
  | 0, s, _ => rfl
  | j + 1, s, h => by
    simp only [rowZ]
    rw [rowZ_congr j s (fun k hk => h k (by omega)), h j (by omega)]
theorem listZ_congr {T U : Nat → Nat → Int} {l : Nat → Nat} : ∀ (m : Nat), (∀ j i, j < i → i < m → T (l j) (l i) = U (l j) (l i)) → listZ T l m = listZ U l m
  | 0, _ => rfl
  | m + 1, h => by
    simp only [listZ]
    rw [listZ_congr m (fun j i h1 h2 => h j i h1 (by omega)), rowZ_congr m _ (fun k hk => h k m hk (by omega))]
def SaysMatch (v : Int) (w : World) (e : Ending) (w' : World) : Prop := e = .returned (.tuple #[.int .i64 v, .int .i64 0]) ∧ Below w.heap.size w w'
theorem Match_any (rs rl rw many : Int) (A : Option Addr) (n c : Nat) (sh : Nat → Shaft) (LA : Option Addr) (m lc : Nat) (l : Nat → Nat) (W : World) (hc : n ≤ c) (hst : Hid (StockOk rs rl rw many n sh)) (hsh : Hid (ShaftsAt W A n sh))
    (hm : m ≤ 9) (hmc : m ≤ lc) (hl : Hid (∀ k, k < m → l k < n)) (hasc : Hid (∀ j k, j < k → k < m → l j < l k)) (hi : Hid (IntsAt W LA m fun k => (l k : Int))) :
    CallsIn Fc 0 Tryz.prog 15 #[stockV rs rl rw many A n c, .slice LA m lc] W (SaysMatch (matchZ rs rl rw sh l m) W) := by
  have hn := hst.out.count
  have hB2 : ∀ x y, Below W.heap.size W (((W.alloc x).alloc y).drew) := fun x y => (((Below.refl _ _).alloc (Nat.le_refl _) _).alloc (by simp) _).drew
  have HB2 := Lib.hid hB2
  have hlo : ListOk (fun k => (l k : Int)) m n := ⟨fun k hk => ⟨Int.natCast_nonneg _, Int.ofNat_lt.2 (hl.out k hk)⟩, fun k hk => Int.ofNat_lt.2 (hasc.out k (k + 1) (by omega) hk)⟩
  have HLO := Lib.hid hlo
  clear hB2 hlo
  gi_enter Tryz.func15, Tryz.ntmps15
  gi_wp2
  gi_region_with (first
    | (gi_at_call 57; refine (hasList_any LA m lc rs rl rw many A n c _).mono ?_; rintro e w5 ⟨lp, sp, rfl, hbox, hb5⟩
       have e0 : w5.cell? ⟨W.heap.size + 1, 0, none⟩ = some (.int .i64 rs) := Below.old hb5 (by go_simp)
       have e1 : w5.cell? ⟨W.heap.size + 1, 1, none⟩ = some (.int .i64 rl) := Below.old hb5 (by go_simp)
       have e2 : w5.cell? ⟨W.heap.size + 1, 2, none⟩ = some (.int .i64 rw) := Below.old hb5 (by go_simp)
       have e3 : w5.cell? ⟨W.heap.size + 1, 3, none⟩ = some (.int .i64 many) := Below.old hb5 (by go_simp)
       have e4 : w5.cell? ⟨W.heap.size + 1, 4, none⟩ = some (.slice A n c) := Below.old hb5 (by go_simp)
       have HBX := Lib.hid hbox
       have HB5 := Lib.hid ((HB2.out _ _).trans (hb5.mono (HB2.out _ _).size))
       clear hbox hb5)
    | (gi_at_call 55
       refine (firstFoul_ok _ 2 _ _ (by omega) (Lib.hid fun u hu => by
         have h2 : u = 0 ∨ u = 1 := by omega
         rcases h2 with rfl | rfl
         · exact ⟨.func (.func 56) #[stockV rs rl rw many A n c] #[], by go_simp, .inl ⟨56, _, by simp, rfl, fun w' hb => check_ok rs rl rw many A n c sh w' hc hst (Lib.hid ((hsh.out.below (HB5.out.alloc HB5.out.size _)).below hb))⟩⟩
         · exact ⟨.func (.func 99) #[] #[ptr lp, ptr sp], by go_simp, .inr (.inr ⟨lp, sp, rfl, fun w' hb => hasList1_ok lp sp LA m lc _ rs rl rw many A n c w' hn (by omega) (Lib.hid (HBX.out.below (((Below.refl _ _).alloc (Nat.le_refl _) _).trans (hb.mono (by simp))))) HLO (Lib.hid ((hi.out.below (HB5.out.alloc HB5.out.size _)).below hb))⟩)⟩)).mono ?_
       rintro e w6 ⟨rfl, hb6⟩
       have f0 := Below.old hb6 (Below.old ((Below.refl _ _).alloc (Nat.le_refl _) _) e0)
       have f1 := Below.old hb6 (Below.old ((Below.refl _ _).alloc (Nat.le_refl _) _) e1)
       have f2 := Below.old hb6 (Below.old ((Below.refl _ _).alloc (Nat.le_refl _) _) e2)
       have f3 := Below.old hb6 (Below.old ((Below.refl _ _).alloc (Nat.le_refl _) _) e3)
       have f4 := Below.old hb6 (Below.old ((Below.refl _ _).alloc (Nat.le_refl _) _) e4)
       have HB6 := Lib.hid ((HB5.out.alloc HB5.out.size _).trans (hb6.mono (HB5.out.alloc HB5.out.size _).size))
       clear hb6 e0 e1 e2 e3 e4))
  all_goals
    have HLK : Hid (∀ k, k < m → l k < 9) := Lib.hid fun k hk => by have := hl.out k hk; omega
    gi_wp2_with (first
      | (gi_at_call 58; refine (checked_any rs rl rw many A n c sh _ hst (Lib.hid (hsh.out.below HB6.out))).mono ?_; rintro e w7 ⟨P, rfl, hP, hb7⟩; have HB7 := Lib.hid (HB6.out.trans (hb7.mono HB6.out.size)); have HP := Lib.hid hP; clear hb7 hP)
      | (gi_at_call 59; refine (match_any rs rl rw many A n c P LA m lc l _ hm hmc HLK (Lib.hid (hi.out.below HB7.out))).mono ?_; rintro e w8 ⟨rfl, hb8⟩; have HB8 := Lib.hid (HB7.out.trans (hb8.mono HB7.out.size)); clear hb8))
    go_ret2
    refine ⟨?_, HB8.out⟩
    rw [show listZ (fun one two => P (one * 9 + two)) l m = matchZ rs rl rw sh l m from listZ_congr m fun j i h1 h2 => HP.out _ _ (hasc.out j i h1 h2) (hl.out i h2)]; rfl
end Go.Proofs.YtpdmgecbapmgdaaGreat
end
section
namespace Go.Proofs.YtpdmgecbapmgdaaGreat
open Go.RowKit
def SaysGreat (n : Nat) (sh : Nat → Shaft) (W : World) (e : Ending) (w' : World) : Prop := ∃ b : Bool, e = .returned (.bool b) ∧ (b = false → n ≤ 20 ∧ ∀ k, k < n → (sh k).name.size ≤ 100) ∧ Below W.heap.size W w'
theorem Great_any (rs rl rw many : Int) (A : Option Addr) (n c : Nat) (sh : Nat → Shaft) (W : World) (hc : n ≤ c) (hsh : Hid (ShaftsAt W A n sh)) :
    CallsIn Fc 0 Tryz.prog 13 #[stockV rs rl rw many A n c] W (SaysGreat n sh W) := by
  gi_enter Tryz.func13, Tryz.ntmps13
  by_cases hn : (n : Int) > 20
  · gi_wp2
    go_ret
    exact ⟨true, rfl, fun h => by simp at h, (Below.refl _ _).alloc (Nat.le_refl _) _⟩
  · have hn' : n ≤ 20 := by omega
    gi_wp2
    gi_loopw [3] (fun i wr => ∃ k : Nat, k ≤ n ∧ i = .int .i64 k ∧ (∀ j, j < k → (sh j).name.size ≤ 100) ∧ wr = W.alloc (.cells #[.int .i64 rs, .int .i64 rl, .int .i64 rw, .int .i64 many, .slice A n c] 26)) (fun i _ => n - (intOf i).toNat)
    case atStart => exact ⟨0, by omega, rfl, fun j h => by omega, rfl⟩
    case round =>
      obtain ⟨k, hk, rfl, hall, rfl⟩ := hrel
      have HA := Lib.hid hall
      clear hall
      by_cases hlt : k < n
      · obtain ⟨b, o, rfl, hx⟩ := hsh.out k hlt
        have h0 := hx.h0
        have hlb : b < W.heap.size := World.block_lt_of_cell? W _ h0
        by_cases hnm : ((sh k).name.size : Int) > 100
        · gi_wp2
          go_ret
          exact ⟨true, rfl, fun h => by simp at h, (Below.refl _ _).alloc (Nat.le_refl _) _⟩
        · gi_wp2
          go_roundw
          case rel => exact ⟨k + 1, by omega, by go_num, fun j hj => by
            rcases Nat.lt_succ_iff_lt_or_eq.1 hj with hj | rfl
            · exact HA.out j hj
            · omega, trivial⟩
          case measure => simp [intOf]; omega
      · gi_wp2
        go_ret
        exact ⟨false, rfl, fun _ => ⟨hn', fun j hj => HA.out j (by omega)⟩, (Below.refl _ _).alloc (Nat.le_refl _) _⟩
end Go.Proofs.YtpdmgecbapmgdaaGreat
end
section
namespace Go.Proofs.YtpdmgecbapmgdaaGreat
open Go.RowKit
theorem u30 : Tryz.prog.underlying 27 = some (.slice 3) := by kernel_rfl
theorem i3 : (Tryz.prog.info? 3).map (fun i => (i.zero, i.size, i.bytes)) = some (some (.int .i64 0), 1, 8) := by kernel_rfl
abbrev intV (k : Nat) : Value := .int .i64 (k : Int)
def LsInv (W W1 : World) (k : Nat) (sl : Value) (wr : World) : Prop := ∃ xs : List Nat, xs.length ≤ k ∧ xs.Pairwise (· < ·) ∧ (∀ x ∈ xs, x < k) ∧ wr.ownsRow (W.heap.size + 1) 3 1 sl xs.length (xs.map intV) ∧ Below (W.heap.size + 1) W1 wr
def SaysListed (n : Nat) (W : World) (e : Ending) (w' : World) : Prop := ∃ (xs : List Nat) (LA : Option Addr) (lc : Nat), e = .returned (.slice LA xs.length lc) ∧ xs.length ≤ lc ∧ xs.length ≤ n ∧ xs.Pairwise (· < ·) ∧ (∀ x ∈ xs, x < n) ∧ IntsAt w' LA xs.length (fun k => ((xs.getD k 0 : Nat) : Int)) ∧ Below W.heap.size W w'
theorem ints_own {w : World} {base : Nat} {sl : Value} {xs : List Nat} (h : w.ownsRow base 3 1 sl xs.length (xs.map intV)) : ∃ LA lc, sl = .slice LA xs.length lc ∧ xs.length ≤ lc ∧ IntsAt w LA xs.length (fun k => ((xs.getD k 0 : Nat) : Int)) := by
  rcases h.2 with ⟨rfl, h0⟩ | ⟨g, cap, cur, rfl, _, hg, hcap, _⟩
  · rw [h0]
    exact ⟨none, 0, rfl, Nat.le_refl _, fun k hk => by omega⟩
  · refine ⟨_, _, rfl, hcap, fun k hk => ⟨g, 0, rfl, ?_⟩⟩
    rw [Nat.zero_add, h.cellAt k (by omega), List.getElem?_map, List.getElem?_eq_getElem hk]
    simp [List.getD_eq_getElem?_getD, List.getElem?_eq_getElem hk]
theorem Listed_any (rs rl rw many : Int) (A : Option Addr) (n c : Nat) (bits : Int) (W : World) (hn : n ≤ 9) (hc : n ≤ c) :
    CallsIn Fc 0 Tryz.prog 34 #[stockV rs rl rw many A n c, .int .u16 bits] W (SaysListed n W) := by
  obtain ⟨i0, hi, hz0, hz1, hz2⟩ := info_parts i3
  have HI := Lib.hid hi
  have HZ0 := Lib.hid hz0
  have HZ1 := Lib.hid hz1
  have HZ2 := Lib.hid hz2
  clear hi hz0 hz1 hz2
  gi_enter Tryz.func34, Tryz.ntmps34
  gi_wp2
  gi_loopw [5, 6] (fun sl i wr => ∃ k : Nat, k ≤ n ∧ i = .int .i64 k ∧ LsInv W (W.alloc (.cells #[.int .i64 rs, .int .i64 rl, .int .i64 rw, .int .i64 many, .slice A n c] 26)) k sl wr) (fun _ i _ => n - (intOf i).toNat)
  case atStart => exact ⟨0, by omega, rfl, [], Nat.le_refl _, List.Pairwise.nil, by simp, ⟨rfl, .inl ⟨rfl, rfl⟩⟩, Below.refl _ _⟩
  case round =>
    obtain ⟨k, hk, rfl, xs, hle, hp, hx, ho, hb⟩ := hrel
    have c4 : wr.cell? ⟨W.heap.size, 4, none⟩ = some (.slice A n c) := by rw [hb.cell (by simp)]; go_simp
    have hB : Below W.heap.size W wr := ((Below.refl W.heap.size W).alloc (Nat.le_refl _) _).trans (hb.mono (by omega))
    have HX := Lib.hid hx
    have HP := Lib.hid hp
    have HO := Lib.hid ho
    have HB := Lib.hid hb
    have HBB := Lib.hid hB
    have hs := hb.size
    simp at hs
    clear hx hp ho hb hB
    by_cases hlt : k < n
    · gi_wp2_with (gi_at_builtin; refine wpListIn_append_own _ rfl _ _ 27 rfl (W.heap.size + 1) 3 i0 (.int .i64 0) 1 8 u30 HI.out HZ0.out HZ1.out HZ2.out rfl (by decide) _ _ _ rfl (HO.out.alloc _) ⟨wr.heap.size, 0, none⟩ 1 1 [intV k] rfl rfl (cell_one_new _ _ _) (by simp [Value.oneCell']) (by simp [maxLen]; omega) (by omega) (by simp; omega) ?_; intro v' w4 hown4 hg4 hnil4)
      · have hx4 := HO.out.alloc (.cells #[intV k] 3)
        go_roundw
        case rel =>
          refine ⟨k + 1, by omega, by go_num, xs ++ [k], by simp; omega, ?_, ?_, ?_, ?_⟩
          · rw [List.pairwise_append]
            exact ⟨HP.out, by simp, fun a ha b hb => by simp at hb; subst hb; exact HX.out a ha⟩
          · intro x hx
            rw [List.mem_append] at hx
            rcases hx with hx | hx
            · have := HX.out x hx; omega
            · simp at hx; omega
          · simpa using hown4
          · exact (HB.out.alloc (by omega) _).grown hg4 (by simp; omega) (fun g hg => (hx4.lt g hg).1)
        case measure => simp [intOf]; omega
      · go_roundw
        case rel => exact ⟨k + 1, by omega, by go_num, xs, by omega, HP.out, fun x hx => by have := HX.out x hx; omega, HO.out, HB.out⟩
        case measure => simp [intOf]; omega
    · obtain rfl : k = n := by omega
      obtain ⟨LA, lc, rfl, h1, h2⟩ := ints_own HO.out
      gi_wp2
      go_ret
      exact ⟨xs, LA, lc, rfl, h1, hle, HP.out, HX.out, h2, HBB.out⟩
end Go.Proofs.YtpdmgecbapmgdaaGreat
end
section
namespace Go.Proofs.YtpdmgecbapmgdaaGreat
open Go.RowKit
def SaysStock (rs rl rw many : Int) (n : Nat) (sh : Nat → Shaft) (W : World) (e : Ending) (w' : World) : Prop := ∃ v : Int, e = .returned (.int .i64 v) ∧ (v = 0 → StockOk rs rl rw many n sh) ∧ Below W.heap.size W w'
theorem CheckStock_any (rs rl rw many : Int) (A : Option Addr) (n c : Nat) (sh : Nat → Shaft) (W : World) (hc : n ≤ c) (hsh : Hid (ShaftsAt W A n sh)) (hnm : Hid (∀ k, k < n → (sh k).name.size ≤ 100)) :
    CallsIn Fc 0 Tryz.prog 18 #[stockV rs rl rw many A n c] W (SaysStock rs rl rw many n sh W) := by
  have hB2 : ∀ x y, Below W.heap.size W ((W.alloc x).alloc y) := fun x y => ((Below.refl _ _).alloc (Nat.le_refl _) _).alloc (by simp) _
  have HB2 := Lib.hid hB2
  clear hB2
  gi_enter Tryz.func18, Tryz.ntmps18
  cases h1 : inB rs 0 9999 with
  | false =>
    gi_wp2_with (gi_at_call 62; refine (in_any _ _ _ _).mono ?_; rintro e w' ⟨rfl, rfl⟩)
    go_ret
    exact ⟨1, rfl, fun h => by simp at h, HB2.out _ _⟩
  | true =>
  cases h2 : inB rl 0 9999 with
  | false =>
    gi_wp2_with (gi_at_call 62; refine (in_any _ _ _ _).mono ?_; rintro e w' ⟨rfl, rfl⟩)
    go_ret
    exact ⟨1, rfl, fun h => by simp at h, HB2.out _ _⟩
  | true =>
  cases h3 : inB rw 0 9999 with
  | false =>
    gi_wp2_with (gi_at_call 62; refine (in_any _ _ _ _).mono ?_; rintro e w' ⟨rfl, rfl⟩)
    go_ret
    exact ⟨1, rfl, fun h => by simp at h, HB2.out _ _⟩
  | true =>
  cases h4 : inB many 2 4 with
  | false =>
    gi_wp2_with (gi_at_call 62; refine (in_any _ _ _ _).mono ?_; rintro e w' ⟨rfl, rfl⟩)
    go_ret
    exact ⟨1, rfl, fun h => by simp at h, HB2.out _ _⟩
  | true =>
  by_cases hn : (n : Int) > 9
  · gi_wp2_with (gi_at_call 62; refine (in_any _ _ _ _).mono ?_; rintro e w' ⟨rfl, rfl⟩)
    go_ret
    exact ⟨2, rfl, fun h => by simp at h, HB2.out _ _⟩
  · have hn9 : n ≤ 9 := by omega
    have HRU : Hid (RuleOk rs rl rw many) := Lib.hid (by
      simp [inB] at h1 h2 h3 h4
      exact ⟨h1.1, h1.2, h2.1, h2.2, h3.1, h3.2, h4.1, h4.2⟩)
    gi_wp2_with (gi_at_call 62; refine (in_any _ _ _ _).mono ?_; rintro e w' ⟨rfl, rfl⟩)
    clear h1 h2 h3 h4
    gi_loopw [4] (fun i wr => ∃ k : Nat, k ≤ n ∧ i = .int .i64 k ∧ wr.cell? ⟨W.heap.size, 4, none⟩ = some (.slice A n c) ∧ Below W.heap.size W wr ∧ (∀ j, j < k → ShaftOk (sh j)) ∧ ∀ j i, j < i → i < k → ((sh j).name.toList == (sh i).name.toList) = false) (fun i _ => n - (intOf i).toNat)
    case atStart => exact ⟨0, by omega, rfl, by go_simp, HB2.out _ _, fun j h => by omega, fun j i _ h => by omega⟩
    case round =>
      obtain ⟨k, hk, rfl, c4, hb, hok, hon⟩ := hrel
      rename World => wq
      have HB := Lib.hid hb
      have HOK := Lib.hid hok
      have HON := Lib.hid hon
      have hs := hb.size
      have hsz : W.heap.size < wq.heap.size := World.block_lt_of_cell? wq _ c4
      clear hb hok hon
      by_cases hlt : k < n
      · obtain ⟨b, o, rfl, hx⟩ := hsh.out k hlt
        obtain ⟨x0, x1, x2, x3, x4, x5, x6⟩ := hx.below HB.out
        have hlb : b < wq.heap.size := World.block_lt_of_cell? wq _ x0
        gi_wp2_with (gi_at_call 63; refine (isName_any _ _ (by have := hnm.out k hlt; simp [maxLen]; omega)).mono ?_; rintro e w' ⟨nb, rfl, hnb, rfl⟩; cases nb)
        · go_ret
          exact ⟨4, rfl, fun h => by simp at h, HB.out.alloc (by omega) _⟩
        · have HNK := Lib.hid (hnb trivial)
          clear hnb hx
          gi_loopw [6] (fun i wi => ∃ j : Nat, j ≤ k ∧ i = .int .i64 j ∧ Below (wq.heap.size + 1) (wq.alloc (.cells #[.string (sh k).name, .int .i64 (sh k).s0, .int .i64 (sh k).s1, .int .i64 (sh k).l0, .int .i64 (sh k).l1, .int .i64 (sh k).w0, .int .i64 (sh k).w1] 65)) wi ∧ ∀ t, t < j → ((sh t).name.toList == (sh k).name.toList) = false) (fun i _ => k - (intOf i).toNat)
          case atStart => exact ⟨0, by omega, rfl, Below.refl _ _, fun t h => by omega⟩
          case round =>
            clear x0 x1 x2 x3 x4 x5 x6
            obtain ⟨j, hj, rfl, hbi, hne⟩ := hrel
            have d4 : wr.cell? ⟨W.heap.size, 4, none⟩ = some (.slice (some ⟨b, o, none⟩) n c) := by rw [hbi.cell (by simp; omega)]; go_simp
            have y0 : wr.cell? ⟨wq.heap.size, 0, none⟩ = some (.string (sh k).name) := by rw [hbi.cell (by simp)]; go_simp
            have hsi := hbi.size
            simp at hsi
            have HNE := Lib.hid hne
            have hbw : Below W.heap.size W wr := (HB.out.alloc (by omega) _).trans (hbi.mono (by omega))
            have HBW := Lib.hid hbw
            have HBI := Lib.hid hbi
            clear hbi hbw hne c4
            by_cases hlj : j < k
            · obtain ⟨b', o', e', hxj⟩ := hsh.out j (by omega)
              cases e'
              have z0 := (hxj.below HBW.out).h0
              clear hxj
              cases he : ((sh j).name.toList == (sh k).name.toList) with
              | true =>
                gi_wp2
                gi_region_with fail
                all_goals
                  gi_wp2
                  go_ret
                  exact ⟨5, rfl, fun h => by simp at h, HBW.out.drew⟩
              | false =>
                gi_wp2
                gi_region_with fail
                all_goals
                  gi_wp2
                  go_roundw
                  case rel => exact ⟨j + 1, by omega, by go_num, HBI.out.drew, fun t ht => by
                    rcases Nat.lt_succ_iff_lt_or_eq.1 ht with ht | rfl
                    · exact HNE.out t ht
                    · exact he⟩
                  case measure => simp [intOf]; omega
            · obtain rfl : j = k := by omega
              have y1 : wr.cell? ⟨wq.heap.size, 1, none⟩ = some (.int .i64 (sh j).s0) := by rw [HBI.out.cell (by simp)]; go_simp
              have y2 : wr.cell? ⟨wq.heap.size, 2, none⟩ = some (.int .i64 (sh j).s1) := by rw [HBI.out.cell (by simp)]; go_simp
              have y3 : wr.cell? ⟨wq.heap.size, 3, none⟩ = some (.int .i64 (sh j).l0) := by rw [HBI.out.cell (by simp)]; go_simp
              have y4 : wr.cell? ⟨wq.heap.size, 4, none⟩ = some (.int .i64 (sh j).l1) := by rw [HBI.out.cell (by simp)]; go_simp
              have y5 : wr.cell? ⟨wq.heap.size, 5, none⟩ = some (.int .i64 (sh j).w0) := by rw [HBI.out.cell (by simp)]; go_simp
              have y6 : wr.cell? ⟨wq.heap.size, 6, none⟩ = some (.int .i64 (sh j).w1) := by rw [HBI.out.cell (by simp)]; go_simp
              cases q1 : insideB (sh j).s0 (sh j).s1 0 9999 with
              | false =>
                gi_wp2_with (gi_at_call 64; refine (inside_any _ _ _ _ _).mono ?_; rintro e w2 ⟨rfl, hb2⟩; (have d4 := Below.old hb2 d4); (have y3 := Below.old hb2 y3); (have y4 := Below.old hb2 y4); (have y5 := Below.old hb2 y5); (have y6 := Below.old hb2 y6); have HBW := Lib.hid (HBW.out.trans (hb2.mono HBW.out.size)); clear hb2)
                go_ret
                exact ⟨1, rfl, fun h => by simp at h, HBW.out⟩
              | true =>
              cases q2 : insideB (sh j).l0 (sh j).l1 0 9999 with
              | false =>
                gi_wp2_with (gi_at_call 64; refine (inside_any _ _ _ _ _).mono ?_; rintro e w2 ⟨rfl, hb2⟩; (have d4 := Below.old hb2 d4); (have y3 := Below.old hb2 y3); (have y4 := Below.old hb2 y4); (have y5 := Below.old hb2 y5); (have y6 := Below.old hb2 y6); have HBW := Lib.hid (HBW.out.trans (hb2.mono HBW.out.size)); clear hb2)
                go_ret
                exact ⟨1, rfl, fun h => by simp at h, HBW.out⟩
              | true =>
              cases q3 : insideB (sh j).w0 (sh j).w1 0 9999 with
              | false =>
                gi_wp2_with (gi_at_call 64; refine (inside_any _ _ _ _ _).mono ?_; rintro e w2 ⟨rfl, hb2⟩; (have d4 := Below.old hb2 d4); (have y3 := Below.old hb2 y3); (have y4 := Below.old hb2 y4); (have y5 := Below.old hb2 y5); (have y6 := Below.old hb2 y6); have HBW := Lib.hid (HBW.out.trans (hb2.mono HBW.out.size)); clear hb2)
                go_ret
                exact ⟨1, rfl, fun h => by simp at h, HBW.out⟩
              | true =>
                gi_wp2_with (gi_at_call 64; refine (inside_any _ _ _ _ _).mono ?_; rintro e w2 ⟨rfl, hb2⟩; (have d4 := Below.old hb2 d4); (have y3 := Below.old hb2 y3); (have y4 := Below.old hb2 y4); (have y5 := Below.old hb2 y5); (have y6 := Below.old hb2 y6); have HBW := Lib.hid (HBW.out.trans (hb2.mono HBW.out.size)); clear hb2)
                go_roundw
                case rel =>
                  refine ⟨j + 1, by omega, by go_num, d4, HBW.out, fun t ht => ?_, fun t i h5 h6 => ?_⟩
                  · rcases Nat.lt_succ_iff_lt_or_eq.1 ht with ht | rfl
                    · exact HOK.out t ht
                    · simp [insideB, inB] at q1 q2 q3
                      exact ⟨HNK.out, by omega, by omega, by omega, by omega, by omega, by omega, by omega, by omega, by omega⟩
                  · rcases Nat.lt_succ_iff_lt_or_eq.1 h6 with h6 | rfl
                    · exact HON.out t i h5 h6
                    · exact HNE.out t h5
                case measure => simp [intOf]; omega
      · obtain rfl : k = n := by omega
        gi_wp2
        go_ret
        exact ⟨0, rfl, fun _ => ⟨HRU.out, hn9, HOK.out, HON.out⟩, HB.out⟩
end Go.Proofs.YtpdmgecbapmgdaaGreat
end
section
namespace Go.Proofs.YtpdmgecbapmgdaaGreat
open Go.RowKit
def SaysFit (rs rl rw many : Int) (n : Nat) (sh : Nat → Shaft) (W : World) (e : Ending) (w' : World) : Prop := ∃ b : Bool, e = .returned (.bool b) ∧ (b = true → StockOk rs rl rw many n sh) ∧ Below W.heap.size W w'
theorem Fit_any (rs rl rw many : Int) (A : Option Addr) (n c : Nat) (sh : Nat → Shaft) (W : World) (hc : n ≤ c) (hsh : Hid (ShaftsAt W A n sh)) :
    CallsIn Fc 0 Tryz.prog 33 #[stockV rs rl rw many A n c] W (SaysFit rs rl rw many n sh W) := by
  have hB1 : ∀ x, Below W.heap.size W (W.alloc x) := fun x => (Below.refl _ _).alloc (Nat.le_refl _) _
  have HB1 := Lib.hid hB1
  clear hB1
  gi_enter Tryz.func33, Tryz.ntmps33
  gi_wp2_with (first
    | (gi_at_call 13; refine (Great_any _ _ _ _ _ _ _ sh _ hc (Lib.hid (hsh.out.below (HB1.out _)))).mono ?_; rintro e w2 ⟨gb, rfl, hgb, hb2⟩
       have e0 : w2.cell? ⟨W.heap.size, 0, none⟩ = some (.int .i64 rs) := Below.old hb2 (by go_simp)
       have e1 : w2.cell? ⟨W.heap.size, 1, none⟩ = some (.int .i64 rl) := Below.old hb2 (by go_simp)
       have e2 : w2.cell? ⟨W.heap.size, 2, none⟩ = some (.int .i64 rw) := Below.old hb2 (by go_simp)
       have e3 : w2.cell? ⟨W.heap.size, 3, none⟩ = some (.int .i64 many) := Below.old hb2 (by go_simp)
       have e4 : w2.cell? ⟨W.heap.size, 4, none⟩ = some (.slice A n c) := Below.old hb2 (by go_simp)
       have HB2 := Lib.hid ((HB1.out _).trans (hb2.mono (HB1.out _).size))
       have HGB := Lib.hid hgb
       clear hb2 hgb
       cases gb)
    | (gi_at_call 18; refine (CheckStock_any _ _ _ _ _ _ _ sh _ hc (Lib.hid (hsh.out.below HB2.out)) (Lib.hid (HGB.out trivial).2)).mono ?_; rintro e w3 ⟨v, rfl, hv, hb3⟩
       have HB3 := Lib.hid (HB2.out.trans (hb3.mono HB2.out.size))
       have HV := Lib.hid hv
       clear hb3 hv))
  · go_ret
    exact ⟨v == 0, rfl, fun h => HV.out (by simpa using h), HB3.out⟩
  · go_ret
    exact ⟨false, rfl, fun h => by simp at h, HB2.out⟩
end Go.Proofs.YtpdmgecbapmgdaaGreat
end
section
namespace Go.Proofs.YtpdmgecbapmgdaaGreat
open Go.RowKit
theorem bothZ_two (a b : Int) : bothZ a b = 2 ↔ a = 2 ∨ b = 2 := by
  unfold bothZ
  by_cases h : a = 2 ∨ b = 2
  · simp [h]
  · rw [if_neg h]
    constructor
    · intro h'
      split at h' <;> omega
    · intro h'; exact absurd h' h
theorem bothZ_one (a b : Int) : bothZ a b = 1 ↔ a = 1 ∧ b = 1 := by
  unfold bothZ
  by_cases h : a = 2 ∨ b = 2
  · rw [if_pos h]
    omega
  · rw [if_neg h]
    by_cases h1 : a = 1 ∧ b = 1
    · simp [h1]
    · rw [if_neg h1]
      constructor
      · intro h'; omega
      · intro h'; exact absurd h' h1
theorem bothZ_range (a b : Int) : bothZ a b = 0 ∨ bothZ a b = 1 ∨ bothZ a b = 2 := by
  unfold bothZ
  split
  · exact .inr (.inr rfl)
  · split
    · exact .inr (.inl rfl)
    · exact .inl rfl
theorem rowZ_two (T : Nat → Nat → Int) (l : Nat → Nat) (i : Nat) (s : Int) : ∀ j, rowZ T l i j s = 2 ↔ s = 2 ∨ ∃ k, k < j ∧ T (l k) (l i) = 2
  | 0 => by simp [rowZ]
  | j + 1 => by
    rw [rowZ, bothZ_two, rowZ_two T l i s j]
    constructor
    · rintro ((h | ⟨k, h1, h2⟩) | h)
      · exact .inl h
      · exact .inr ⟨k, by omega, h2⟩
      · exact .inr ⟨j, by omega, h⟩
    · rintro (h | ⟨k, h1, h2⟩)
      · exact .inl (.inl h)
      · rcases Nat.lt_succ_iff_lt_or_eq.1 h1 with h1 | rfl
        · exact .inl (.inr ⟨k, h1, h2⟩)
        · exact .inr h2
theorem rowZ_one (T : Nat → Nat → Int) (l : Nat → Nat) (i : Nat) (s : Int) : ∀ j, rowZ T l i j s = 1 ↔ s = 1 ∧ ∀ k, k < j → T (l k) (l i) = 1
  | 0 => by simp [rowZ]
  | j + 1 => by
    rw [rowZ, bothZ_one, rowZ_one T l i s j]
    constructor
    · rintro ⟨⟨h, h1⟩, h2⟩
      refine ⟨h, fun k hk => ?_⟩
      rcases Nat.lt_succ_iff_lt_or_eq.1 hk with hk | rfl
      · exact h1 k hk
      · exact h2
    · rintro ⟨h, h1⟩
      exact ⟨⟨h, fun k hk => h1 k (by omega)⟩, h1 j (by omega)⟩
theorem rowZ_range (T : Nat → Nat → Int) (l : Nat → Nat) (i : Nat) (s : Int) (hs : s = 0 ∨ s = 1 ∨ s = 2) : ∀ j, rowZ T l i j s = 0 ∨ rowZ T l i j s = 1 ∨ rowZ T l i j s = 2
  | 0 => hs
  | j + 1 => bothZ_range _ _
theorem listZ_range (T : Nat → Nat → Int) (l : Nat → Nat) : ∀ m, listZ T l m = 0 ∨ listZ T l m = 1 ∨ listZ T l m = 2
  | 0 => .inr (.inl rfl)
  | m + 1 => rowZ_range T l m _ (listZ_range T l m) m
theorem listZ_two (T : Nat → Nat → Int) (l : Nat → Nat) : ∀ m, listZ T l m = 2 ↔ ∃ j i, j < i ∧ i < m ∧ T (l j) (l i) = 2
  | 0 => by simp [listZ]
  | m + 1 => by
    rw [listZ, rowZ_two, listZ_two T l m]
    constructor
    · rintro (⟨j, i, h1, h2, h3⟩ | ⟨k, h1, h2⟩)
      · exact ⟨j, i, h1, by omega, h3⟩
      · exact ⟨k, m, h1, by omega, h2⟩
    · rintro ⟨j, i, h1, h2, h3⟩
      rcases Nat.lt_succ_iff_lt_or_eq.1 h2 with h2 | rfl
      · exact .inl ⟨j, i, h1, h2, h3⟩
      · exact .inr ⟨j, h1, h3⟩
theorem listZ_one (T : Nat → Nat → Int) (l : Nat → Nat) : ∀ m, listZ T l m = 1 ↔ ∀ j i, j < i → i < m → T (l j) (l i) = 1
  | 0 => by simp [listZ]
  | m + 1 => by
    rw [listZ, rowZ_one, listZ_one T l m]
    constructor
    · rintro ⟨h1, h2⟩ j i hj hi
      rcases Nat.lt_succ_iff_lt_or_eq.1 hi with hi | rfl
      · exact h1 j i hj hi
      · exact h2 j hj
    · intro h
      exact ⟨fun j i hj hi => h j i hj (by omega), fun k hk => h k m hk (by omega)⟩
structure Gathered (T : Nat → Nat → Int) (l : Nat → Nat) (m i k : Nat) (all none : Bool) : Prop where
  all : all = true ↔ ∀ j t, j < t → t < m → (j < i ∨ (j = i ∧ t < k)) → T (l j) (l t) = 1
  none : none = true ↔ ∃ j t, j < t ∧ t < m ∧ (j < i ∨ (j = i ∧ t < k)) ∧ T (l j) (l t) = 2
theorem Gathered.zero (T : Nat → Nat → Int) (l : Nat → Nat) (m : Nat) : Gathered T l m 0 1 true false where
  all := ⟨fun _ j t h1 h2 h3 => by omega, fun _ => rfl⟩
  none := ⟨fun h => by simp at h, fun ⟨j, t, h1, h2, h3, h4⟩ => by omega⟩
theorem Gathered.round {T : Nat → Nat → Int} {l : Nat → Nat} {m i k : Nat} {all none : Bool} (h : Gathered T l m i k all none) (hk : m ≤ k) : Gathered T l m (i + 1) (i + 2) all none where
  all := h.all.trans ⟨fun h j t h1 h2 h3 => h j t h1 h2 (by omega), fun h j t h1 h2 h3 => h j t h1 h2 (by omega)⟩
  none := h.none.trans ⟨fun ⟨j, t, h1, h2, h3, h4⟩ => ⟨j, t, h1, h2, by omega, h4⟩, fun ⟨j, t, h1, h2, h3, h4⟩ => ⟨j, t, h1, h2, by omega, h4⟩⟩
theorem Gathered.pair {T : Nat → Nat → Int} {l : Nat → Nat} {m i k : Nat} {all none : Bool} (h : Gathered T l m i k all none) (hi : i < k) (hk : k < m) {x : Int} (h1 : x = 1 ↔ T (l i) (l k) = 1) (h2 : x = 2 ↔ T (l i) (l k) = 2) :
    Gathered T l m i (k + 1) (if all then x == 1 else false) (if none then true else x == 2) where
  all := by
    cases all with
    | false =>
      simp only [Bool.false_eq_true, if_false, false_iff]
      intro h3
      exact Bool.noConfusion (h.all.2 fun j t a b c => h3 j t a b (by omega))
    | true =>
      simp only [if_true, beq_iff_eq]
      constructor
      · intro hx j t a b c
        by_cases e : j = i ∧ t = k
        · obtain ⟨rfl, rfl⟩ := e
          exact h1.1 hx
        · exact h.all.1 rfl j t a b (by omega)
      · intro h3
        exact h1.2 (h3 i k hi hk (by omega))
  none := by
    cases none with
    | true =>
      simp only [if_true, true_iff]
      obtain ⟨j, t, a, b, c, d⟩ := h.none.1 rfl
      exact ⟨j, t, a, b, by omega, d⟩
    | false =>
      simp only [Bool.false_eq_true, if_false, beq_iff_eq]
      constructor
      · intro hx
        exact ⟨i, k, hi, hk, by omega, h2.1 hx⟩
      · rintro ⟨j, t, a, b, c, d⟩
        by_cases e : j = i ∧ t = k
        · obtain ⟨rfl, rfl⟩ := e
          exact h2.2 d
        · exact Bool.noConfusion (h.none.2 ⟨j, t, a, b, by omega, d⟩)
theorem Gathered.end {T : Nat → Nat → Int} {l : Nat → Nat} {m k : Nat} {all none : Bool} (h : Gathered T l m m k all none) : (listZ T l m == 1) = all ∧ (listZ T l m == 2) = none := by
  have a1 : listZ T l m = 1 ↔ all = true := (listZ_one T l m).trans ⟨fun h3 => h.all.2 fun j t a b _ => h3 j t a b, fun h3 j t a b => h.all.1 h3 j t a b (by omega)⟩
  have a2 : listZ T l m = 2 ↔ none = true := (listZ_two T l m).trans ⟨fun ⟨j, t, a, b, c⟩ => h.none.2 ⟨j, t, a, b, by omega, c⟩, fun h3 => by
    obtain ⟨j, t, a, b, _, c⟩ := h.none.1 h3
    exact ⟨j, t, a, b, c⟩⟩
  refine ⟨?_, ?_⟩
  · rw [Bool.eq_iff_iff, beq_iff_eq]; exact a1
  · rw [Bool.eq_iff_iff, beq_iff_eq]; exact a2
theorem Gathered.cases {T : Nat → Nat → Int} {l : Nat → Nat} {m k : Nat} {all none : Bool} (h : Gathered T l m m k all none) :
    (listZ T l m = 0 ∧ all = false ∧ none = false) ∨ (listZ T l m = 1 ∧ all = true ∧ none = false) ∨ (listZ T l m = 2 ∧ all = false ∧ none = true) := by
  obtain ⟨h1, h2⟩ := h.end
  rcases listZ_range T l m with h3 | h3 | h3 <;> rw [h3] at h1 h2 <;> simp at h1 h2
  · exact .inl ⟨h3, h1, h2⟩
  · exact .inr (.inl ⟨h3, h1, h2⟩)
  · exact .inr (.inr ⟨h3, h1, h2⟩)
end Go.Proofs.YtpdmgecbapmgdaaGreat
end
section
namespace Go.Proofs.YtpdmgecbapmgdaaGreat
open Go.RowKit
theorem nearZ_one (al a b c d : Int) : nearZ al a b c d = 1 ↔ b - c ≤ al ∧ d - a ≤ al := by
  unfold nearZ
  split
  · simp; omega
  · split
    · constructor
      · intro h; omega
      · intro h; omega
    · constructor
      · intro h; omega
      · intro h; omega
theorem nearZ_two {al a b c d : Int} (h1 : a ≤ b) (h2 : c ≤ d) : nearZ al a b c d = 2 ↔ al < a - d ∨ al < c - b := by
  unfold nearZ
  split
  · constructor
    · intro h; omega
    · intro h; omega
  · split
    · simp; omega
    · constructor
      · intro h; omega
      · intro h; omega
theorem nearZ_range (al a b c d : Int) : nearZ al a b c d = 0 ∨ nearZ al a b c d = 1 ∨ nearZ al a b c d = 2 := by
  unfold nearZ
  split
  · simp
  · split <;> simp
theorem pairZ_one (rs rl rw : Int) (x y : Shaft) : pairZ rs rl rw x y = 1 ↔ ∀ m, m < 3 → nearOf rs rl rw x y m = 1 := by
  unfold pairZ
  simp only [upTo, bothZ_one]
  constructor
  · rintro ⟨⟨⟨_, h0⟩, h1⟩, h2⟩ m hm
    have h3 : m = 0 ∨ m = 1 ∨ m = 2 := by omega
    rcases h3 with rfl | rfl | rfl <;> assumption
  · intro h
    exact ⟨⟨⟨trivial, h 0 (by omega)⟩, h 1 (by omega)⟩, h 2 (by omega)⟩
theorem pairZ_two (rs rl rw : Int) (x y : Shaft) : pairZ rs rl rw x y = 2 ↔ ∃ m, m < 3 ∧ nearOf rs rl rw x y m = 2 := by
  unfold pairZ
  simp only [upTo, bothZ_two]
  constructor
  · rintro (((h | h) | h) | h)
    · omega
    · exact ⟨0, by omega, h⟩
    · exact ⟨1, by omega, h⟩
    · exact ⟨2, by omega, h⟩
  · rintro ⟨m, hm, h⟩
    have h3 : m = 0 ∨ m = 1 ∨ m = 2 := by omega
    rcases h3 with rfl | rfl | rfl
    · exact .inl (.inl (.inr h))
    · exact .inl (.inr h)
    · exact .inr h
structure SpansOk (x : Shaft) : Prop where
  least : ∀ m, m < 3 → 0 ≤ spanA x m
  up : ∀ m, m < 3 → spanA x m ≤ spanB x m
  most : ∀ m, m < 3 → spanB x m ≤ 9999
theorem ShaftOk.spans {x : Shaft} (h : ShaftOk x) : SpansOk x where
  least := fun m hm => by
    have h3 : m = 0 ∨ m = 1 ∨ m = 2 := by omega
    rcases h3 with rfl | rfl | rfl
    · exact h.s0
    · exact h.l0
    · exact h.w0
  up := fun m hm => by
    have h3 : m = 0 ∨ m = 1 ∨ m = 2 := by omega
    rcases h3 with rfl | rfl | rfl
    · exact h.s1
    · exact h.l1
    · exact h.w1
  most := fun m hm => by
    have h3 : m = 0 ∨ m = 1 ∨ m = 2 := by omega
    rcases h3 with rfl | rfl | rfl
    · exact h.s2
    · exact h.l2
    · exact h.w2
theorem SpansOk.shaft {x : Shaft} (h : SpansOk x) (hn : NameOk x.name) : ShaftOk x :=
  ⟨hn, h.least 0 (by omega), h.up 0 (by omega), h.most 0 (by omega), h.least 1 (by omega), h.up 1 (by omega), h.most 1 (by omega), h.least 2 (by omega), h.up 2 (by omega), h.most 2 (by omega)⟩
theorem StockOk.other {rs rl rw many : Int} {n : Nat} {sh sh' : Nat → Shaft} (h : StockOk rs rl rw many n sh) (hn : ∀ k, k < n → (sh' k).name = (sh k).name) (hs : ∀ k, k < n → SpansOk (sh' k)) : StockOk rs rl rw many n sh' where
  rule := h.rule
  count := h.count
  each := fun k hk => (hs k hk).shaft (by rw [hn k hk]; exact (h.each k hk).name)
  once := fun j k hj hk => by rw [hn j (by omega), hn k hk]; exact h.once j k hj hk
def updSpan (x : Shaft) (m : Nat) (u v : Int) : Shaft := match m with
  | 0 => { x with s0 := u, s1 := v }
  | 1 => { x with l0 := u, l1 := v }
  | _ => { x with w0 := u, w1 := v }
def putSh (sh : Nat → Shaft) (k m : Nat) (u v : Int) : Nat → Shaft := fun j => if j = k then updSpan (sh k) m u v else sh j
theorem updSpan_name (x : Shaft) (m : Nat) (u v : Int) : (updSpan x m u v).name = x.name := by
  unfold updSpan; split <;> rfl
theorem updSpan_A {x : Shaft} {m k : Nat} {u v : Int} (hm : m < 3) (hk : k < 3) : spanA (updSpan x m u v) k = if k = m then u else spanA x k := by
  have h3 : m = 0 ∨ m = 1 ∨ m = 2 := by omega
  have h4 : k = 0 ∨ k = 1 ∨ k = 2 := by omega
  rcases h3 with rfl | rfl | rfl <;> rcases h4 with rfl | rfl | rfl <;> rfl
theorem updSpan_B {x : Shaft} {m k : Nat} {u v : Int} (hm : m < 3) (hk : k < 3) : spanB (updSpan x m u v) k = if k = m then v else spanB x k := by
  have h3 : m = 0 ∨ m = 1 ∨ m = 2 := by omega
  have h4 : k = 0 ∨ k = 1 ∨ k = 2 := by omega
  rcases h3 with rfl | rfl | rfl <;> rcases h4 with rfl | rfl | rfl <;> rfl
theorem putSh_name (sh : Nat → Shaft) (k m : Nat) (u v : Int) (j : Nat) : (putSh sh k m u v j).name = (sh j).name := by
  unfold putSh
  split
  · next h => subst h; exact updSpan_name _ _ _ _
  · rfl
theorem putSh_A {sh : Nat → Shaft} {k m j x : Nat} {u v : Int} (hm : m < 3) (hx : x < 3) : spanA (putSh sh k m u v j) x = if j = k ∧ x = m then u else spanA (sh j) x := by
  unfold putSh
  by_cases h : j = k
  · subst h
    rw [if_pos rfl, updSpan_A hm hx]
    simp
  · rw [if_neg h, if_neg (fun h' => h h'.1)]
theorem putSh_B {sh : Nat → Shaft} {k m j x : Nat} {u v : Int} (hm : m < 3) (hx : x < 3) : spanB (putSh sh k m u v j) x = if j = k ∧ x = m then v else spanB (sh j) x := by
  unfold putSh
  by_cases h : j = k
  · subst h
    rw [if_pos rfl, updSpan_B hm hx]
    simp
  · rw [if_neg h, if_neg (fun h' => h h'.1)]
theorem StockOk.put {rs rl rw many : Int} {n : Nat} {sh : Nat → Shaft} (h : StockOk rs rl rw many n sh) {k m : Nat} {u v : Int} (hm : m < 3) (h0 : 0 ≤ u) (h1 : u ≤ v) (h2 : v ≤ 9999) : StockOk rs rl rw many n (putSh sh k m u v) := by
  refine h.other (fun j _ => putSh_name ..) fun j hj => ?_
  have hs := (h.each j hj).spans
  refine ⟨fun x hx => ?_, fun x hx => ?_, fun x hx => ?_⟩
  · rw [putSh_A hm hx]; split
    · exact h0
    · exact hs.least x hx
  · rw [putSh_A hm hx, putSh_B hm hx]; split
    · exact h1
    · exact hs.up x hx
  · rw [putSh_B hm hx]; split
    · exact h2
    · exact hs.most x hx
def InTruth (sh : Nat → Shaft) (n : Nat) (R : Nat → Nat → Int) : Prop := ∀ j, j < n → ∀ w, w < 3 → spanA (sh j) w ≤ R j w ∧ R j w ≤ spanB (sh j) w
def MatchedP (rs rl rw : Int) (R : Nat → Nat → Int) (l : Nat → Nat) (m : Nat) : Prop := ∀ w, w < 3 → ∀ i, i < m → ∀ k, k < m → R (l i) w - R (l k) w ≤ allowOf rs rl rw w
theorem RuleOk.allow {rs rl rw many : Int} (h : RuleOk rs rl rw many) (w : Nat) : 0 ≤ allowOf rs rl rw w := by
  unfold allowOf; split
  · exact h.s0
  · exact h.l0
  · exact h.w0
section
variable {rs rl rw many : Int} {n m : Nat} {sh : Nat → Shaft} {l : Nat → Nat} {R : Nat → Nat → Int}
theorem matchZ_one : matchZ rs rl rw sh l m = 1 ↔ ∀ j i, j < i → i < m → ∀ w, w < 3 → nearOf rs rl rw (sh (l j)) (sh (l i)) w = 1 := by
  unfold matchZ
  rw [listZ_one]
  exact ⟨fun h j i h1 h2 => (pairZ_one ..).1 (h j i h1 h2), fun h j i h1 h2 => (pairZ_one ..).2 (h j i h1 h2)⟩
theorem matchZ_two : matchZ rs rl rw sh l m = 2 ↔ ∃ j i, j < i ∧ i < m ∧ ∃ w, w < 3 ∧ nearOf rs rl rw (sh (l j)) (sh (l i)) w = 2 := by
  unfold matchZ
  rw [listZ_two]
  constructor
  · rintro ⟨j, i, h1, h2, h3⟩
    exact ⟨j, i, h1, h2, (pairZ_two ..).1 h3⟩
  · rintro ⟨j, i, h1, h2, h3⟩
    exact ⟨j, i, h1, h2, (pairZ_two ..).2 h3⟩
theorem matchZ_range (rs rl rw : Int) (sh : Nat → Shaft) (l : Nat → Nat) (m : Nat) : matchZ rs rl rw sh l m = 0 ∨ matchZ rs rl rw sh l m = 1 ∨ matchZ rs rl rw sh l m = 2 := listZ_range ..
theorem matched_yes (hr : RuleOk rs rl rw many) (hl : ∀ k, k < m → l k < n) (ht : InTruth sh n R) (h : matchZ rs rl rw sh l m = 1) : MatchedP rs rl rw R l m := by
  intro w hw i hi k hk
  have hal := hr.allow w
  have h1 := ht (l i) (hl i hi) w hw
  have h2 := ht (l k) (hl k hk) w hw
  rcases Nat.lt_trichotomy i k with e | e | e
  · have := (nearZ_one ..).1 (matchZ_one.1 h i k e hk w hw)
    omega
  · subst e; omega
  · have := (nearZ_one ..).1 (matchZ_one.1 h k i e hi w hw)
    omega
theorem matched_no (hst : StockOk rs rl rw many n sh) (hl : ∀ k, k < m → l k < n) (ht : InTruth sh n R) (h : matchZ rs rl rw sh l m = 2) : ¬ MatchedP rs rl rw R l m := by
  intro hM
  obtain ⟨j, i, h1, h2, w, hw, h3⟩ := matchZ_two.1 h
  have hj := hl j (by omega)
  have hi := hl i h2
  have h4 := (nearZ_two ((hst.each _ hj).spans.up w hw) ((hst.each _ hi).spans.up w hw)).1 h3
  have t1 := ht (l j) hj w hw
  have t2 := ht (l i) hi w hw
  have m1 := hM w hw j (by omega) i h2
  have m2 := hM w hw i h2 j (by omega)
  omega
theorem matched_known (hst : StockOk rs rl rw many n sh) (hl : ∀ k, k < m → l k < n) (hA : ∀ j, j < n → ∀ w, w < 3 → spanA (sh j) w = R j w) (hB : ∀ j, j < n → ∀ w, w < 3 → spanB (sh j) w = R j w) :
    (matchZ rs rl rw sh l m = 1 ∧ MatchedP rs rl rw R l m) ∨ (matchZ rs rl rw sh l m = 2 ∧ ¬ MatchedP rs rl rw R l m) := by
  have ht : InTruth sh n R := fun j hj w hw => by rw [hA j hj w hw, hB j hj w hw]; omega
  rcases matchZ_range rs rl rw sh l m with h | h | h
  · exfalso
    have h1 : ¬ matchZ rs rl rw sh l m = 1 := by omega
    apply h1
    rw [matchZ_one]
    intro j i hj hi w hw
    have h2 : ¬ matchZ rs rl rw sh l m = 2 := by omega
    rcases nearZ_range (allowOf rs rl rw w) (spanA (sh (l j)) w) (spanB (sh (l j)) w) (spanA (sh (l i)) w) (spanB (sh (l i)) w) with e | e | e
    · have n1 : ¬ nearZ (allowOf rs rl rw w) (spanA (sh (l j)) w) (spanB (sh (l j)) w) (spanA (sh (l i)) w) (spanB (sh (l i)) w) = 1 := by omega
      have n2 : ¬ nearZ (allowOf rs rl rw w) (spanA (sh (l j)) w) (spanB (sh (l j)) w) (spanA (sh (l i)) w) (spanB (sh (l i)) w) = 2 := by omega
      rw [nearZ_one] at n1
      have hj' := hl j (by omega)
      have hi' := hl i hi
      rw [nearZ_two ((hst.each _ hj').spans.up w hw) ((hst.each _ hi').spans.up w hw)] at n2
      rw [hA _ hj' w hw, hB _ hj' w hw, hA _ hi' w hw, hB _ hi' w hw] at n1 n2
      omega
    · exact e
    · exact absurd (matchZ_two.2 ⟨j, i, hj, hi, w, hw, e⟩) h2
  · exact .inl ⟨h, matched_yes hst.rule hl ht h⟩
  · exact .inr ⟨h, matched_no hst hl ht h⟩
theorem matchZ_narrow {sh' : Nat → Shaft} (hst : StockOk rs rl rw many n sh) (hst' : StockOk rs rl rw many n sh') (hl : ∀ k, k < m → l k < n) (hn : ∀ j, j < n → ∀ w, w < 3 → spanA (sh j) w ≤ spanA (sh' j) w ∧ spanB (sh' j) w ≤ spanB (sh j) w) :
    (matchZ rs rl rw sh l m = 1 → matchZ rs rl rw sh' l m = 1) ∧ (matchZ rs rl rw sh l m = 2 → matchZ rs rl rw sh' l m = 2) := by
  constructor
  · intro h
    rw [matchZ_one] at h ⊢
    intro j i hj hi w hw
    have h1 := (nearZ_one ..).1 (h j i hj hi w hw)
    have n1 := hn (l j) (hl j (by omega)) w hw
    have n2 := hn (l i) (hl i hi) w hw
    exact (nearZ_one ..).2 (by omega)
  · intro h
    rw [matchZ_two] at h ⊢
    obtain ⟨j, i, hj, hi, w, hw, h⟩ := h
    have hj' := hl j (by omega)
    have hi' := hl i hi
    have h1 := (nearZ_two ((hst.each _ hj').spans.up w hw) ((hst.each _ hi').spans.up w hw)).1 h
    have n1 := hn (l j) hj' w hw
    have n2 := hn (l i) hi' w hw
    exact ⟨j, i, hj, hi, w, hw, (nearZ_two ((hst'.each _ hj').spans.up w hw) ((hst'.each _ hi').spans.up w hw)).2 (by omega)⟩
theorem matchZ_same {sh' : Nat → Shaft} (h : ∀ k, k < m → sh' (l k) = sh (l k)) : matchZ rs rl rw sh' l m = matchZ rs rl rw sh l m := by
  unfold matchZ
  exact listZ_congr m fun j i h1 h2 => by
    show pairZ _ _ _ _ _ = pairZ _ _ _ _ _
    rw [h j (by omega), h i h2]
end
end Go.Proofs.YtpdmgecbapmgdaaGreat
end
