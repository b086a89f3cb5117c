/- A part of the proof that ArrowListed returns true for every input: no further condition. -/
import Derived.Test.YtpdmgecbapmgdaaGreatGp5
import Derived.Test.YtpdmgecbapmgdaaGreatGp0
import Derived.Test.YtpdmgecbapmgdaaGreatLe1
import Derived.Conc.Own4
import Derived.Conc.LeavingOf
import Derived.Deep.Slices
import Derived.Lib.SmallJoins
import Derived.Test.YtpdmgecbapmgdaaGreatRows
import Derived.Carry
set_option linter.unusedSimpArgs false
set_option linter.unusedVariables false
set_option maxHeartbeats 4000000
set_option maxRecDepth 100000
namespace Go.Proofs.YtpdmgecbapmgdaaGreat
section
open Go.RowKit
theorem inB_iff {n l h : Int} : inB n l h = true ↔ l ≤ n ∧ n ≤ h := by simp [inB]
theorem ySa {n : Int} (h0 : -1000000000 ≤ n) (h1 : n ≤ 1000000000) : IntKind.wrap .i64 n = n := by simp [IntKind.wrap, IntKind.signed, IntKind.bits]; omega
def LexLt (a b : Nat → Nat) (m : Nat) : Prop := ∃ i, i < m ∧ (∀ j, j < i → a j = b j) ∧ a i < b i
def yRa (p : Prop) (W : World) (e : Ending) (w' : World) : Prop := ∃ g : Bool, e = .returned (.bool g) ∧ (g = true ↔ p) ∧ Below W.heap.size W w'
theorem yk (LA LB : Option Addr) (m lc k kc : Nat) (a b : Nat → Nat) (W : World) (hm : m ≤ 20) (hk : k ≤ 20) (hc : m ≤ lc) (hkc : k ≤ kc) (ha : Hid (zca W LA m fun k => (a k : Int))) (hb : Hid (zca W LB k fun k => (b k : Int))) :
  CallsIn Fc 0 Tryz.prog 27 #[.slice LA m lc, .slice LB k kc] W (yRa (m = k ∧ ∀ i, i < m → a i = b i) W) := by
 by_cases h : m = k
 ·subst h; gi_enter Tryz.func27, Tryz.ntmps27; gi_wp2
  gi_loopw [5] (fun x wr => ∃ j : Nat, j ≤ m ∧ x = .int .i64 j ∧ Below W.heap.size W wr ∧ ∀ i, i < j → a i = b i) (fun x _ => m - (intOf x).toNat)
  case atStart => exact ⟨0, by omega, rfl, Below.refl _ _, fun i hi => by omega⟩
  case round =>
   obtain ⟨j, hj, rfl, hbw, heq⟩ := hrel; have HEQ := Lib.hid heq; have HBW := Lib.hid hbw; clear heq hbw; by_cases hlt : j < m
   ·obtain ⟨b1, o1, rfl, q1⟩ := ha.out j hlt; obtain ⟨b2, o2, rfl, q2⟩ := hb.out j hlt; have Q1 := Lib.hid (Below.old HBW.out q1); have Q2 := Lib.hid (Below.old HBW.out q2); clear q1 q2; by_cases he : (a j : Int) = (b j : Int)
    ·have hbb : ((a j : Int) != (b j : Int)) = false := by simp [he]
     gi_wp2; refine zL (D := [(17, .slice (some ⟨b1, o1, none⟩) m lc), (18, .int .i64 j), (19, .pointer (some ⟨b1, o1 + j, none⟩)), (20, .int .i64 (a j)), (21, .slice (some ⟨b2, o2, none⟩) m kc), (22, .int .i64 j), (23, .pointer (some ⟨b2, o2 + j, none⟩)), (24, .int .i64 (b j)), (25, .bool ((a j : Int) != (b j : Int)))])
      (I := fun w => Below wr.heap.size wr w) (z := 26) (by kernel_rfl) (by kernel_rfl) (by kernel_rfl) (by kernel_rfl) (by kernel_rfl) rfl rfl (Below.refl _ _).drew ?_ ?_
     ·intro j a w hj hd hz hold hf hI; have HI := Lib.hid hI; have q1 := Below.old hI Q1.out; have q2 := Below.old hI Q2.out; clear hI hbb he; have s0 := zc hz (hold 0 (by kernel_rfl)) (by omega); have s1 := zc hz (hold 1 (by kernel_rfl)) (by omega); have s5 := zc hz (hold 5 (by kernel_rfl)) (by omega); clear hold; have hjs : j = 0 ∨ j = 1 ∨ j = 2 ∨ j = 3 ∨ j = 4 ∨ j = 5 ∨ j = 6 ∨ j = 7 ∨ j = 8 := by have : j < 9 := hj; omega
      rcases hjs with rfl | rfl | rfl | rfl | rfl | rfl | rfl | rfl | rfl
      all_goals
       try have f17 := zc hz (hf 0 17 _ rfl rfl) (by omega)
       try have f18 := zc hz (hf 1 18 _ rfl rfl) (by omega)
       try have f19 := zc hz (hf 2 19 _ rfl rfl) (by omega)
       try have f21 := zc hz (hf 4 21 _ rfl rfl) (by omega)
       try have f22 := zc hz (hf 5 22 _ rfl rfl) (by omega)
       try have f23 := zc hz (hf 6 23 _ rfl rfl) (by omega)
       try have f20 := zc hz (hf 3 20 _ rfl rfl) (by omega)
       try have f24 := zc hz (hf 7 24 _ rfl rfl) (by omega)
       refine wpOpIn_step rfl fun K hK => ?_
       go_simp; exact hK _ _ ⟨_, _, rfl, rfl, rfl, HI.out⟩
     intro w5 hI; simp only [List.foldl_cons, List.foldl_nil, List.setIfInBounds_toArray, List.set_cons_succ, List.set_cons_zero]; have HI := Lib.hid hI; clear hI; have HE := Lib.hid he; clear he; gi_wp2; go_roundw
     case rel => exact ⟨j + 1, by omega, by go_num, HBW.out.trans (HI.out.mono HBW.out.size), fun i hi => by
      by_cases e : i = j
      ·subst e; have := HE.out; omega
      ·exact HEQ.out i (by omega)⟩
     case measure => simp [intOf]; omega
    ·have hbb : ((a j : Int) != (b j : Int)) = true := by simpa using he
     have HE : Hid (¬ (a j : Int) = (b j : Int)) := Lib.hid he; clear he; gi_wp2; refine zL (D := [(17, .slice (some ⟨b1, o1, none⟩) m lc), (18, .int .i64 j), (19, .pointer (some ⟨b1, o1 + j, none⟩)), (20, .int .i64 (a j)), (21, .slice (some ⟨b2, o2, none⟩) m kc), (22, .int .i64 j), (23, .pointer (some ⟨b2, o2 + j, none⟩)), (24, .int .i64 (b j)), (25, .bool ((a j : Int) != (b j : Int)))])
      (I := fun w => Below wr.heap.size wr w) (z := 26) (by kernel_rfl) (by kernel_rfl) (by kernel_rfl) (by kernel_rfl) (by kernel_rfl) rfl rfl (Below.refl _ _).drew ?_ ?_
     ·intro j a w hj hd hz hold hf hI; have HI := Lib.hid hI; have q1 := Below.old hI Q1.out; have q2 := Below.old hI Q2.out; clear hI hbb; have s0 := zc hz (hold 0 (by kernel_rfl)) (by omega); have s1 := zc hz (hold 1 (by kernel_rfl)) (by omega); have s5 := zc hz (hold 5 (by kernel_rfl)) (by omega); clear hold; have hjs : j = 0 ∨ j = 1 ∨ j = 2 ∨ j = 3 ∨ j = 4 ∨ j = 5 ∨ j = 6 ∨ j = 7 ∨ j = 8 := by have : j < 9 := hj; omega
      rcases hjs with rfl | rfl | rfl | rfl | rfl | rfl | rfl | rfl | rfl
      all_goals
       try have f17 := zc hz (hf 0 17 _ rfl rfl) (by omega)
       try have f18 := zc hz (hf 1 18 _ rfl rfl) (by omega)
       try have f19 := zc hz (hf 2 19 _ rfl rfl) (by omega)
       try have f21 := zc hz (hf 4 21 _ rfl rfl) (by omega)
       try have f22 := zc hz (hf 5 22 _ rfl rfl) (by omega)
       try have f23 := zc hz (hf 6 23 _ rfl rfl) (by omega)
       try have f20 := zc hz (hf 3 20 _ rfl rfl) (by omega)
       try have f24 := zc hz (hf 7 24 _ rfl rfl) (by omega)
       refine wpOpIn_step rfl fun K hK => ?_
       go_simp; exact hK _ _ ⟨_, _, rfl, rfl, rfl, HI.out⟩
     intro w5 hI; simp only [List.foldl_cons, List.foldl_nil, List.setIfInBounds_toArray, List.set_cons_succ, List.set_cons_zero]; have HI := Lib.hid hI; clear hI; gi_wp2; go_ret; exact ⟨false, rfl, ⟨fun h => (by cases h), fun h => absurd (congrArg (fun x : Nat => (x : Int)) (h.2 j hlt)) HE.out⟩, HBW.out.trans (HI.out.mono HBW.out.size)⟩
   ·obtain rfl : j = m := by omega
    gi_wp2; go_ret; exact ⟨true, rfl, ⟨fun _ => ⟨by first | trivial | rfl, HEQ.out⟩, fun _ => rfl⟩, HBW.out⟩
 ·gi_enter Tryz.func27, Tryz.ntmps27; gi_wp2; go_ret; exact ⟨false, by simp [h], ⟨fun h => (by cases h), fun h' => absurd h'.1 h⟩, Below.refl _ _⟩
theorem Ascending_yes (LA : Option Addr) (m lc : Nat) (l : Nat → Nat) (n : Nat) (W : World) (hm : m ≤ 20) (hn : n ≤ 20) (hc : m ≤ lc) (hi : Hid (zca W LA m fun k => (l k : Int))) (hl : Hid (∀ i, i < m → l i < n)) (ha : Hid (∀ i, i + 1 < m → l i < l (i + 1))) :
  CallsIn Fc 0 Tryz.prog 43 #[.slice LA m lc, .int .i64 n] W (ybb 0 W) := by
 gi_enter Tryz.func43, Tryz.ntmps43; gi_wp2
 gi_loopw [5] (fun x wr => ∃ j : Nat, j ≤ m ∧ x = .int .i64 j ∧ Below W.heap.size W wr) (fun x _ => m - (intOf x).toNat)
 case atStart => exact ⟨0, by omega, rfl, Below.refl _ _⟩
 case round =>
  obtain ⟨j, hj, rfl, hbw⟩ := hrel; have HBW := Lib.hid hbw; clear hbw; by_cases hlt : j < m
  ·obtain ⟨b1, o1, rfl, q1⟩ := hi.out j hlt; have Q1 := Lib.hid (Below.old HBW.out q1); have q1 := Q1.out; have hlj := hl.out j hlt; have hin : inB (l j : Int) 0 ((n : Int) - 1) = true := by rw [inB_iff]; omega
   have HIN := Lib.hid hin; clear hin hlj; by_cases h0 : j = 0
   ·have hz0 : ¬ 0 < j := by omega
    have HZ0 := Lib.hid hz0; clear hz0 h0
    gi_wp2_with (gi_at_call 62; refine (zYa _ _ _ _).mono ?_; rw [HIN.out]; rintro e w' ⟨rfl, rfl⟩)
    refine zL (D := [(20, .int .i64 (j : Int)), (21, .bool false), (22, .bool false), (23, undef), (24, undef), (25, undef), (26, undef), (27, undef), (28, undef), (29, undef), (30, undef), (31, undef), (32, undef), (33, .bool false)])
     (I := fun w => Below wr.heap.size wr w) (z := 34) (by kernel_rfl) (by kernel_rfl) (by kernel_rfl) (by kernel_rfl) (by kernel_rfl) rfl rfl (Below.refl _ _).drew ?_ ?_
    ·intro j a w hj hd hz hold hf hI; have HI := Lib.hid hI; have g1 := HZ0.out; clear hI; have s0 := zc hz (hold 0 (by kernel_rfl)) (by omega); have s5 := zc hz (hold 5 (by kernel_rfl)) (by omega); clear hold; have hjs : j = 0 ∨ j = 1 ∨ j = 2 ∨ j = 3 ∨ j = 4 ∨ j = 5 ∨ j = 6 ∨ j = 7 ∨ j = 8 ∨ j = 9 ∨ j = 10 ∨ j = 11 ∨ j = 12 ∨ j = 13 := by have : j < 14 := hj; omega
     rcases hjs with rfl | rfl | rfl | rfl | rfl | rfl | rfl | rfl | rfl | rfl | rfl | rfl | rfl | rfl
     all_goals
      try have f20 := zc hz (hf 0 20 _ rfl rfl) (by omega)
      try have f21 := zc hz (hf 1 21 _ rfl rfl) (by omega)
      try have f22 := zc hz (hf 2 22 _ rfl rfl) (by omega)
      refine wpOpIn_step rfl fun K hK => ?_
      go_simp; exact hK _ _ ⟨_, _, rfl, rfl, rfl, HI.out⟩
    intro w5 hI; simp only [List.foldl_cons, List.foldl_nil, List.setIfInBounds_toArray, List.set_cons_succ, List.set_cons_zero]; have HI := Lib.hid hI; clear hI; gi_wp2; go_roundw
    case rel => exact ⟨j + 1, by omega, by go_num, HBW.out.trans (HI.out.mono HBW.out.size)⟩
    case measure => simp [intOf]; omega
   ·obtain ⟨jp, hjp⟩ : ∃ jp, j = jp + 1 := ⟨j - 1, by omega⟩; obtain ⟨b2, o2, e', q2⟩ := hi.out jp (by omega); cases e'; have Q2 := Lib.hid (Below.old HBW.out q2); have hlt2 : l jp < l j := by rw [hjp]; exact ha.out jp (by omega)
    have HAS := Lib.hid (show ¬ (l j ≤ l jp) by omega); have HJ := Lib.hid (And.intro (show (j : Int) - 1 = (jp : Int) by omega) (And.intro (show jp < m by omega) (And.intro (show (jp : Int) < (m : Int) by omega) (And.intro (show IntKind.wrap .i64 (jp : Int) = (jp : Int) from ySa (by omega) (by omega)) (show 0 < j by omega))))); clear q2 hlt2 hjp
    gi_wp2_with (gi_at_call 62; refine (zYa _ _ _ _).mono ?_; rw [HIN.out]; rintro e w' ⟨rfl, rfl⟩)
    refine zL (D := [(20, .int .i64 (j : Int)), (21, .bool true), (22, .bool true), (23, .slice (some ⟨b1, o1, none⟩) m lc), (24, .int .i64 (j : Int)), (25, .pointer (some ⟨b1, o1 + j, none⟩)), (26, .int .i64 (l j : Nat)), (27, .slice (some ⟨b1, o1, none⟩) m lc), (28, .int .i64 (j : Int)), (29, .int .i64 (jp : Int)), (30, .pointer (some ⟨b1, o1 + jp, none⟩)), (31, .int .i64 (l jp : Nat)), (32, .bool false), (33, .bool false)])
     (I := fun w => Below wr.heap.size wr w) (z := 34) (by kernel_rfl) (by kernel_rfl) (by kernel_rfl) (by kernel_rfl) (by kernel_rfl) rfl rfl (Below.refl _ _).drew ?_ ?_
    ·intro j a w hj hd hz hold hf hI; have HI := Lib.hid hI; have q1 := Below.old hI Q1.out; have q2 := Below.old hI Q2.out; obtain ⟨g1, g2, g3, g4, g5⟩ := HJ.out; have g6 := HAS.out; clear hI; have s0 := zc hz (hold 0 (by kernel_rfl)) (by omega); have s5 := zc hz (hold 5 (by kernel_rfl)) (by omega); clear hold; have hjs : j = 0 ∨ j = 1 ∨ j = 2 ∨ j = 3 ∨ j = 4 ∨ j = 5 ∨ j = 6 ∨ j = 7 ∨ j = 8 ∨ j = 9 ∨ j = 10 ∨ j = 11 ∨ j = 12 ∨ j = 13 := by have : j < 14 := hj; omega
     rcases hjs with rfl | rfl | rfl | rfl | rfl | rfl | rfl | rfl | rfl | rfl | rfl | rfl | rfl | rfl
     all_goals
      try have f20 := zc hz (hf 0 20 _ rfl rfl) (by omega)
      try have f21 := zc hz (hf 1 21 _ rfl rfl) (by omega)
      try have f22 := zc hz (hf 2 22 _ rfl rfl) (by omega)
      try have f23 := zc hz (hf 3 23 _ rfl rfl) (by omega)
      try have f24 := zc hz (hf 4 24 _ rfl rfl) (by omega)
      try have f25 := zc hz (hf 5 25 _ rfl rfl) (by omega)
      try have f28 := zc hz (hf 8 28 _ rfl rfl) (by omega)
      try have f27 := zc hz (hf 7 27 _ rfl rfl) (by omega)
      try have f29 := zc hz (hf 9 29 _ rfl rfl) (by omega)
      try have f30 := zc hz (hf 10 30 _ rfl rfl) (by omega)
      try have f26 := zc hz (hf 6 26 _ rfl rfl) (by omega)
      try have f31 := zc hz (hf 11 31 _ rfl rfl) (by omega)
      try have f32 := zc hz (hf 12 32 _ rfl rfl) (by omega)
      refine wpOpIn_step rfl fun K hK => ?_
      go_simp; exact hK _ _ ⟨_, _, rfl, rfl, rfl, HI.out⟩
    intro w5 hI; simp only [List.foldl_cons, List.foldl_nil, List.setIfInBounds_toArray, List.set_cons_succ, List.set_cons_zero]; have HI := Lib.hid hI; clear hI; gi_wp2; go_roundw
    case rel => exact ⟨j + 1, by omega, by go_num, HBW.out.trans (HI.out.mono HBW.out.size)⟩
    case measure => simp [intOf]; omega
  ·obtain rfl : j = m := by omega
   gi_wp2; go_ret; exact ⟨rfl, HBW.out⟩
theorem less_any (LA LB : Option Addr) (m lc kc : Nat) (a b : Nat → Nat) (W : World) (hm : m ≤ 20) (hc : m ≤ lc) (hkc : m ≤ kc) (ha : Hid (zca W LA m fun k => (a k : Int))) (hb : Hid (zca W LB m fun k => (b k : Int))) :
  CallsIn Fc 0 Tryz.prog 44 #[.slice LA m lc, .slice LB m kc] W (yRa (LexLt a b m) W) := by
 gi_enter Tryz.func44, Tryz.ntmps44; gi_wp2
 gi_loopw [5] (fun x wr => ∃ j : Nat, j ≤ m ∧ x = .int .i64 j ∧ Below W.heap.size W wr ∧ ∀ i, i < j → a i = b i) (fun x _ => m - (intOf x).toNat)
 case atStart => exact ⟨0, by omega, rfl, Below.refl _ _, fun i hi => by omega⟩
 case round =>
  obtain ⟨j, hj, rfl, hbw, heq⟩ := hrel; have HEQ := Lib.hid heq; have HBW := Lib.hid hbw; clear heq hbw; by_cases hlt : j < m
  ·obtain ⟨b1, o1, rfl, q1⟩ := ha.out j hlt; obtain ⟨b2, o2, rfl, q2⟩ := hb.out j hlt; have Q1 := Lib.hid (Below.old HBW.out q1); have Q2 := Lib.hid (Below.old HBW.out q2); clear q1 q2; by_cases he : (a j : Int) = (b j : Int)
   ·have hbb : ((a j : Int) != (b j : Int)) = false := by simp [he]
    gi_wp2; refine zL (D := [(18, .slice (some ⟨b1, o1, none⟩) m lc), (19, .int .i64 j), (20, .pointer (some ⟨b1, o1 + j, none⟩)), (21, .int .i64 (a j)), (22, .slice (some ⟨b2, o2, none⟩) m kc), (23, .int .i64 j), (24, .pointer (some ⟨b2, o2 + j, none⟩)), (25, .int .i64 (b j)), (26, .bool ((a j : Int) != (b j : Int)))])
     (I := fun w => Below wr.heap.size wr w) (z := 41) (by kernel_rfl) (by kernel_rfl) (by kernel_rfl) (by kernel_rfl) (by kernel_rfl) rfl rfl (Below.refl _ _).drew ?_ ?_
    ·intro j a w hj hd hz hold hf hI; have HI := Lib.hid hI; have q1 := Below.old hI Q1.out; have q2 := Below.old hI Q2.out; clear hI hbb he; have s0 := zc hz (hold 0 (by kernel_rfl)) (by omega); have s1 := zc hz (hold 1 (by kernel_rfl)) (by omega); have s5 := zc hz (hold 5 (by kernel_rfl)) (by omega); clear hold; have hjs : j = 0 ∨ j = 1 ∨ j = 2 ∨ j = 3 ∨ j = 4 ∨ j = 5 ∨ j = 6 ∨ j = 7 ∨ j = 8 := by have : j < 9 := hj; omega
     rcases hjs with rfl | rfl | rfl | rfl | rfl | rfl | rfl | rfl | rfl
     all_goals
      try have f18 := zc hz (hf 0 18 _ rfl rfl) (by omega)
      try have f19 := zc hz (hf 1 19 _ rfl rfl) (by omega)
      try have f20 := zc hz (hf 2 20 _ rfl rfl) (by omega)
      try have f22 := zc hz (hf 4 22 _ rfl rfl) (by omega)
      try have f23 := zc hz (hf 5 23 _ rfl rfl) (by omega)
      try have f24 := zc hz (hf 6 24 _ rfl rfl) (by omega)
      try have f21 := zc hz (hf 3 21 _ rfl rfl) (by omega)
      try have f25 := zc hz (hf 7 25 _ rfl rfl) (by omega)
      refine wpOpIn_step rfl fun K hK => ?_
      go_simp; exact hK _ _ ⟨_, _, rfl, rfl, rfl, HI.out⟩
    intro w5 hI; simp only [List.foldl_cons, List.foldl_nil, List.setIfInBounds_toArray, List.set_cons_succ, List.set_cons_zero]; have HI := Lib.hid hI; clear hI; have HE := Lib.hid he; clear he; gi_wp2; go_roundw
    case rel => exact ⟨j + 1, by omega, by go_num, HBW.out.trans (HI.out.mono HBW.out.size), fun i hi => by
     by_cases e : i = j
     ·subst e; have := HE.out; omega
     ·exact HEQ.out i (by omega)⟩
    case measure => simp [intOf]; omega
   ·have hbb : ((a j : Int) != (b j : Int)) = true := by simpa using he
    have HE : Hid (¬ (a j : Int) = (b j : Int)) := Lib.hid he; clear he; gi_wp2; refine zL (D := [(18, .slice (some ⟨b1, o1, none⟩) m lc), (19, .int .i64 j), (20, .pointer (some ⟨b1, o1 + j, none⟩)), (21, .int .i64 (a j)), (22, .slice (some ⟨b2, o2, none⟩) m kc), (23, .int .i64 j), (24, .pointer (some ⟨b2, o2 + j, none⟩)), (25, .int .i64 (b j)), (26, .bool ((a j : Int) != (b j : Int)))])
     (I := fun w => Below wr.heap.size wr w) (z := 41) (by kernel_rfl) (by kernel_rfl) (by kernel_rfl) (by kernel_rfl) (by kernel_rfl) rfl rfl (Below.refl _ _).drew ?_ ?_
    ·intro j a w hj hd hz hold hf hI; have HI := Lib.hid hI; have q1 := Below.old hI Q1.out; have q2 := Below.old hI Q2.out; clear hI hbb; have s0 := zc hz (hold 0 (by kernel_rfl)) (by omega); have s1 := zc hz (hold 1 (by kernel_rfl)) (by omega); have s5 := zc hz (hold 5 (by kernel_rfl)) (by omega); clear hold; have hjs : j = 0 ∨ j = 1 ∨ j = 2 ∨ j = 3 ∨ j = 4 ∨ j = 5 ∨ j = 6 ∨ j = 7 ∨ j = 8 := by have : j < 9 := hj; omega
     rcases hjs with rfl | rfl | rfl | rfl | rfl | rfl | rfl | rfl | rfl
     all_goals
      try have f18 := zc hz (hf 0 18 _ rfl rfl) (by omega)
      try have f19 := zc hz (hf 1 19 _ rfl rfl) (by omega)
      try have f20 := zc hz (hf 2 20 _ rfl rfl) (by omega)
      try have f22 := zc hz (hf 4 22 _ rfl rfl) (by omega)
      try have f23 := zc hz (hf 5 23 _ rfl rfl) (by omega)
      try have f24 := zc hz (hf 6 24 _ rfl rfl) (by omega)
      try have f21 := zc hz (hf 3 21 _ rfl rfl) (by omega)
      try have f25 := zc hz (hf 7 25 _ rfl rfl) (by omega)
      refine wpOpIn_step rfl fun K hK => ?_
      go_simp; exact hK _ _ ⟨_, _, rfl, rfl, rfl, HI.out⟩
    intro w5 hI; simp only [List.foldl_cons, List.foldl_nil, List.setIfInBounds_toArray, List.set_cons_succ, List.set_cons_zero]; have HI := Lib.hid hI; clear hI; gi_wp2; refine zL (D := [(27, .slice (some ⟨b1, o1, none⟩) m lc), (28, .int .i64 j), (29, .pointer (some ⟨b1, o1 + j, none⟩)), (30, .int .i64 (a j)), (31, .slice (some ⟨b2, o2, none⟩) m kc), (32, .int .i64 j), (33, .pointer (some ⟨b2, o2 + j, none⟩)), (34, .int .i64 (b j)), (35, .bool (decide (a j < b j))), (4, .bool (decide (a j < b j)))])
     (I := fun w => Below wr.heap.size wr w) (z := 41) (by kernel_rfl) (by kernel_rfl) (by kernel_rfl) (by kernel_rfl) (by kernel_rfl) rfl rfl HI.out.drew ?_ ?_
    ·intro j a w hj hd hz hold hf hI; have HI := Lib.hid hI; have q1 := Below.old hI Q1.out; have q2 := Below.old hI Q2.out; clear hI hbb; have s0 := zc hz (hold 0 (by kernel_rfl)) (by omega); have s1 := zc hz (hold 1 (by kernel_rfl)) (by omega); have s5 := zc hz (hold 5 (by kernel_rfl)) (by omega); clear hold; have hjs : j = 0 ∨ j = 1 ∨ j = 2 ∨ j = 3 ∨ j = 4 ∨ j = 5 ∨ j = 6 ∨ j = 7 ∨ j = 8 ∨ j = 9 := by have : j < 10 := hj; omega
     rcases hjs with rfl | rfl | rfl | rfl | rfl | rfl | rfl | rfl | rfl | rfl
     all_goals
      try have f27 := zc hz (hf 0 27 _ rfl rfl) (by omega)
      try have f28 := zc hz (hf 1 28 _ rfl rfl) (by omega)
      try have f29 := zc hz (hf 2 29 _ rfl rfl) (by omega)
      try have f31 := zc hz (hf 4 31 _ rfl rfl) (by omega)
      try have f32 := zc hz (hf 5 32 _ rfl rfl) (by omega)
      try have f33 := zc hz (hf 6 33 _ rfl rfl) (by omega)
      try have f30 := zc hz (hf 3 30 _ rfl rfl) (by omega)
      try have f34 := zc hz (hf 7 34 _ rfl rfl) (by omega)
      try have f35 := zc hz (hf 8 35 _ rfl rfl) (by omega)
      refine wpOpIn_step rfl fun K hK => ?_
      go_simp; exact hK _ _ ⟨_, _, rfl, rfl, rfl, HI.out⟩
    intro w6 hI; simp only [List.foldl_cons, List.foldl_nil, List.setIfInBounds_toArray, List.set_cons_succ, List.set_cons_zero]; have HI6 := Lib.hid hI; clear hI; gi_wp2; go_ret; refine ⟨decide (a j < b j), rfl, ?_, HBW.out.trans (HI6.out.mono HBW.out.size)⟩; simp only [decide_eq_true_eq]; constructor
    ·intro h; exact ⟨j, hlt, HEQ.out, by omega⟩
    ·rintro ⟨i, hi, hp, hl⟩; rcases Nat.lt_trichotomy i j with h | h | h
     ·have := HEQ.out i h; omega
     ·subst h; omega
     ·have := hp j h; have := HE.out; omega
  ·obtain rfl : j = m := by omega
   gi_wp2; go_ret; refine ⟨false, by simp, ⟨fun h => (by cases h), fun h => ?_⟩, HBW.out⟩; obtain ⟨i, hi, _, hl⟩ := h; have := HEQ.out i hi; omega
end
section
open Go.RowKit
theorem yKa {N : Nat} {f : List (List Nat) → List Nat → List (List Nat)} : ∀ (X B : List (List Nat)), (∀ B x, B.length ≤ N → (f B x).length ≤ N) → B.length ≤ N → (X.foldl f B).length ≤ N
 | [], _, _, h => h
 | x :: X, B, hf, h => yKa X (f B x) hf (hf B x h)
theorem yga {n N : Nat} {O : Nat → List (List Nat)} : ∀ (d : Nat) (T : Nat → Bool) (S B : List (List Nat)), S.length + d ≤ N → B.length ≤ N → (tryE n O d T S B).length ≤ N
 | 0, T, S, B, hS, hB => by
  simp only [tryE]; split
  ·omega
  ·exact hB
 | d + 1, T, S, B, hS, hB => by
  simp only [tryE]; refine yga d _ S _ (by omega) ?_; split
  ·exact hB
  ·refine yKa _ _ (fun B x hB => ?_) hB; split
   ·exact yga d _ _ B (by rw [List.length_append, List.length_singleton]; omega) hB
   ·exact hB
theorem share_few (rs rl rw : Int) (sh : Nat → Shaft) (n m : Nat) (T : Nat → Bool) : (zgc rs rl rw sh n m T).length ≤ n :=
 yga n T [] [] (by simp) (by simp)
end
section
open Go.RowKit Go.Cx Go.Conc
def yAa (P : Program) (o : Op) : Prop := ∃ (f : FuncId) (args : Array Operand) (ats : Array TypeId) (fn : Func), o = .call { callee := .value (.func f), args, argTypes := ats } ∧ P.funcs[f]? = some fn ∧ (fn.name == "runtime.NumGoroutine") = false ∧ fn.body.isNone = false
section
variable {F : Fence} {n : Nat} {P : Program} {Post : Act → World → Prop} {a : Act} {w : World} {b : Frame} {k : List Item} {cs : List Frame}
theorem comes_call {ops : Array Oper} {i : Nat} {l : List Nat} {o : Oper} {S : FuncId} {args : Array Value} {w1 : World} {next : Act → World → Prop} (ho : ops[i]? = some o) (hw : Region.wanted o (yielded ops a.tmps) = true) (hro : b.roundOf = F.round) (hb : F.fn b.fn) (hr : F.room (cs.length + 1 + n))
  (hrun : (o.semAt F.round a.eval).run P w = .ok (.enter S args) w1) (h : o.wpIn F n P a w next (zJb Post)) :
  ∃ v w2, next (a.put o.dst v) w2 ∧ Comes F P b cs a (.inRegion ops (i :: l) :: k) w (a.put o.dst v) (.inRegion ops l :: k) w2 := by
 obtain ⟨hab, h⟩ := h; rw [hrun] at h; simp only [Oper.uponIn] at h; obtain ⟨hn, hF, h⟩ := h; have h0 : (lone (b.atR a (.inRegion ops (i :: l) :: k)) cs w).fenced P F := fenced_oper hb hr ho hab; have hg := stepGR_op (P := P) (b := b) (k := k) (cs := cs) (w := w) (rest := l) ho hw; rw [hro] at hg; have hroom : F.room ((b.atR a (.inRegion ops (i :: l) :: k) :: cs).length + 1 + (n - 1)) := Fence.room_enter hr hn; obtain ⟨e, w2, fr, hR, hsteps, hfn, hleave⟩ := h (b.atR a (.inRegion ops (i :: l) :: k) :: cs) hroom; have henter : step P (lone (b.atR a (.inRegion ops (i :: l) :: k)) cs w) = .next (lone (Frame.enter P S args .normal) (b.atR a (.inRegion ops (i :: l) :: k) :: cs) w1) :=
  step_lone_go (by rw [hg]; simp [stepG.apply, hrun, Frame.atR])
 cases e with
 | returned v =>
  refine ⟨v, w2, hR, .head h0 henter (StepsIn.trans hsteps (.one (fenced_leaving (hfn ▸ hF) hroom hleave) ?_))⟩; have hfin : (b.atR a (.inRegion ops (i :: l) :: k)).finish v = b.atR (a.put o.dst v) (.inRegion ops l :: k) := by rw [Frame.finish_atR, ho]; rfl
  rw [← hfin]; exact step_leave_returned hleave
 | panicked chain => exact hR.elim
 | outgrown => obtain ⟨_, _, hq⟩ := hR; exact hq.elim
theorem comes_list {ops : Array Oper} (l : List Oper) : ∀ (i : Nat) (rest : List Nat) (a : Act) (w : World), (∀ j, j < l.length → ops[i + j]? = l[j]?) → (∀ o ∈ l, reckons o.op = true ∨ yAa P o.op) →
  wpListIn F n P ops (zJb Post) l a w → b.roundOf = F.round → F.fn b.fn → F.room (cs.length + 1 + n) →
  ∃ a' w', Post a' w' ∧ Comes F P b cs a (.inRegion ops (List.range' i l.length ++ rest) :: k) w a' (.inRegion ops rest :: k) w' := by
 induction l with
 | nil => exact fun i rest a w _ _ h _ _ _ => ⟨a, w, h, .refl _⟩
 | cons o l ih =>
  intro i rest a w hops hall h hro hb hr; have ho : ops[i]? = some o := by simpa using hops 0 (by simp)
  have hops' : ∀ j, j < l.length → ops[i + 1 + j]? = l[j]? := fun j hj => by have := hops (j + 1) (by simp; omega); simpa [Nat.add_assoc, Nat.add_comm 1 j] using this
  have hall' : ∀ o ∈ l, reckons o.op = true ∨ yAa P o.op := fun o ho => hall o (List.mem_cons_of_mem _ ho)
  rw [List.length_cons, List.range'_succ, List.cons_append]; simp only [wpListIn] at h; by_cases hw : Region.wanted o (yielded ops a.tmps) = true
  ·rw [if_pos hw] at h; rcases hall o (List.mem_cons_self ..) with hrk | ⟨f, args, ats, fn, hop, hf, hname, hbody⟩
   ·have h1 : wpListIn F n P ops (zJb fun a w => wpListIn F n P ops (zJb Post) l a w) [o] a w := by
     simp only [wpListIn]; rw [if_pos hw]; refine ⟨h.1, ?_⟩; have h2 := h.2
     revert h2
     have hsem : o.semAt F.round a.eval = execOp a.eval o := Oper.semAt_eq _ _ _ fun c hc => by rw [hc] at hrk; exact absurd hrk (by simp [reckons])
     rw [hsem]; rcases yQ hrk P w a.eval with ⟨v, w1, hrun⟩ | ⟨x, w1, hrun⟩
     ·rw [hrun]; exact fun h => h
     ·rw [hrun]; cases x <;> exact fun h => h
    obtain ⟨a1, w1, h2, h3⟩ := comes_pre (b := b) (cs := cs) (k := k) (ops := ops) [o] i (List.range' (i + 1) l.length ++ rest) a w (fun j hj => by simp at hj; subst hj; simpa using ho) (by simpa using hrk) h1 hro hb hr; obtain ⟨a', w', hp, hs⟩ := ih (i + 1) rest a1 w1 hops' hall' h2 hro hb hr; exact ⟨a', w', hp, StepsIn.trans (by simpa using h3) hs⟩
   ·have hsem : o.semAt F.round a.eval = execOp a.eval o := Oper.semAt_eq _ _ _ fun c hc => by rw [hop] at hc; cases hc
    obtain ⟨v, w2, h2, h3⟩ := comes_call (l := List.range' (i + 1) l.length ++ rest) ho hw hro hb hr (by rw [hsem]; exact run_call_body hop hf hname hbody) h; obtain ⟨a', w', hp, hs⟩ := ih (i + 1) rest _ w2 hops' hall' h2 hro hb hr; exact ⟨a', w', hp, StepsIn.trans h3 hs⟩
  ·rw [if_neg hw] at h; obtain ⟨a', w', hp, hs⟩ := ih (i + 1) rest _ _ hops' hall' h.2 hro hb hr; have hk := stepR_op_skip (P := P) (b := b) (a := a) (k := k) (cs := cs) (w := w) (ops := ops) (i := i) (rest := List.range' (i + 1) l.length ++ rest) (by simp [ho]; simpa using hw); simp only [ho, Option.bind_some] at hk; exact ⟨a', w', hp, .head (fenced_oper hb hr ho h.1) hk hs⟩
theorem yz {S : Act → List Item → World → Prop} {ops : Array Oper} (t : Nat) (rest : List Nat) (hr2 : List.range ops.size = List.range' 0 (ops.toList.take t).length ++ rest) (hall : ∀ o ∈ ops.toList.take t, reckons o.op = true ∨ yAa P o.op) (hro : b.roundOf = F.round) (hb : F.fn b.fn) (hr : F.room (cs.length + 1 + n))
  (h : ∀ R : Act → World → Prop, (∀ a' w', Reach F P b cs S a' (.inRegion ops rest :: k) w' → R a' w') → wpListIn F n P ops (zJb R) (ops.toList.take t) a w) : Reach F P b cs S a (.inRegion ops (List.range ops.size) :: k) w := by
 rw [hr2]; obtain ⟨a1, w1, ⟨a', k', w', h1, h2⟩, h3⟩ := comes_list (b := b) (cs := cs) (k := k) (ops.toList.take t) 0 rest a w (fun j hj => by rw [Nat.zero_add, List.getElem?_take, if_pos (Nat.lt_of_lt_of_le hj (List.length_take_le ..))]; simp) hall (h (fun a' w' => Reach F P b cs S a' (.inRegion ops rest :: k) w') fun a' w' h => h) hro hb hr; exact ⟨a', k', w', h1, h3.trans h2⟩
end
end
section
open Go.RowKit Go.Cx Go.Conc
noncomputable def A10 : Code := match Tryz.f10.body with
 | some c => c
 | none => .skip
theorem fin10 : Fc.fn (lawFr 10).fn := by show (10 : FuncId) ∈ _; simp
theorem zH : Fc.room (([] : List Frame).length + 1 + 0) := fun d hd => by cases hd
theorem yOa : ∀ (y x : List Nat), y.length = x.length → cmpL y x = -1 → LexLt (fun k => y.getD k 0) (fun k => x.getD k 0) y.length
 | [], [], _, h => by rw [cmpL] at h; cases h
 | [], _ :: _, h, _ => by simp at h
 | _ :: _, [], h, _ => by simp at h
 | a :: y, b :: x, hl, h => by
  rw [cmpL] at h; by_cases h1 : a < b
  ·exact ⟨0, by simp, fun j hj => by omega, by simpa using h1⟩
  ·rw [if_neg h1] at h; by_cases h2 : b < a
   ·rw [if_pos h2] at h; cases h
   ·rw [if_neg h2] at h; obtain ⟨i, q1, q2, q3⟩ := yOa y x (by simpa using hl) h; refine ⟨i + 1, by simpa using q1, fun j hj => ?_, by simpa using q3⟩; cases j with
    | zero => show a = b; omega
    | succ j => simpa using q2 j (by omega)
theorem zMb {M : List (List Nat)} {xs x : List Nat} {i : Nat} (h : i < M.length) (hx : M.getD i [] = x) : decide (xs ∈ M.take (i + 1)) = (decide (xs ∈ M.take i) || decide (x = xs)) := by rw [yqa h, hx, Bool.eq_iff_iff, Bool.or_eq_true, decide_eq_true_iff, decide_eq_true_iff, decide_eq_true_iff, List.mem_append, List.mem_singleton]; exact ⟨fun h => h.imp id Eq.symm, fun h => h.imp id Eq.symm⟩
theorem yha {x xs : List Nat} {mm : Nat} (h : x.length = mm) : (mm = xs.length ∧ ∀ i, i < mm → x.getD i 0 = xs.getD i 0) ↔ x = xs := by
 subst h; constructor
 ·rintro ⟨h1, h2⟩; refine List.ext_getElem h1 fun i hi hi' => ?_
  have := h2 i hi; simpa [List.getD_eq_getElem?_getD, List.getElem?_eq_getElem hi, List.getElem?_eq_getElem hi'] using this
 ·rintro rfl; exact ⟨rfl, fun _ _ => rfl⟩
abbrev SeekL (W : World) (a : Act) (k : List Item) (w : World) : Prop := zLb 14 4 145 a k ∧ Below W.heap.size W w
theorem listed_walk (rs rl rw many : Int) (A : Option Addr) (n c : Nat) (sh : Nat → Shaft) (bits : Int) (W : World) (hc : n ≤ c) (hsh : Hid (zA W A n sh)) :
    Reach Fc Tryz.prog (lawFr 10) [] (SeekL W) { tmps := #[zga rs rl rw many A n c, .int .u16 bits] ++ Array.replicate 143 undef, defers := [] } [.code A10] W := by
  have hB1 : ∀ x, Below W.heap.size W (W.alloc x) := fun x => (Below.refl _ _).alloc (Nat.le_refl _) _
  have HB1 := Lib.hid hB1; clear hB1; generalize hS : SeekL W = S; have HS := Lib.hid hS; clear hS; simp only [A10, Tryz.f10]; simp only [List.size_toArray, List.length_cons, List.length_nil, Nat.reduceAdd, Nat.reduceSub, Array.replicate_succ, Array.replicate_zero, List.push_toArray, List.append_toArray, List.nil_append, List.cons_append]; refine zK fin10 zH ?_; refine zO (n := 0) rfl fin10 zH fun R hR => ?_
  have HR := Lib.hid hR; clear hR; gi_wp2; change R _ _; refine HR.out _ _ ?_; clear HR; refine zK fin10 zH (zK fin10 zH ?_); refine zO (n := 0) rfl fin10 zH fun R hR => ?_
  have HR := Lib.hid hR; clear hR
  gi_wp2_with (first
    | (gi_at_call 33; refine (Fit_any _ _ _ _ _ _ _ sh _ hc (Lib.hid (hsh.out.below (HB1.out _)))).mono ?_; rintro e w2 ⟨fit, rfl, hfit, hb2⟩
       have e0 : w2.cell? ⟨W.heap.size, 0, none⟩ = some (.int .i64 rs) := Below.old hb2 (by go_simp); have e1 : w2.cell? ⟨W.heap.size, 1, none⟩ = some (.int .i64 rl) := Below.old hb2 (by go_simp); have e2 : w2.cell? ⟨W.heap.size, 2, none⟩ = some (.int .i64 rw) := Below.old hb2 (by go_simp); have e3 : w2.cell? ⟨W.heap.size, 3, none⟩ = some (.int .i64 many) := Below.old hb2 (by go_simp); have e4 : w2.cell? ⟨W.heap.size, 4, none⟩ = some (.slice A n c) := Below.old hb2 (by go_simp); have HB2 := Lib.hid ((HB1.out _).trans (hb2.mono (HB1.out _).size)); clear hb2))
  change R _ _; refine HR.out _ _ ?_; clear HR; refine yda (!fit) rfl fin10 zH ?_; cases fit with
  | false => simp only [Bool.not_false, if_true]; refine zK fin10 zH (yL fin10 zH (Reach.here ?_)); rw [← HS.out]; exact ⟨.early _ _ _ 0 1 21 ⟨⟨_, rfl, rfl, rfl, rfl⟩, ⟨_, rfl, rfl, rfl, rfl⟩⟩ (by omega) rfl rfl, HB2.out⟩
  | true =>
    simp only [Bool.not_true, Bool.false_eq_true, if_false]; refine yca (n := 0) fin10 zH rfl ?_; have hst := Lib.hid (hfit rfl); clear hfit; have hn := hst.out.count; have hmany : 2 ≤ many := hst.out.rule.m0; have hmany4 : many ≤ 4 := hst.out.rule.m1; obtain ⟨mm, rfl⟩ : ∃ mm : Nat, many = (mm : Int) := ⟨many.toNat, by omega⟩; have hsets := fun w (hb : Below W.heap.size W w) => Sets_fair rs rl rw mm A n c sh w hc (Lib.hid (hsh.out.below hb)) hst.out
    have hfill := fun w (hb : Below W.heap.size W w) => Fill_fair rs rl rw mm A n c sh w hc (Lib.hid (hsh.out.below hb)) hst.out
    have HSETS := Lib.hid hsets; have HFILL := Lib.hid hfill; clear hsets hfill; refine zK fin10 zH ?_; refine zO (n := 0) rfl fin10 zH fun R hR => ?_
    have HR := Lib.hid hR; clear hR
    gi_wp2_with (first
      | (gi_at_call 34; refine (Listed_any _ _ _ _ _ _ _ _ _ hn hc).mono ?_; rintro e w3 ⟨xs, LA, lc, rfl, h1, h2, h3, h4, h5, hb3⟩
         have e0 := Below.old hb3 e0; have e1 := Below.old hb3 e1; have e2 := Below.old hb3 e2; have e3 := Below.old hb3 e3; have e4 := Below.old hb3 e4; have HB3 := Lib.hid (HB2.out.trans (hb3.mono HB2.out.size)); have H3 := Lib.hid h3; have H4 := Lib.hid h4; have H5 := Lib.hid h5; clear hb3 h3 h4 h5))
    change R _ _; refine HR.out _ _ ?_; clear HR; have HL : Hid (∀ k, k < xs.length → xs.getD k 0 < n) := Lib.hid fun k hk => H4.out _ (by rw [List.getD_eq_getElem?_getD, List.getElem?_eq_getElem hk]; exact List.getElem_mem hk)
    have HA : Hid (∀ j k, j < k → k < xs.length → xs.getD j 0 < xs.getD k 0) := Lib.hid fun j k hj hk => yZa H3.out hj hk
    have hm9 : xs.length ≤ 9 := by omega
    have hmat := fun w (hb : Below W.heap.size W w) hi => Match_any rs rl rw mm A n c sh LA xs.length lc (fun k => xs.getD k 0) w hc hst (Lib.hid (hsh.out.below hb)) hm9 h1 HL HA hi
    obtain ⟨mz, hmz⟩ : ∃ mz, zoc rs rl rw sh (fun k => xs.getD k 0) xs.length = mz := ⟨_, rfl⟩; rw [hmz] at hmat; have HMAT := Lib.hid hmat; have HMZ := Lib.hid hmz; clear hmat hmz HL HA; refine zK fin10 zH ?_; refine zO (n := 0) rfl fin10 zH fun R hR => ?_
    have HR := Lib.hid hR; clear hR
    gi_wp2_with (first
      | (gi_at_call 15; refine (HMAT.out _ HB3.out H5).mono ?_; rintro e w4 ⟨rfl, hb4⟩
         have e0 := Below.old hb4 e0; have e1 := Below.old hb4 e1; have e2 := Below.old hb4 e2; have e3 := Below.old hb4 e3; have e4 := Below.old hb4 e4; have HB4 := Lib.hid (HB3.out.trans (hb4.mono HB3.out.size)); have H6 := Lib.hid (H5.out.below hb4); clear hb4))
    change R _ _; refine HR.out _ _ ?_; clear HR; refine zK fin10 zH ?_; refine zO (n := 0) rfl fin10 zH fun R hR => ?_
    have HR := Lib.hid hR; clear hR
    gi_wp2_with (first
      | (gi_at_call 22; refine (HSETS.out _ HB4.out).mono ?_; rintro e w5 ⟨v5, rfl, hl5, hb5⟩
         have e0 := Below.old hb5 e0; have e1 := Below.old hb5 e1; have e2 := Below.old hb5 e2; have e3 := Below.old hb5 e3; have e4 := Below.old hb5 e4; have HB5 := Lib.hid (HB4.out.trans (hb5.mono HB4.out.size)); have H7 := Lib.hid (H6.out.below hb5); have HL5 := Lib.hid hl5; clear hb5 hl5))
    change R _ _; refine HR.out _ _ ?_; clear HR; refine zK fin10 zH ?_; refine zO (n := 0) rfl fin10 zH fun R hR => ?_
    have HR := Lib.hid hR; clear hR
    gi_wp2_with (first
      | (gi_at_call 25; refine (HFILL.out _ HB5.out).mono ?_; rintro e w6 ⟨v6, u6, rfl, hl6, hu6, hb6⟩
         have e0 := Below.old hb6 e0; have e1 := Below.old hb6 e1; have e2 := Below.old hb6 e2; have e3 := Below.old hb6 e3; have e4 := Below.old hb6 e4; have HB6 := Lib.hid (HB5.out.trans (hb6.mono HB5.out.size)); have H8 := Lib.hid (H7.out.below hb6); have HL6 := Lib.hid hl6; have HL56 := Lib.hid (HL5.out.below hb6); clear hb6 hl6 hu6))
    change R _ _; refine HR.out _ _ ?_; clear HR; refine zK fin10 zH (zK fin10 zH ?_); refine zO (n := 0) rfl fin10 zH fun R hR => ?_
    have HR := Lib.hid hR; clear hR; gi_wp2; change R _ _; refine HR.out _ _ ?_; clear HR; refine yda false rfl fin10 zH ?_; simp only [Bool.false_eq_true, if_false]; refine yca (n := 0) fin10 zH rfl ?_; refine zK fin10 zH ?_; refine zO (n := 0) rfl fin10 zH fun R hR => ?_
    have HR := Lib.hid hR; clear hR; gi_wp2; change R _ _; refine HR.out _ _ ?_; clear HR; obtain ⟨M, hM⟩ : ∃ M, setsX rs rl rw sh n mm = M := ⟨_, rfl⟩; obtain ⟨F, hF⟩ : ∃ F, zgc rs rl rw sh n mm (fun _ => false) = F := ⟨_, rfl⟩; rw [hM] at HL56; have hF9 : F.length ≤ 9 := by rw [← hF]; exact Nat.le_trans (share_few ..) hn
    rw [hF] at HL6; obtain ⟨L5, c5, rfl, hc5, hr5⟩ := HL56.out.read; obtain ⟨L6, c6, rfl, hc6, hr6⟩ := HL6.out.read; have HR5 := Lib.hid hr5; have HR6 := Lib.hid hr6; have HM := Lib.hid hM; have HF := Lib.hid hF; have HF9 := Lib.hid (show F.length ≤ 9 from hF9); have H9 := Lib.hid (show zca w6 LA xs.length fun k => ((xs.getD k 0 : Nat) : Int) from H8.out); clear hM hF hr5 hr6 HL5 H5 H6 H7 H8 HSETS HFILL HMAT HL56 HL6; refine zK fin10 zH (zK fin10 zH ?_); refine zO (n := 0) rfl fin10 zH fun R hR => ?_
    have HR := Lib.hid hR; clear hR; gi_wp2; change R _ _; refine HR.out _ _ ?_; clear HR; refine zO (n := 0) rfl fin10 zH fun R hR => ?_
    have HR := Lib.hid hR; clear hR; gi_wp2
    gi_loopw [13, 14] (fun b y wr => ∃ i : Nat, i ≤ M.length ∧ y = .int .i64 i ∧ b = .bool (decide (xs ∈ M.take i)) ∧ Below w6.heap.size w6 wr) (fun _ y _ => M.length - (intOf y).toNat)
    case atStart => exact ⟨0, by omega, rfl, by simp, Below.refl _ _⟩
    case round =>
      obtain ⟨i, hi, rfl, rfl, hbw⟩ := hrel; have HBW := Lib.hid hbw; clear hbw; obtain ⟨bin, hbin⟩ : ∃ b, decide (xs ∈ M.take i) = b := ⟨_, rfl⟩; rw [hbin]; have HBIN := Lib.hid hbin; clear hbin; have hM5 : M.length ≤ 512 := by rw [← HM.out]; exact Nat.le_trans (List.length_filter_le _ _) (yMa hn)
      by_cases hlt : i < M.length
      · obtain ⟨b5, o5, LX, kx, rfl, qx, hkx, hix⟩ := HR5.out i hlt; obtain ⟨x, hx⟩ : ∃ x, M.getD i [] = x := ⟨_, rfl⟩; rw [hx] at qx hkx hix; have hxm : x ∈ setsX rs rl rw sh n mm := by rw [HM.out, ← hx, List.getD_eq_getElem?_getD, List.getElem?_eq_getElem hlt]; exact List.getElem_mem hlt
        obtain ⟨x1, x2, x3, x4⟩ := setsX_iff.1 hxm; rw [x3] at qx hkx hix; have QX := Lib.hid (Below.old HBW.out qx); have HIX := Lib.hid hix; have X3 := Lib.hid x3; have HX := Lib.hid hx; have hasc := fun w (hb : Below w6.heap.size w6 w) => Ascending_yes LX mm kx (fun k => x.getD k 0) n w (by omega) (by omega) hkx (Lib.hid (hix.below hb)) (Lib.hid fun j hj => x2 _ (by rw [List.getD_eq_getElem?_getD, List.getElem?_eq_getElem (by omega)]; exact List.getElem_mem _)) (Lib.hid fun j hj => yZa x1 (by omega) (by omega))
        have HASC := Lib.hid hasc; clear hasc qx hix hx hxm x1 x2 x4; have hltI : (i : Int) < (M.length : Int) := by omega
        have h600 : i < 600 := by omega
        cases i with
        | zero =>
          gi_wp2; refine zL (D := [(58, .slice (some ⟨b5, o5, none⟩) M.length c5), (59, .int .i64 0), (60, .pointer (some ⟨b5, o5, none⟩)), (61, .slice LX mm kx), (62, .int .i64 mm), (63, .pointer (some ⟨W.heap.size, 0, none⟩)), (64, .pointer (some ⟨W.heap.size, 3, none⟩)), (65, .int .i64 mm), (66, .bool false), (67, .bool false), (68, .slice (some ⟨b5, o5, none⟩) M.length c5), (69, .int .i64 0), (70, .pointer (some ⟨b5, o5, none⟩)), (71, .slice LX mm kx), (72, .pointer (some ⟨W.heap.size, 4, none⟩)), (73, .slice A n c), (74, .int .i64 n), (75, .int .i64 0), (76, .bool false), (77, .bool false), (78, .bool false), (79, .int .i64 0), (80, .bool false), (81, .bool false), (82, undef), (83, undef), (84, undef), (85, undef), (86, undef), (87, undef), (88, undef), (89, undef), (90, undef), (91, undef), (92, undef), (93, .bool false), (94, .bool false)])
            (I := fun w => Below wr.heap.size wr w) (z := 145) (by kernel_rfl) (by kernel_rfl) (by kernel_rfl) (by kernel_rfl) (by kernel_rfl) rfl rfl (Below.refl _ _).drew ?_ ?_
          · intro j a w hj hd hz hold hf hI; have HI := Lib.hid hI; have d0 := Below.old HBW.out (e0 : w6.cell? _ = _); have d1 := Below.old HBW.out (e1 : w6.cell? _ = _); have d2 := Below.old HBW.out (e2 : w6.cell? _ = _); have d3 := Below.old HBW.out (e3 : w6.cell? _ = _); have d4 := Below.old HBW.out (e4 : w6.cell? _ = _); have d0 := Below.old hI d0; have d1 := Below.old hI d1; have d2 := Below.old hI d2; have d3 := Below.old hI d3; have d4 := Below.old hI d4; have qx := Below.old hI QX.out; rw [Nat.add_zero] at qx; clear hI; have s2 := zc hz (hold 2 (by kernel_rfl)) (by omega); have s8 := zc hz (hold 8 (by kernel_rfl)) (by omega); have s14 := zc hz (hold 14 (by kernel_rfl)) (by omega); clear hold
            have hjs : j = 0 ∨ j = 1 ∨ j = 2 ∨ j = 3 ∨ j = 4 ∨ j = 5 ∨ j = 6 ∨ j = 7 ∨ j = 8 ∨ j = 9 ∨ j = 10 ∨ j = 11 ∨ j = 12 ∨ j = 13 ∨ j = 14 ∨ j = 15 ∨ j = 16 ∨ j = 17 ∨ j = 18 ∨ j = 19 ∨ j = 20 ∨ j = 21 ∨ j = 22 ∨ j = 23 ∨ j = 24 ∨ j = 25 ∨ j = 26 ∨ j = 27 ∨ j = 28 ∨ j = 29 ∨ j = 30 ∨ j = 31 ∨ j = 32 ∨ j = 33 ∨ j = 34 ∨ j = 35 ∨ j = 36 := by have : j < 37 := hj; omega
            rcases hjs with rfl | rfl | rfl | rfl | rfl | rfl | rfl | rfl | rfl | rfl | rfl | rfl | rfl | rfl | rfl | rfl | rfl | rfl | rfl | rfl | rfl | rfl | rfl | rfl | rfl | rfl | rfl | rfl | rfl | rfl | rfl | rfl | rfl | rfl | rfl | rfl | rfl
            all_goals
              try have f58 := zc hz (hf 0 58 _ rfl rfl) (by omega)
              try have f59 := zc hz (hf 1 59 _ rfl rfl) (by omega)
              try have f60 := zc hz (hf 2 60 _ rfl rfl) (by omega)
              try have f61 := zc hz (hf 3 61 _ rfl rfl) (by omega)
              try have f63 := zc hz (hf 5 63 _ rfl rfl) (by omega)
              try have f64 := zc hz (hf 6 64 _ rfl rfl) (by omega)
              try have f62 := zc hz (hf 4 62 _ rfl rfl) (by omega)
              try have f65 := zc hz (hf 7 65 _ rfl rfl) (by omega)
              try have f66 := zc hz (hf 8 66 _ rfl rfl) (by omega)
              try have f67 := zc hz (hf 9 67 _ rfl rfl) (by omega)
              try have f68 := zc hz (hf 10 68 _ rfl rfl) (by omega)
              try have f69 := zc hz (hf 11 69 _ rfl rfl) (by omega)
              try have f70 := zc hz (hf 12 70 _ rfl rfl) (by omega)
              try have f72 := zc hz (hf 14 72 _ rfl rfl) (by omega)
              try have f73 := zc hz (hf 15 73 _ rfl rfl) (by omega)
              try have f71 := zc hz (hf 13 71 _ rfl rfl) (by omega)
              try have f74 := zc hz (hf 16 74 _ rfl rfl) (by omega)
              try have f75 := zc hz (hf 17 75 _ rfl rfl) (by omega)
              try have f76 := zc hz (hf 18 76 _ rfl rfl) (by omega)
              try have f77 := zc hz (hf 19 77 _ rfl rfl) (by omega)
              try have f78 := zc hz (hf 20 78 _ rfl rfl) (by omega)
              try have f79 := zc hz (hf 21 79 _ rfl rfl) (by omega)
              try have f80 := zc hz (hf 22 80 _ rfl rfl) (by omega)
              try have f81 := zc hz (hf 23 81 _ rfl rfl) (by omega)
              try have f92 := zc hz (hf 34 92 _ rfl rfl) (by omega)
              try have f93 := zc hz (hf 35 93 _ rfl rfl) (by omega)
              refine wpOpIn_step rfl fun K hK => ?_
              go_simp
              first
                | first | exact hK _ _ ⟨_, _, rfl, rfl, rfl, HI.out⟩ | exact hK _ _ ⟨_, _, rfl, hd, rfl, HI.out⟩
                | (refine (HASC.out w (HBW.out.trans (HI.out.mono HBW.out.size))).mono ?_; rintro e w' ⟨rfl, hb'⟩; exact hK _ _ ⟨_, _, rfl, rfl, rfl, (HI.out.trans (hb'.mono HI.out.size))⟩)
          intro w5 hI5; have HI6 := Lib.hid (HBW.out.trans (hI5.mono HBW.out.size)); have qx5 := Below.old hI5 QX.out; rw [Nat.add_zero] at qx5; clear hI5; simp only [List.foldl_cons, List.foldl_nil, List.setIfInBounds_toArray, List.set_cons_succ, List.set_cons_zero]; cases bin with
          | true => gi_wp2; refine ⟨⟨1, by omega, by first | rfl | trivial, ?_, HI6.out⟩, by simp [intOf]; omega⟩; show Value.bool true = Value.bool (decide (xs ∈ M.take (0 + 1))); rw [zMb hlt HX.out, HBIN.out]; rfl
          | false =>
            gi_wp2_with (gi_at_call 27; refine (yk LX LA mm kx xs.length lc (fun k => x.getD k 0) (fun k => xs.getD k 0) w5 (by omega) (by omega) hkx h1 (Lib.hid (HIX.out.below HI6.out)) (Lib.hid (H9.out.below HI6.out))).mono ?_; rintro e w7 ⟨g, rfl, hg, hb7⟩; have HG := Lib.hid hg; have HB7 := Lib.hid hb7; clear hg hb7)
            have hgd : g = decide (x = xs) := by rw [Bool.eq_iff_iff, decide_eq_true_iff]; exact HG.out.trans (yha X3.out)
            refine ⟨⟨0 + 1, by omega, by first | rfl | trivial, ?_, HI6.out.trans (HB7.out.mono HI6.out.size)⟩, by simp [intOf]; omega⟩; rw [zMb hlt HX.out, HBIN.out, Bool.false_or, hgd]
        | succ p =>
          obtain ⟨b5', o5', LY, ky, e, qy, hky, hiy⟩ := HR5.out p (by omega); cases e; obtain ⟨y, hy⟩ : ∃ y, M.getD p [] = y := ⟨_, rfl⟩; rw [hy] at qy hky hiy; have hym : y ∈ setsX rs rl rw sh n mm := by rw [HM.out, ← hy, List.getD_eq_getElem?_getD, List.getElem?_eq_getElem (show p < M.length by omega)]; exact List.getElem_mem _
          have y3 := (setsX_iff.1 hym).2.2.1; rw [y3] at qy hky hiy; have hcm : cmpL y x = -1 := by have h := List.pairwise_iff_getElem.1 (setsX_sorted rs rl rw sh n mm) p (p + 1) (by rw [HM.out]; omega) (by rw [HM.out]; exact hlt) (by omega); rw [← hy, ← HX.out, List.getD_eq_getElem?_getD, List.getD_eq_getElem?_getD, List.getElem?_eq_getElem hlt, List.getElem?_eq_getElem (show p < M.length by omega)]; simpa [HM.out] using h
          have hlex := yOa y x (by omega) hcm; rw [y3] at hlex; have QY := Lib.hid (Below.old HBW.out qy); have hless := fun w (hb : Below w6.heap.size w6 w) => (less_any LY LX mm ky kx (fun k => y.getD k 0) (fun k => x.getD k 0) w (by omega) hky hkx (Lib.hid (hiy.below hb)) (Lib.hid (HIX.out.below hb)))
          have hless' : ∀ w, Below w6.heap.size w6 w → CallsIn Fc 0 Tryz.prog 44 #[.slice LY mm ky, .slice LX mm kx] w fun e w' => e = .returned (.bool true) ∧ Below w.heap.size w w' := fun w hb => by refine (hless w hb).mono ?_; rintro e w' ⟨g, rfl, hg, hb'⟩; exact ⟨by rw [hg.2 hlex], hb'⟩
          have HLESS := Lib.hid hless'; clear hless hless' hlex hcm y3 hym qy hy hiy; gi_wp2
          refine zL (D := [(58, .slice (some ⟨b5, o5, none⟩) M.length c5), (59, .int .i64 ((p : Int) + 1)), (60, .pointer (some ⟨b5, o5 + (p + 1), none⟩)), (61, .slice LX mm kx), (62, .int .i64 mm), (63, .pointer (some ⟨W.heap.size, 0, none⟩)), (64, .pointer (some ⟨W.heap.size, 3, none⟩)), (65, .int .i64 mm), (66, .bool false), (67, .bool false), (68, .slice (some ⟨b5, o5, none⟩) M.length c5), (69, .int .i64 ((p : Int) + 1)), (70, .pointer (some ⟨b5, o5 + (p + 1), none⟩)), (71, .slice LX mm kx), (72, .pointer (some ⟨W.heap.size, 4, none⟩)), (73, .slice A n c), (74, .int .i64 n), (75, .int .i64 0), (76, .bool false), (77, .bool false), (78, .bool false), (79, .int .i64 ((p : Int) + 1)), (80, .bool true), (81, .bool true), (82, .slice (some ⟨b5, o5, none⟩) M.length c5), (83, .int .i64 ((p : Int) + 1)), (84, .int .i64 p), (85, .pointer (some ⟨b5, o5 + p, none⟩)), (86, .slice LY mm ky), (87, .slice (some ⟨b5, o5, none⟩) M.length c5), (88, .int .i64 ((p : Int) + 1)), (89, .pointer (some ⟨b5, o5 + (p + 1), none⟩)), (90, .slice LX mm kx), (91, .bool true), (92, .bool false), (93, .bool false), (94, .bool false)])
            (I := fun w => Below wr.heap.size wr w) (z := 145) (by kernel_rfl) (by kernel_rfl) (by kernel_rfl) (by kernel_rfl) (by kernel_rfl) rfl rfl (Below.refl _ _).drew ?_ ?_
          · intro j a w hj hd hz hold hf hI; have HI := Lib.hid hI; have d0 := Below.old HBW.out (e0 : w6.cell? _ = _); have d1 := Below.old HBW.out (e1 : w6.cell? _ = _); have d2 := Below.old HBW.out (e2 : w6.cell? _ = _); have d3 := Below.old HBW.out (e3 : w6.cell? _ = _); have d4 := Below.old HBW.out (e4 : w6.cell? _ = _); have d0 := Below.old hI d0; have d1 := Below.old hI d1; have d2 := Below.old hI d2; have d3 := Below.old hI d3; have d4 := Below.old hI d4; have qx := Below.old hI QX.out; have qy := Below.old hI QY.out; have hwp := ySa (n := (p : Int)) (by omega) (by omega); have hpI : (p : Int) < (M.length : Int) := by omega
            clear hI; have s2 := zc hz (hold 2 (by kernel_rfl)) (by omega); have s8 := zc hz (hold 8 (by kernel_rfl)) (by omega); have s14 := zc hz (hold 14 (by kernel_rfl)) (by omega); clear hold; have hjs : j = 0 ∨ j = 1 ∨ j = 2 ∨ j = 3 ∨ j = 4 ∨ j = 5 ∨ j = 6 ∨ j = 7 ∨ j = 8 ∨ j = 9 ∨ j = 10 ∨ j = 11 ∨ j = 12 ∨ j = 13 ∨ j = 14 ∨ j = 15 ∨ j = 16 ∨ j = 17 ∨ j = 18 ∨ j = 19 ∨ j = 20 ∨ j = 21 ∨ j = 22 ∨ j = 23 ∨ j = 24 ∨ j = 25 ∨ j = 26 ∨ j = 27 ∨ j = 28 ∨ j = 29 ∨ j = 30 ∨ j = 31 ∨ j = 32 ∨ j = 33 ∨ j = 34 ∨ j = 35 ∨ j = 36 := by have : j < 37 := hj; omega
            rcases hjs with rfl | rfl | rfl | rfl | rfl | rfl | rfl | rfl | rfl | rfl | rfl | rfl | rfl | rfl | rfl | rfl | rfl | rfl | rfl | rfl | rfl | rfl | rfl | rfl | rfl | rfl | rfl | rfl | rfl | rfl | rfl | rfl | rfl | rfl | rfl | rfl | rfl
            all_goals
              try have f58 := zc hz (hf 0 58 _ rfl rfl) (by omega)
              try have f59 := zc hz (hf 1 59 _ rfl rfl) (by omega)
              try have f60 := zc hz (hf 2 60 _ rfl rfl) (by omega)
              try have f61 := zc hz (hf 3 61 _ rfl rfl) (by omega)
              try have f63 := zc hz (hf 5 63 _ rfl rfl) (by omega)
              try have f64 := zc hz (hf 6 64 _ rfl rfl) (by omega)
              try have f62 := zc hz (hf 4 62 _ rfl rfl) (by omega)
              try have f65 := zc hz (hf 7 65 _ rfl rfl) (by omega)
              try have f66 := zc hz (hf 8 66 _ rfl rfl) (by omega)
              try have f67 := zc hz (hf 9 67 _ rfl rfl) (by omega)
              try have f68 := zc hz (hf 10 68 _ rfl rfl) (by omega)
              try have f69 := zc hz (hf 11 69 _ rfl rfl) (by omega)
              try have f70 := zc hz (hf 12 70 _ rfl rfl) (by omega)
              try have f72 := zc hz (hf 14 72 _ rfl rfl) (by omega)
              try have f73 := zc hz (hf 15 73 _ rfl rfl) (by omega)
              try have f71 := zc hz (hf 13 71 _ rfl rfl) (by omega)
              try have f74 := zc hz (hf 16 74 _ rfl rfl) (by omega)
              try have f75 := zc hz (hf 17 75 _ rfl rfl) (by omega)
              try have f76 := zc hz (hf 18 76 _ rfl rfl) (by omega)
              try have f77 := zc hz (hf 19 77 _ rfl rfl) (by omega)
              try have f78 := zc hz (hf 20 78 _ rfl rfl) (by omega)
              try have f79 := zc hz (hf 21 79 _ rfl rfl) (by omega)
              try have f80 := zc hz (hf 22 80 _ rfl rfl) (by omega)
              try have f81 := zc hz (hf 23 81 _ rfl rfl) (by omega)
              try have f83 := zc hz (hf 25 83 _ rfl rfl) (by omega)
              try have f82 := zc hz (hf 24 82 _ rfl rfl) (by omega)
              try have f84 := zc hz (hf 26 84 _ rfl rfl) (by omega)
              try have f85 := zc hz (hf 27 85 _ rfl rfl) (by omega)
              try have f87 := zc hz (hf 29 87 _ rfl rfl) (by omega)
              try have f88 := zc hz (hf 30 88 _ rfl rfl) (by omega)
              try have f89 := zc hz (hf 31 89 _ rfl rfl) (by omega)
              try have f86 := zc hz (hf 28 86 _ rfl rfl) (by omega)
              try have f90 := zc hz (hf 32 90 _ rfl rfl) (by omega)
              try have f91 := zc hz (hf 33 91 _ rfl rfl) (by omega)
              try have f92 := zc hz (hf 34 92 _ rfl rfl) (by omega)
              try have f93 := zc hz (hf 35 93 _ rfl rfl) (by omega)
              refine wpOpIn_step rfl fun K hK => ?_
              go_simp
              first
                | first | exact hK _ _ ⟨_, _, rfl, rfl, rfl, HI.out⟩ | exact hK _ _ ⟨_, _, rfl, hd, rfl, HI.out⟩
                | (refine (HASC.out w (HBW.out.trans (HI.out.mono HBW.out.size))).mono ?_; rintro e w' ⟨rfl, hb'⟩; exact hK _ _ ⟨_, _, rfl, rfl, rfl, (HI.out.trans (hb'.mono HI.out.size))⟩)
                | (refine (HLESS.out w (HBW.out.trans (HI.out.mono HBW.out.size))).mono ?_; rintro e w' ⟨rfl, hb'⟩; exact hK _ _ ⟨_, _, rfl, rfl, rfl, (HI.out.trans (hb'.mono HI.out.size))⟩)
          intro w5 hI5; have HI6 := Lib.hid (HBW.out.trans (hI5.mono HBW.out.size)); have qx5 := Below.old hI5 QX.out; clear hI5; simp only [List.foldl_cons, List.foldl_nil, List.setIfInBounds_toArray, List.set_cons_succ, List.set_cons_zero]; cases bin with
          | true => gi_wp2; refine ⟨⟨p + 1 + 1, by omega, by first | rfl | trivial, ?_, HI6.out⟩, by simp [intOf]; omega⟩; show Value.bool true = Value.bool (decide (xs ∈ M.take (p + 1 + 1))); rw [zMb hlt HX.out, HBIN.out]; rfl
          | false =>
            gi_wp2_with (gi_at_call 27; refine (yk LX LA mm kx xs.length lc (fun k => x.getD k 0) (fun k => xs.getD k 0) w5 (by omega) (by omega) hkx h1 (Lib.hid (HIX.out.below HI6.out)) (Lib.hid (H9.out.below HI6.out))).mono ?_; rintro e w7 ⟨g, rfl, hg, hb7⟩; have HG := Lib.hid hg; have HB7 := Lib.hid hb7; clear hg hb7)
            have hgd : g = decide (x = xs) := by rw [Bool.eq_iff_iff, decide_eq_true_iff]; exact HG.out.trans (yha X3.out)
            refine ⟨⟨p + 1 + 1, by omega, by first | rfl | trivial, ?_, HI6.out.trans (HB7.out.mono HI6.out.size)⟩, by simp [intOf]; omega⟩; rw [zMb hlt HX.out, HBIN.out, Bool.false_or, hgd]
      · have hltI : ¬ (i : Int) < (M.length : Int) := by omega
        obtain rfl : i = M.length := by omega
        have hbt := HBIN.out; rw [List.take_length] at hbt; have HBT := Lib.hid hbt; obtain ⟨w8, hw8⟩ : ∃ w8, wr = w8 := ⟨_, rfl⟩; subst hw8; clear hbt HBIN; gi_wp2; change R _ _; refine HR.out _ _ ?_; clear HR; refine zK fin10 zH (zK fin10 zH ?_); refine zO (n := 0) rfl fin10 zH fun R hR => ?_
        have HR := Lib.hid hR; clear hR; gi_wp2; change R _ _; refine HR.out _ _ ?_; clear HR; refine zO (n := 0) rfl fin10 zH fun R hR => ?_
        have HR := Lib.hid hR; clear hR; gi_wp2
        gi_loopw [15] (fun y wv => ∃ k : Nat, k ≤ F.length ∧ y = .int .i64 k ∧ Below w6.heap.size w6 wv) (fun y _ => F.length - (intOf y).toNat)
        case atStart => exact ⟨0, by omega, rfl, HBW.out⟩
        case round =>
          clear HBW; obtain ⟨k, hk, rfl, hbw⟩ := hrel; have HBV := Lib.hid hbw; clear hbw; have hF9 : F.length ≤ 9 := HF9.out; by_cases hkF : k < F.length
          · obtain ⟨b6, o6, LZ, kz, rfl, qz, hkz, hiz⟩ := HR6.out k hkF; obtain ⟨z, hz⟩ : ∃ z, F.getD k [] = z := ⟨_, rfl⟩; rw [hz] at qz hkz hiz; have hzF : z ∈ F := by rw [← hz, List.getD_eq_getElem?_getD, List.getElem?_eq_getElem hkF]; exact List.getElem_mem hkF
            have hzm : z ∈ setsX rs rl rw sh n mm := by rw [← HF.out] at hzF; exact shareX_mem hzF
            have z3 := (setsX_iff.1 hzm).2.2.1; rw [z3] at qz hkz hiz; have hzM : z ∈ M := by rw [← HM.out]; exact hzm
            have QZ0 := Lib.hid qz; have HIZ := Lib.hid hiz; have HZM := Lib.hid hzM; have hkI : (k : Int) < (F.length : Int) := by omega
            have k99 : k < 99 := by omega
            clear qz hiz hz hzF hzm hzM; gi_wp2
            gi_loopw [16, 17] (fun b y wu => ∃ j : Nat, j ≤ M.length ∧ y = .int .i64 j ∧ b = .bool (decide (z ∈ M.take j)) ∧ Below w6.heap.size w6 wu) (fun _ y _ => M.length - (intOf y).toNat)
            case atStart => exact ⟨0, by omega, rfl, by simp, HBV.out⟩
            case round =>
              clear HBV; obtain ⟨j, hj, rfl, rfl, hbw⟩ := hrel; have HBW := Lib.hid hbw; clear hbw; obtain ⟨has, hhas⟩ : ∃ b, decide (z ∈ M.take j) = b := ⟨_, rfl⟩; rw [hhas]; have HHAS := Lib.hid hhas; clear hhas; by_cases hjM : j < M.length
              · obtain ⟨b5, o5, LX, kx, rfl, qx, hkx, hix⟩ := HR5.out j hjM; obtain ⟨x, hx⟩ : ∃ x, M.getD j [] = x := ⟨_, rfl⟩; rw [hx] at qx hkx hix; have hxm : x ∈ setsX rs rl rw sh n mm := by rw [HM.out, ← hx, List.getD_eq_getElem?_getD, List.getElem?_eq_getElem hjM]; exact List.getElem_mem hjM
                have x3 := (setsX_iff.1 hxm).2.2.1; rw [x3] at qx hkx hix; obtain ⟨dd, hdd⟩ : ∃ d, decide (x = z) = d := ⟨_, rfl⟩; have hsame : ∀ w, Below w6.heap.size w6 w → CallsIn Fc 0 Tryz.prog 27 #[.slice LX mm kx, .slice LZ mm kz] w fun e w' => e = .returned (.bool dd) ∧ Below w.heap.size w w' := fun w hb => by
                  refine (yk LX LZ mm kx mm kz (fun k => x.getD k 0) (fun k => z.getD k 0) w (by omega) (by omega) hkx hkz (Lib.hid (hix.below hb)) (Lib.hid (HIZ.out.below hb))).mono ?_; rintro e w' ⟨g, rfl, hg, hb'⟩; refine ⟨?_, hb'⟩; have hgd : g = decide (x = z) := by rw [Bool.eq_iff_iff, decide_eq_true_iff]; rw [← z3] at hg; exact hg.trans (yha (by omega))
                  rw [hgd, hdd]
                have HSAME := Lib.hid hsame; have QX := Lib.hid (Below.old HBW.out qx); have QZ := Lib.hid (Below.old HBW.out QZ0.out); have HX := Lib.hid hx; have HDD := Lib.hid hdd; have hjI : (j : Int) < (M.length : Int) := by omega
                have j600 : j < 600 := by omega
                clear hsame qx hix hx hxm hdd; cases has with
                | true =>
                  gi_wp2; refine zsa (R := [.val 116 (.bool true), .val 117 (.bool true), .val 118 (undef), .val 119 (undef), .val 120 (undef), .val 121 (undef), .val 122 (undef), .val 123 (undef), .val 124 (undef), .val 125 (undef), .val 126 (undef), .val 127 (.bool true), .any 16])
                    (I := fun Lb V w => Below wr.heap.size wr w ∧ (Lb 12 = false → V 12 = .bool true) ∧ (Lb 12 = true → V 12 = .bool true)) (z := 145) (by kernel_rfl) (by kernel_rfl) rfl (by kernel_rfl) rfl rfl ⟨(Below.refl _ _).drew, fun _ => rfl, (fun h => by cases h)⟩ ?_ ?_
                  · intro jj Lb V a w hj hno hdep hah hd0 hz hold hv hV hI; have HI := Lib.hid hI; have qx := Below.old HI.out.1 QX.out; have qz := Below.old HI.out.1 QZ.out; have s8 := zc hz (hold 8 (by kernel_rfl)) (by omega); have s10 := zc hz (hold 10 (by kernel_rfl)) (by omega); have s15 := zc hz (hold 15 (by kernel_rfl)) (by omega); have s17 := zc hz (hold 17 (by kernel_rfl)) (by omega); clear hold; have hjs : jj = 0 ∨ jj = 1 ∨ jj = 2 ∨ jj = 3 ∨ jj = 4 ∨ jj = 5 ∨ jj = 6 ∨ jj = 7 ∨ jj = 8 ∨ jj = 9 ∨ jj = 10 ∨ jj = 11 ∨ jj = 12 := by have : jj < 13 := hj; omega
                    rcases hjs with rfl | rfl | rfl | rfl | rfl | rfl | rfl | rfl | rfl | rfl | rfl | rfl | rfl
                    · have f16 := zc hz ((hV 12 16 rfl).trans (HI.out.2.1 (hah 12 (by kernel_rfl) rfl))) (by omega); clear hdep hah hv hV hno hI; refine wpOpIn_step rfl fun K hK => ?_
                      go_simp
                      first | exact hK _ _ ⟨rfl, rfl, HI.out⟩ | exact hK _ _ ⟨hd0, rfl, HI.out⟩
                    · have f116 := zc hz (hv 0 116 _ (by kernel_rfl) rfl) (by omega); clear hdep hah hv hV hno hI; refine wpOpIn_step rfl fun K hK => ?_
                      go_simp
                      first | exact hK _ _ ⟨rfl, rfl, HI.out⟩ | exact hK _ _ ⟨hd0, rfl, HI.out⟩
                    · have f117 := zc hz (hv 1 117 _ (by kernel_rfl) rfl) (by omega); clear hdep hah hv hV hno hI; refine wpOpIn_step rfl fun K hK => ?_
                      go_simp
                      first | exact hK _ _ ⟨rfl, rfl, HI.out⟩ | exact hK _ _ ⟨hd0, rfl, HI.out⟩
                    · have f117 := zc hz (hv 1 117 _ (by kernel_rfl) rfl) (by omega); clear hdep hah hv hV hno hI; refine wpOpIn_step rfl fun K hK => ?_
                      go_simp
                      first | exact hK _ _ ⟨rfl, rfl, HI.out⟩ | exact hK _ _ ⟨hd0, rfl, HI.out⟩
                    · have f117 := zc hz (hv 1 117 _ (by kernel_rfl) rfl) (by omega); clear hdep hah hv hV hno hI; refine wpOpIn_step rfl fun K hK => ?_
                      go_simp
                      first | exact hK _ _ ⟨rfl, rfl, HI.out⟩ | exact hK _ _ ⟨hd0, rfl, HI.out⟩
                    · have f117 := zc hz (hv 1 117 _ (by kernel_rfl) rfl) (by omega); clear hdep hah hv hV hno hI; refine wpOpIn_step rfl fun K hK => ?_
                      go_simp
                      first | exact hK _ _ ⟨rfl, rfl, HI.out⟩ | exact hK _ _ ⟨hd0, rfl, HI.out⟩
                    · have f117 := zc hz (hv 1 117 _ (by kernel_rfl) rfl) (by omega); clear hdep hah hv hV hno hI; refine wpOpIn_step rfl fun K hK => ?_
                      go_simp
                      first | exact hK _ _ ⟨rfl, rfl, HI.out⟩ | exact hK _ _ ⟨hd0, rfl, HI.out⟩
                    · have f117 := zc hz (hv 1 117 _ (by kernel_rfl) rfl) (by omega); clear hdep hah hv hV hno hI; refine wpOpIn_step rfl fun K hK => ?_
                      go_simp
                      first | exact hK _ _ ⟨rfl, rfl, HI.out⟩ | exact hK _ _ ⟨hd0, rfl, HI.out⟩
                    · have f117 := zc hz (hv 1 117 _ (by kernel_rfl) rfl) (by omega); clear hdep hah hv hV hno hI; refine wpOpIn_step rfl fun K hK => ?_
                      go_simp
                      first | exact hK _ _ ⟨rfl, rfl, HI.out⟩ | exact hK _ _ ⟨hd0, rfl, HI.out⟩
                    · have f117 := zc hz (hv 1 117 _ (by kernel_rfl) rfl) (by omega); clear hdep hah hv hV hno hI; refine wpOpIn_step rfl fun K hK => ?_
                      go_simp
                      first | exact hK _ _ ⟨rfl, rfl, HI.out⟩ | exact hK _ _ ⟨hd0, rfl, HI.out⟩
                    · have f117 := zc hz (hv 1 117 _ (by kernel_rfl) rfl) (by omega); clear hdep hah hv hV hno hI; refine wpOpIn_step rfl fun K hK => ?_
                      go_simp
                      first | exact hK _ _ ⟨rfl, rfl, HI.out⟩ | exact hK _ _ ⟨hd0, rfl, HI.out⟩
                    · have f117 := zc hz (hv 1 117 _ (by kernel_rfl) rfl) (by omega); have f126 := zc hz (hv 10 126 _ (by kernel_rfl) rfl) (by omega); clear hdep hah hv hV hno hI; refine wpOpIn_step rfl fun K hK => ?_
                      go_simp
                      first | exact hK _ _ ⟨rfl, rfl, HI.out⟩ | exact hK _ _ ⟨hd0, rfl, HI.out⟩
                    · have f127 := zc hz (hv 11 127 _ (by kernel_rfl) rfl) (by omega); clear hdep hah hv hV hno hI; refine wpOpIn_step rfl fun K hK => ?_
                      go_simp; exact hK _ _ ⟨rfl, _, rfl, HI.out.1, (fun h => by cases h), fun _ => rfl⟩
                  intro Lb V w5 hL hI; have HI6 := Lib.hid (HBW.out.trans (hI.1.mono HBW.out.size)); have e16 := hI.2.2 (hL 12 rfl); clear hI hL; simp only [outsG, Nat.zero_add, Nat.reduceAdd, e16, List.foldl_cons, List.foldl_nil, List.setIfInBounds_toArray, List.set_cons_succ, List.set_cons_zero]; gi_wp2; refine ⟨⟨j + 1, by omega, by first | rfl | trivial, ?_, HI6.out⟩, by simp [intOf]; omega⟩; show Value.bool true = Value.bool (decide (z ∈ M.take (j + 1))); rw [zMb hjM HX.out, HHAS.out]; rfl
                | false =>
                  gi_wp2; refine zsa (R := [.val 116 (.bool false), .val 117 (.bool false), .val 118 (.slice (some ⟨b5, o5, none⟩) M.length c5), .val 119 (.int .i64 j), .val 120 (.pointer (some ⟨b5, o5 + j, none⟩)), .val 121 (.slice LX mm kx), .val 122 (.slice (some ⟨b6, o6, none⟩) F.length c6), .val 123 (.int .i64 k), .val 124 (.pointer (some ⟨b6, o6 + k, none⟩)), .val 125 (.slice LZ mm kz), .val 126 (.bool dd), .val 127 (.bool dd), .any 16])
                    (I := fun Lb V w => Below wr.heap.size wr w ∧ (Lb 12 = false → V 12 = .bool false) ∧ (Lb 12 = true → V 12 = .bool dd)) (z := 145) (by kernel_rfl) (by kernel_rfl) rfl (by kernel_rfl) rfl rfl ⟨(Below.refl _ _).drew, fun _ => rfl, (fun h => by cases h)⟩ ?_ ?_
                  · intro jj Lb V a w hj hno hdep hah hd0 hz hold hv hV hI; have HI := Lib.hid hI; have qx := Below.old HI.out.1 QX.out; have qz := Below.old HI.out.1 QZ.out; have s8 := zc hz (hold 8 (by kernel_rfl)) (by omega); have s10 := zc hz (hold 10 (by kernel_rfl)) (by omega); have s15 := zc hz (hold 15 (by kernel_rfl)) (by omega); have s17 := zc hz (hold 17 (by kernel_rfl)) (by omega); clear hold; have hjs : jj = 0 ∨ jj = 1 ∨ jj = 2 ∨ jj = 3 ∨ jj = 4 ∨ jj = 5 ∨ jj = 6 ∨ jj = 7 ∨ jj = 8 ∨ jj = 9 ∨ jj = 10 ∨ jj = 11 ∨ jj = 12 := by have : jj < 13 := hj; omega
                    rcases hjs with rfl | rfl | rfl | rfl | rfl | rfl | rfl | rfl | rfl | rfl | rfl | rfl | rfl
                    · have f16 := zc hz ((hV 12 16 rfl).trans (HI.out.2.1 (hah 12 (by kernel_rfl) rfl))) (by omega); clear hdep hah hv hV hno hI; refine wpOpIn_step rfl fun K hK => ?_
                      go_simp
                      first | exact hK _ _ ⟨rfl, rfl, HI.out⟩ | exact hK _ _ ⟨hd0, rfl, HI.out⟩
                    · have f116 := zc hz (hv 0 116 _ (by kernel_rfl) rfl) (by omega); clear hdep hah hv hV hno hI; refine wpOpIn_step rfl fun K hK => ?_
                      go_simp
                      first | exact hK _ _ ⟨rfl, rfl, HI.out⟩ | exact hK _ _ ⟨hd0, rfl, HI.out⟩
                    · have f117 := zc hz (hv 1 117 _ (by kernel_rfl) rfl) (by omega); clear hdep hah hv hV hno hI; refine wpOpIn_step rfl fun K hK => ?_
                      go_simp
                      first | exact hK _ _ ⟨rfl, rfl, HI.out⟩ | exact hK _ _ ⟨hd0, rfl, HI.out⟩
                    · have f117 := zc hz (hv 1 117 _ (by kernel_rfl) rfl) (by omega); clear hdep hah hv hV hno hI; refine wpOpIn_step rfl fun K hK => ?_
                      go_simp
                      first | exact hK _ _ ⟨rfl, rfl, HI.out⟩ | exact hK _ _ ⟨hd0, rfl, HI.out⟩
                    · have f117 := zc hz (hv 1 117 _ (by kernel_rfl) rfl) (by omega); have f118 := zc hz (hv 2 118 _ (by kernel_rfl) rfl) (by omega); have f119 := zc hz (hv 3 119 _ (by kernel_rfl) rfl) (by omega); clear hdep hah hv hV hno hI; refine wpOpIn_step rfl fun K hK => ?_
                      go_simp
                      first | exact hK _ _ ⟨rfl, rfl, HI.out⟩ | exact hK _ _ ⟨hd0, rfl, HI.out⟩
                    · have f117 := zc hz (hv 1 117 _ (by kernel_rfl) rfl) (by omega); have f120 := zc hz (hv 4 120 _ (by kernel_rfl) rfl) (by omega); clear hdep hah hv hV hno hI; refine wpOpIn_step rfl fun K hK => ?_
                      go_simp
                      first | exact hK _ _ ⟨rfl, rfl, HI.out⟩ | exact hK _ _ ⟨hd0, rfl, HI.out⟩
                    · have f117 := zc hz (hv 1 117 _ (by kernel_rfl) rfl) (by omega); clear hdep hah hv hV hno hI; refine wpOpIn_step rfl fun K hK => ?_
                      go_simp
                      first | exact hK _ _ ⟨rfl, rfl, HI.out⟩ | exact hK _ _ ⟨hd0, rfl, HI.out⟩
                    · have f117 := zc hz (hv 1 117 _ (by kernel_rfl) rfl) (by omega); clear hdep hah hv hV hno hI; refine wpOpIn_step rfl fun K hK => ?_
                      go_simp
                      first | exact hK _ _ ⟨rfl, rfl, HI.out⟩ | exact hK _ _ ⟨hd0, rfl, HI.out⟩
                    · have f117 := zc hz (hv 1 117 _ (by kernel_rfl) rfl) (by omega); have f122 := zc hz (hv 6 122 _ (by kernel_rfl) rfl) (by omega); have f123 := zc hz (hv 7 123 _ (by kernel_rfl) rfl) (by omega); clear hdep hah hv hV hno hI; refine wpOpIn_step rfl fun K hK => ?_
                      go_simp
                      first | exact hK _ _ ⟨rfl, rfl, HI.out⟩ | exact hK _ _ ⟨hd0, rfl, HI.out⟩
                    · have f117 := zc hz (hv 1 117 _ (by kernel_rfl) rfl) (by omega); have f124 := zc hz (hv 8 124 _ (by kernel_rfl) rfl) (by omega); clear hdep hah hv hV hno hI; refine wpOpIn_step rfl fun K hK => ?_
                      go_simp
                      first | exact hK _ _ ⟨rfl, rfl, HI.out⟩ | exact hK _ _ ⟨hd0, rfl, HI.out⟩
                    · have f117 := zc hz (hv 1 117 _ (by kernel_rfl) rfl) (by omega); have f121 := zc hz (hv 5 121 _ (by kernel_rfl) rfl) (by omega); have f125 := zc hz (hv 9 125 _ (by kernel_rfl) rfl) (by omega); clear hdep hah hv hV hno hI; refine wpOpIn_step rfl fun K hK => ?_
                      go_simp; refine (HSAME.out w (HBW.out.trans (HI.out.1.mono HBW.out.size))).mono ?_; rintro e w' ⟨rfl, hb'⟩
                      first | exact hK _ _ ⟨rfl, rfl, ⟨HI.out.1.trans (hb'.mono HI.out.1.size), HI.out.2⟩⟩ | exact hK _ _ ⟨hd0, rfl, ⟨HI.out.1.trans (hb'.mono HI.out.1.size), HI.out.2⟩⟩
                    · have f117 := zc hz (hv 1 117 _ (by kernel_rfl) rfl) (by omega); have f126 := zc hz (hv 10 126 _ (by kernel_rfl) rfl) (by omega); clear hdep hah hv hV hno hI; refine wpOpIn_step rfl fun K hK => ?_
                      go_simp
                      first | exact hK _ _ ⟨rfl, rfl, HI.out⟩ | exact hK _ _ ⟨hd0, rfl, HI.out⟩
                    · have f127 := zc hz (hv 11 127 _ (by kernel_rfl) rfl) (by omega); clear hdep hah hv hV hno hI; refine wpOpIn_step rfl fun K hK => ?_
                      go_simp; exact hK _ _ ⟨rfl, _, rfl, HI.out.1, (fun h => by cases h), fun _ => rfl⟩
                  intro Lb V w5 hL hI; have HI6 := Lib.hid (HBW.out.trans (hI.1.mono HBW.out.size)); have e16 := hI.2.2 (hL 12 rfl); clear hI hL; simp only [outsG, Nat.zero_add, Nat.reduceAdd, e16, List.foldl_cons, List.foldl_nil, List.setIfInBounds_toArray, List.set_cons_succ, List.set_cons_zero]; gi_wp2; refine ⟨⟨j + 1, by omega, by first | rfl | trivial, ?_, HI6.out⟩, by simp [intOf]; omega⟩; rw [zMb hjM HX.out, HHAS.out, Bool.false_or, HDD.out]
              · have hjI : ¬ (j : Int) < (M.length : Int) := by omega
                obtain rfl : j = M.length := by omega
                have hh := HHAS.out; rw [List.take_length, decide_eq_true HZM.out] at hh; subst hh; gi_wp2; exact ⟨⟨k + 1, by omega, by first | rfl | trivial, HBW.out⟩, by simp [intOf]; omega⟩
          · have hkI : ¬ (k : Int) < (F.length : Int) := by omega
            gi_wp2; change R _ _; refine HR.out _ _ ?_; clear HR; have f3 := Below.old HBV.out e3; have hbin : bin = decide (xs.length = mm ∧ mz = 1) := by rw [← HBT.out, ← HM.out, Bool.eq_iff_iff, decide_eq_true_iff, decide_eq_true_iff, setsX_iff, HMZ.out]; exact ⟨fun h => h.2.2, fun h => ⟨H3.out, H4.out, h⟩⟩
            have HBF := Lib.hid (HB6.out.trans (HBV.out.mono HB6.out.size)); refine zK fin10 zH (yL fin10 zH ?_); by_cases hl : xs.length = mm
            · by_cases hm : mz = 1
              · have hb : bin = true := by rw [hbin, decide_eq_true ⟨hl, hm⟩]
                have hlI : (xs.length : Int) = (mm : Int) := by omega
                subst hb; clear hbin hl; refine yz (n := 0) 13 [13, 14, 15] rfl (fun o ho => ?_) rfl fin10 zH fun R hR => ?_
                · simp only [List.take_succ_cons, List.take_zero, List.mem_cons, List.not_mem_nil, or_false] at ho; rcases ho with rfl | rfl | rfl | rfl | rfl | rfl | rfl | rfl | rfl | rfl | rfl | rfl | rfl
                  all_goals exact .inl rfl
                have HR := Lib.hid hR; clear hR; simp only [List.take_succ_cons, List.take_zero]; gi_wp2; change R _ _; refine HR.out _ _ (Reach.here ?_); rw [← HS.out]; exact ⟨.late _ _ _ 13 14 15 12 142 143 144 ⟨⟨_, rfl, rfl, rfl, rfl⟩, rfl, ⟨_, rfl, rfl, rfl, rfl⟩, ⟨_, rfl, rfl, rfl, rfl⟩, by decide⟩ (by omega) (by omega) rfl rfl (by first | rfl | (simp; done) | (simp; assumption)) (by omega), HBF.out⟩
              · have hb : bin = false := by rw [hbin, decide_eq_false (fun h => hm h.2)]
                have hlI : (xs.length : Int) = (mm : Int) := by omega
                subst hb; clear hbin hl; refine yz (n := 0) 13 [13, 14, 15] rfl (fun o ho => ?_) rfl fin10 zH fun R hR => ?_
                · simp only [List.take_succ_cons, List.take_zero, List.mem_cons, List.not_mem_nil, or_false] at ho; rcases ho with rfl | rfl | rfl | rfl | rfl | rfl | rfl | rfl | rfl | rfl | rfl | rfl | rfl
                  all_goals exact .inl rfl
                have HR := Lib.hid hR; clear hR; simp only [List.take_succ_cons, List.take_zero]; gi_wp2; change R _ _; refine HR.out _ _ (Reach.here ?_); rw [← HS.out]; exact ⟨.late _ _ _ 13 14 15 12 142 143 144 ⟨⟨_, rfl, rfl, rfl, rfl⟩, rfl, ⟨_, rfl, rfl, rfl, rfl⟩, ⟨_, rfl, rfl, rfl, rfl⟩, by decide⟩ (by omega) (by omega) rfl rfl (by first | rfl | (simp; done) | (simp; assumption)) (by omega), HBF.out⟩
            · have hb : bin = false := by rw [hbin, decide_eq_false (fun h => hl h.1)]
              have hlI : ¬ (xs.length : Int) = (mm : Int) := by omega
              subst hb; clear hbin hl; refine yz (n := 0) 13 [13, 14, 15] rfl (fun o ho => ?_) rfl fin10 zH fun R hR => ?_
              · simp only [List.take_succ_cons, List.take_zero, List.mem_cons, List.not_mem_nil, or_false] at ho; rcases ho with rfl | rfl | rfl | rfl | rfl | rfl | rfl | rfl | rfl | rfl | rfl | rfl | rfl
                all_goals exact .inl rfl
              have HR := Lib.hid hR; clear hR; simp only [List.take_succ_cons, List.take_zero]; gi_wp2; change R _ _; refine HR.out _ _ (Reach.here ?_); rw [← HS.out]; exact ⟨.late _ _ _ 13 14 15 12 142 143 144 ⟨⟨_, rfl, rfl, rfl, rfl⟩, rfl, ⟨_, rfl, rfl, rfl, rfl⟩, ⟨_, rfl, rfl, rfl, rfl⟩, by decide⟩ (by omega) (by omega) rfl rfl (by first | rfl | (simp; done) | (simp; assumption)) (by omega), HBF.out⟩
end
section
open Go.RowKit Go.Cx Go.Conc
end
section
open Go.RowKit Go.Cx Go.Conc
theorem yla : zfa Tryz.prog Fc.fn := fenceOk_of (L := [7,33,34,15,13,18,55,56,57,58,59,62,63,64,65,66,77,96,97,98,99,100,101,102,103,104,105,106,107,108,109,110,124,138,78,159,160,161,125,172,3,5,6,8,16,17,19,20,21,30,31,32,35,36,37,38,39,40,41,43,60,61,67,75,76,79,80,81,82,83,84,111,123,22,25,28,68,71,72,73,112,114,115,116,117,118,119,120,121,137,139,140,141,142,157,158,23,24,26,27,29,69,70,74,113,122,4,9,10,11,12,42,44,45]) (by kernel_rfl)
theorem shafts_strike {W : World} {A : Option Addr} {n : Nat} {sh : Nat → Shaft} (h : zA W A n sh) : zA (strike W) A n sh := fun k hk => by
 obtain ⟨b, o, e, hx⟩ := h k hk; have c := fun a => (twin_strike W fun _ => True).cell a
 exact ⟨b, o, e, by rw [← c]; exact hx.h0, by rw [← c]; exact hx.h1, by rw [← c]; exact hx.h2, by rw [← c]; exact hx.h3, by rw [← c]; exact hx.h4, by rw [← c]; exact hx.h5, by rw [← c]; exact hx.h6⟩
theorem shot_there : ∃ fn, Tryz.prog.funcs[14]? = some fn ∧ (fn.name == "runtime.NumGoroutine") = false ∧ fn.body.isNone = false := ⟨_, Tryz.func14, by kernel_rfl, by kernel_rfl⟩
theorem law_calls {f : FuncId} {r z : Nat} {C0 : Code} {a0 : Act} {args : Array Value} {W : World} (hen : Frame.enter Tryz.prog f args .normal = (lawFr f).atR a0 [.code C0]) (hin : Fc.fn f)
  (h : Reach Fc Tryz.prog (lawFr f) [] (fun a k w => zLb 14 r z a k ∧ Below (strike W).heap.size (strike W) w) a0 [.code C0] (strike W)) :
  ∃ a k w N t, zLb 14 r z a k ∧ Below W.heap.size W w ∧ Lone t ∧ runNT Tryz.prog N (solo (G (Frame.enter Tryz.prog f args .normal) []) W) #[] = (.next (solo (G (Frame.enter Tryz.prog 14 #[] .normal) [(lawFr f).at a k]) w), t) := by
 obtain ⟨a, k, v, ⟨hat, hb⟩, hs⟩ := h; have hs : StepsIn (Machine.fenced Tryz.prog Fc) Tryz.prog (lone (Frame.enter Tryz.prog f args .normal) [] (strike W)) (lone ((lawFr f).atR a k) [] v) := by rw [hen]; exact hs
 obtain ⟨N, w, t, hr, hl, htw⟩ := chain_calm (Fc := Fc) (B := ⟨W, zka Tryz.prog Fc.fn⟩) (fun l => Iff.rfl) rfl yla hs (G (Frame.enter Tryz.prog f args .normal) []) (strike W) W #[] rfl
  ⟨_, [], rfl, frIn_enter yla hin _, .inl rfl, fun c h => by simp at h⟩ (twin_strike W _) (fun op h => by simp at h) ((lawFr f).atR a k) [] v rfl rfl
 have hsz : (strike W).heap.size = W.heap.size := by simp [strike]
 rw [hsz] at hb; refine ⟨a, k, w, N + 1, t, hat, twin_below htw hb, hl, ?_⟩; rw [runNT_add, hr]; simp only [Frame.atR_of_none (show (lawFr f).roundOf = none from rfl), runNT, stepT_solo (show (G ((lawFr f).at a k) []).status = .running from rfl), runT_solo_go (call_step shot_there hat w)]; simp [MemOp.ofEvents]
theorem env_below {w w1 : World} (h : Env (OldL w) w w1) : Below w.heap.size w w1 where
 os := h.os
 tape := h.tape
 output := h.output
 size := h.size
 block := by
  intro k hk; have hs := h.same k w.heap[k] (by simp [hk]); rw [Array.getElem?_eq_getElem hk]; cases ho : w.heap[k] with
  | cells c e fr =>
   rw [ho] at hs; obtain ⟨c', h1, h2, h3⟩ := hs; rw [h1]; have : c' = c := by apply Array.ext h2; intro i hi hi'; have := h3 i ⟨k, rfl, hk⟩; rw [Array.getElem?_eq_getElem hi, Array.getElem?_eq_getElem hi'] at this; exact Option.some.inj this
   rw [this]
  | _ => rw [ho] at hs; exact hs ⟨k, rfl, hk⟩
theorem entry_rel (hp : TabOk Tryz.tab) (b : Frame) (w : World) : XRel (fun _ => none) (fun _ => False) (fun _ => False) [b] Tryz.x0 (G (Frame.enter Tryz.prog 14 #[] .normal) [b]) w := by
 obtain ⟨fr, he⟩ : ∃ fr, zIa Tryz.tab 14 [] false = some fr := by
  cases h : zIa Tryz.tab 14 [] false with
  | some fr => exact ⟨fr, rfl⟩
  | none => exact absurd (show (zIa Tryz.tab 14 [] false).isSome = true by kernel_rfl) (by rw [h]; simp)
 have hr := zib (f := fun _ => none) hp (args' := #[]) (kind := .normal) .nil he rfl; unfold Tryz.x0; rw [he]; refine .plain (Bd := 0) ⟨⟨_, [], rfl, hr, .nil⟩, ?_⟩ (Nat.zero_le _) .nil; exact {
  wf := ⟨fun b o h => by simp [T.get] at h, fun b c x r ba m h => by simp [T.get] at h, fun r m h => by simp [members, T.get] at h⟩
  obj := fun b x h => by cases h
  mine := fun b x h => by cases h
  part := fun b x i h => by cases h
  apart := fun b b' x x' o o' h => by cases h
  coord := fun b b' x x' o o' h => by cases h
  home := fun b x h => by cases h }
theorem law_run {f : FuncId} {fl : Func} {r z : Nat} {C0 : Code} {a0 : Act} {args : Array Value} {W : World} (hen : Frame.enter Tryz.prog f args .normal = (lawFr f).atR a0 [.code C0]) (hin : Fc.fn f) (hfl : Tryz.prog.funcs[f]? = some fl) (hres : fl.results = #[.tmp r]) (hrz : r < z)
  (h : Reach Fc Tryz.prog (lawFr f) [] (fun a k w => zLb 14 r z a k ∧ Below (strike W).heap.size (strike W) w) a0 [.code C0] (strike W)) :
  ∃ M last o w' t', runNT Tryz.prog (M + 1) (solo (G (Frame.enter Tryz.prog f args .normal) []) W) #[] = (.ended o w', t') ∧
   runN Tryz.prog M (solo (G (Frame.enter Tryz.prog f args .normal) []) W) = .next last ∧ Go.step Tryz.prog last = .ended o w' ∧
   Go.Conc.Good Tryz.prog (fun v w1 => v = .bool true ∧ Below W.heap.size W w1) last o w' t' := by
 obtain ⟨a, k, w, N, t, hat, hb, hl, hr⟩ := law_calls hen hin h; obtain ⟨K, last, o, w2, t2, h1, h2, h3, h4⟩ := Tryz.shot_run (b := (lawFr f).at a k) (bot := []) (sl := none) hl (fun l h => h.elim) (entry_rel Tryz.tabOk _ w) (Post := fun v w1 => v = .bool true ∧ Env (OldL w) w w1) (n := 4) (fun w' he => after_callG yla hin hfl hres hrz hat he); rw [← solo_eq_crowd] at h1 h2; obtain ⟨r1, r2⟩ := run_then hr h1 h2; exact ⟨N + K, last, o, w2, t2, r1, r2, h3, h4.mono fun v hp => ⟨hp.1, hb.trans ((env_below hp.2).mono hb.size)⟩⟩
end
section
open Go.RowKit Go.ChangeShapes Go.WideShapes Go.Joins
def zZa (P : Program) (t : TypeId) : Option (List (Nat × TypeId)) := match P.underlying t with
 | some (.struct fs) => some (fs.toList.map fun f => (f.offset, f.type))
 | _ => none
theorem yF {P : Program} {t : TypeId} {o0 o1 : Nat} {t0 t1 : TypeId} (h : zZa P t = some [(o0, t0), (o1, t1)]) : ∃ f0 f1 : Field, P.underlying t = some (.struct #[f0, f1]) ∧ f0.offset = o0 ∧ f0.type = t0 ∧ f1.offset = o1 ∧ f1.type = t1 := by
 unfold zZa at h; split at h
 ·next fs e =>
  obtain ⟨l⟩ := fs
  match l, h with
  | [f0, f1], h => simp at h; exact ⟨f0, f1, e, h.1.1, h.1.2, h.2.1, h.2.2⟩
  | [], h => simp at h
  | [_], h => simp at h
  | _ :: _ :: _ :: _, h => simp at h
 ·cases h
theorem yW {P : Program} {t : TypeId} {o0 o1 o2 o3 : Nat} {t0 t1 t2 t3 : TypeId} (h : zZa P t = some [(o0, t0), (o1, t1), (o2, t2), (o3, t3)]) :
  ∃ f0 f1 f2 f3 : Field, P.underlying t = some (.struct #[f0, f1, f2, f3]) ∧ f0.offset = o0 ∧ f0.type = t0 ∧ f1.offset = o1 ∧ f1.type = t1 ∧ f2.offset = o2 ∧ f2.type = t2 ∧ f3.offset = o3 ∧ f3.type = t3 := by
 unfold zZa at h; split at h
 ·next fs e =>
  obtain ⟨l⟩ := fs
  match l, h with
  | [f0, f1, f2, f3], h => simp at h; obtain ⟨⟨h1, h2⟩, ⟨h3, h4⟩, ⟨h5, h6⟩, h7, h8⟩ := h; exact ⟨f0, f1, f2, f3, e, h1, h2, h3, h4, h5, h6, h7, h8⟩
  | [], h => simp at h
  | [_], h => simp at h
  | [_, _], h => simp at h
  | [_, _, _], h => simp at h
  | _ :: _ :: _ :: _ :: _ :: _, h => simp at h
 ·cases h
theorem fo26 : zZa Tryz.prog 26 = some [(0, 23), (4, 24)] := by kernel_rfl
theorem fo23 : zZa Tryz.prog 23 = some [(0, 3), (1, 3), (2, 3), (3, 3)] := by kernel_rfl
theorem fo52 : zZa Tryz.prog 52 = some [(0, 3), (1, 3)] := by kernel_rfl
theorem fo65 : zZa Tryz.prog 65 = some [(0, 9), (1, 52), (3, 52), (5, 52)] := by kernel_rfl
theorem ul24 : Tryz.prog.underlying 24 = some (.slice 65) := by kernel_rfl
theorem ul3 : Tryz.prog.underlying 3 = some (.int .i64) := by kernel_rfl
theorem ul9 : Tryz.prog.underlying 9 = some .string := by kernel_rfl
theorem co26 : Tryz.prog.cellsOf 26 = 5 := by kernel_rfl
theorem co23 : Tryz.prog.cellsOf 23 = 4 := by kernel_rfl
theorem co24 : Tryz.prog.cellsOf 24 = 1 := by kernel_rfl
theorem co3 : Tryz.prog.cellsOf 3 = 1 := by kernel_rfl
theorem co9 : Tryz.prog.cellsOf 9 = 1 := by kernel_rfl
theorem co52 : Tryz.prog.cellsOf 52 = 2 := by kernel_rfl
theorem co65 : Tryz.prog.cellsOf 65 = 7 := by kernel_rfl
section
variable {H : Type} {enc : TypeId × Value → H} {W : World} {base : Nat} {sp : Nat → Bool} {held : Bool}
theorem yR {fuel : Nat} {c0 c1 : Value} {x : DataW H × List MemPlace} (h : DataW.trod enc Tryz.prog W base sp held fuel 52 [c0, c1] = some x) : ∃ u v : Int, c0 = .int .i64 u ∧ c1 = .int .i64 v := by obtain ⟨f0, f1, e, a0, b0, a1, b1⟩ := yF fo52; obtain ⟨y0, y1, n, _, _, t0, t1⟩ := trod_struct2 e h; rw [a0, b0, co3] at t0; rw [a1, b1, co3] at t1; obtain ⟨u, h0, _⟩ := DataW.trod_int ul3 t0; obtain ⟨v, h1, _⟩ := DataW.trod_int ul3 t1; simp at h0 h1; exact ⟨u, v, h0, h1⟩
theorem open_rule {fuel : Nat} {c0 c1 c2 c3 : Value} {x : DataW H × List MemPlace} (h : DataW.trod enc Tryz.prog W base sp held fuel 23 [c0, c1, c2, c3] = some x) :
  ∃ a b c d : Int, c0 = .int .i64 a ∧ c1 = .int .i64 b ∧ c2 = .int .i64 c ∧ c3 = .int .i64 d := by
 obtain ⟨f0, f1, f2, f3, e, a0, b0, a1, b1, a2, b2, a3, b3⟩ := yW fo23; obtain ⟨y0, y1, y2, y3, n, _, _, t0, t1, t2, t3⟩ := trod_struct4 e h; rw [a0, b0, co3] at t0; rw [a1, b1, co3] at t1; rw [a2, b2, co3] at t2; rw [a3, b3, co3] at t3; obtain ⟨u0, h0, _⟩ := DataW.trod_int ul3 t0; obtain ⟨u1, h1, _⟩ := DataW.trod_int ul3 t1; obtain ⟨u2, h2, _⟩ := DataW.trod_int ul3 t2; obtain ⟨u3, h3, _⟩ := DataW.trod_int ul3 t3; simp at h0 h1 h2 h3; exact ⟨u0, u1, u2, u3, h0, h1, h2, h3⟩
theorem yea {fuel : Nat} {cs : List Value} {x : DataW H × List MemPlace} (h : DataW.trod enc Tryz.prog W base sp held fuel 65 cs = some x) :
  ∃ y : Shaft, cs = [.string y.name, .int .i64 y.s0, .int .i64 y.s1, .int .i64 y.l0, .int .i64 y.l1, .int .i64 y.w0, .int .i64 y.w1] := by
 obtain ⟨f0, f1, f2, f3, e, a0, b0, a1, b1, a2, b2, a3, b3⟩ := yW fo65; obtain ⟨y0, y1, y2, y3, n, _, hl, t0, t1, t2, t3⟩ := trod_struct4 e h; rw [co65] at hl
 match cs, hl with
 | [c0, c1, c2, c3, c4, c5, c6], _ => rw [a0, b0, co9] at t0; rw [a1, b1, co52] at t1; rw [a2, b2, co52] at t2; rw [a3, b3, co52] at t3; simp only [List.drop, List.take] at t0 t1 t2 t3; obtain ⟨s, h0, _⟩ := DataW.trod_string ul9 t0; obtain ⟨u1, v1, rfl, rfl⟩ := yR t1; obtain ⟨u2, v2, rfl, rfl⟩ := yR t2; obtain ⟨u3, v3, rfl, rfl⟩ := yR t3; simp at h0; subst h0; exact ⟨⟨s, u1, v1, u2, v2, u3, v3⟩, rfl⟩
theorem add_spot {a : Addr} {w : World} {v : Value} {k : Nat} (h : w.cell? (a.add k) = some v) (hk : k = 0) : a = ⟨a.block, a.off, none⟩ := by
 subst hk; simp only [Addr.add, if_true] at h; unfold World.cell? at h; obtain ⟨b, o, sp⟩ := a; cases sp with
 | none => rfl
 | some s =>
  dsimp only at h; split at h
  ·simp at h
  ·cases h
theorem open_shafts {fuel : Nat} {v : Value} {x : DataW H × List MemPlace} (h : DataW.trod enc Tryz.prog W base sp held fuel 24 [v] = some x) : ∃ (A : Option Addr) (n c : Nat) (sh : Nat → Shaft), v = .slice A n c ∧ n ≤ c ∧ zA W A n sh := by
 rcases Go.Deep.open_slice ul24 h with ⟨h0, _⟩ | ⟨a, len, cap, m, n, D, Pl, h0, hb, hl, hm, hmm, rfl, hx⟩
 ·simp at h0; subst h0; exact ⟨none, 0, 0, fun _ => ⟨.empty, 0, 0, 0, 0, 0, 0⟩, rfl, Nat.le_refl _, fun k hk => by omega⟩
 ·simp at h0; subst h0; have hlm : len ≤ m := by rw [hmm]; split <;> omega
  have each : ∀ i, i < len → ∃ y : Shaft, a = ⟨a.block, a.off, none⟩ ∧ zKb W a.block (a.off + i * 7) y := by
   intro i hi; obtain ⟨cs', h1, h2⟩ := hx i (by omega); rw [co65] at h1; obtain ⟨_, hlen, hcell⟩ := World.cells?_some h1; obtain ⟨y, rfl⟩ := yea h2; have hsp : a = ⟨a.block, a.off, none⟩ := by
    obtain ⟨cs0, g1, g2⟩ := hx 0 (by omega); rw [co65] at g1; obtain ⟨_, glen, gcell⟩ := World.cells?_some g1; obtain ⟨z, rfl⟩ := yea g2; have g0 := gcell 0 (by omega); simp only [Nat.zero_mul] at g0; have g3 : ((a.add 0).add 0) = a.add 0 := by simp [Addr.add]
    rw [g3] at g0; exact add_spot (k := 0) g0 rfl
   refine ⟨y, hsp, ?_⟩; have key : ∀ j, (a.add (i * 7)).add j = ⟨a.block, a.off + i * 7 + j, none⟩ := by intro j; rw [hsp]; unfold Addr.add; by_cases h1 : i * 7 = 0 <;> by_cases h2 : j = 0 <;> simp [h1, h2]
   have e0 := hcell 0 (by omega); have e1 := hcell 1 (by omega); have e2 := hcell 2 (by omega); have e3 := hcell 3 (by omega); have e4 := hcell 4 (by omega); have e5 := hcell 5 (by omega); have e6 := hcell 6 (by omega); rw [key] at e0 e1 e2 e3 e4 e5 e6; exact ⟨by simpa using e0, by simpa using e1, by simpa using e2, by simpa using e3, by simpa using e4, by simpa using e5, by simpa using e6⟩
  refine ⟨some a, len, cap, fun i => if hi : i < len then (each i hi).choose else ⟨.empty, 0, 0, 0, 0, 0, 0⟩, rfl, hl, fun k hk => ⟨a.block, a.off, ?_, ?_⟩⟩
  ·rw [← (each k hk).choose_spec.1]
  ·dsimp only; rw [dif_pos hk]; exact (each k hk).choose_spec.2
theorem open_stock {fuel : Nat} {cs : List Value} {x : DataW H × List MemPlace} (h : DataW.trod enc Tryz.prog W base sp held fuel 26 cs = some x) :
  ∃ (rs rl rw many : Int) (A : Option Addr) (n c : Nat) (sh : Nat → Shaft), cs = [.int .i64 rs, .int .i64 rl, .int .i64 rw, .int .i64 many, .slice A n c] ∧ n ≤ c ∧ zA W A n sh := by
 obtain ⟨f0, f1, e, a0, b0, a1, b1⟩ := yF fo26; obtain ⟨y0, y1, n, _, hl, t0, t1⟩ := trod_struct2 e h; rw [co26] at hl
 match cs, hl with
 | [c0, c1, c2, c3, c4], _ => rw [a0, b0, co23] at t0; rw [a1, b1, co24] at t1; simp only [List.drop, List.take] at t0 t1; obtain ⟨a, b, c, d, rfl, rfl, rfl, rfl⟩ := open_rule t0; obtain ⟨A, n', cap, sh, rfl, h1, h2⟩ := open_shafts t1; exact ⟨a, b, c, d, A, n', cap, sh, rfl, h1, h2⟩
end
end
section
open Go.RowKit Go.Cx Go.Conc Go.ChangeShapes Go.WideShapes Go.ChangeAt
theorem own : ownKnob Tryz.prog.godebug = none := by kernel_rfl
theorem laidOut : laidOutB Tryz.prog = true := by kernel_rfl
theorem ul4 : Tryz.prog.underlying 4 = some .bool := by kernel_rfl
theorem ul57 : Tryz.prog.underlying 57 = some (.int .u16) := by kernel_rfl
theorem shut_true {H : Type} {enc : TypeId × Value → H} {w : World} {base : Nat} {sp : Nat → Bool} {held : Bool} : DataW.Trod enc Tryz.prog w base sp held 4 (.bool true) (.lit (.bool true)) [] := by refine ⟨1, ?_⟩; simp only [DataW.trod, Value.cells, ul4]
end
end Go.Proofs.YtpdmgecbapmgdaaGreat
