/- A part of the proof that ArrowReal returns true for every input: no further condition. -/
import Derived.Test.YtlabfeofejemjaaGreatGp1
import Derived.Test.YtlabfeofejemjaaGreatCx8
import Derived.Test.YtlabfeofejemjaaGreatCx9
import Derived.Conc.Own4
import Derived.Deep.Slices
import Derived.Lib.SmallJoins
set_option linter.unusedSimpArgs false
set_option linter.unusedVariables false
set_option maxHeartbeats 2000000
set_option maxRecDepth 100000
section
namespace Go.Proofs.YtlabfeofejemjaaGreat
open Go.RowKit
def SaysInts (m : Nat) (l : Nat → Int) (W : World) (e : Ending) (w' : World) : Prop := ∃ (LA : Option Addr) (lc : Nat), e = .returned (.slice LA m lc) ∧ m ≤ lc ∧ IntsAt w' LA m l ∧ Below W.heap.size W w'
theorem UpTo_any (n : Nat) (W : World) (hn : n ≤ 20) : CallsIn Fc 0 Tryz.prog 22 #[.int .i64 n] W (SaysInts n (fun k => (k : Int)) W) := by
  obtain ⟨i0, hi, hz0, hz1, hz2⟩ := info_parts i3
  have HI := Lib.hid hi
  have HZ0 := Lib.hid hz0
  have HZ1 := Lib.hid hz1
  have HZ2 := Lib.hid hz2
  clear hi hz0 hz1 hz2
  gi_enter Tryz.func22, Tryz.ntmps22
  gi_wp2
  gi_loopw [3, 4] (fun sl i wr => ∃ k : Nat, k ≤ n ∧ i = .int .i64 k ∧ wr.ownsRow W.heap.size 3 1 sl (List.range k).length ((List.range k).map intV) ∧ Below W.heap.size W wr) (fun _ i _ => n - (intOf i).toNat)
  case atStart => exact ⟨0, by omega, rfl, ⟨rfl, .inl ⟨rfl, rfl⟩⟩, Below.refl _ _⟩
  case round =>
    obtain ⟨k, hk, rfl, ho, hb⟩ := hrel
    have HO := Lib.hid ho
    have HB := Lib.hid hb
    have hs := hb.size
    clear ho hb
    by_cases hlt : k < n
    · gi_wp2_with (gi_at_builtin; refine wpListIn_append_own _ rfl _ _ 36 rfl W.heap.size 3 i0 (.int .i64 0) 1 8 u30 HI.out HZ0.out HZ1.out HZ2.out rfl (by decide) _ _ _ rfl (HO.out.alloc _) ⟨wr.heap.size, 0, none⟩ 1 1 [intV k] rfl rfl (cells_new _ _ _) (by simp [Value.oneCell']) (by simp [maxLen]; omega) (by simp; omega) (by simp; omega) ?_; intro v' w4 hown4 hg4 hnil4)
      have hx4 := HO.out.alloc (.cells #[intV k] 3)
      go_roundw
      case rel =>
        refine ⟨k + 1, by omega, by go_num, ?_, (HB.out.alloc (by omega) _).grown hg4 (by simp; omega) (fun g hg => (hx4.lt g hg).1)⟩
        rw [List.range_succ]
        simpa using hown4
      case measure => simp [intOf]; omega
    · obtain rfl : k = n := by omega
      obtain ⟨LA, lc, rfl, h1, h2⟩ := ints_own HO.out
      have H2 := Lib.hid h2
      simp only [List.length_range] at h1
      clear h2
      gi_wp2
      go_ret
      refine ⟨LA, lc, by simp, h1, ?_, HB.out⟩
      have := H2.out
      simp only [List.length_range] at this
      intro j hj
      obtain ⟨b, o, e, hc⟩ := this j hj
      refine ⟨b, o, e, ?_⟩
      rw [hc]
      simp [hj]
abbrev sel (sh : Nat → Sh) (l : Nat → Nat) : Nat → Sh := fun k => sh (l k)
end Go.Proofs.YtlabfeofejemjaaGreat
end
section
namespace Go.Proofs.YtlabfeofejemjaaGreat
open Go.RowKit
theorem reachU_own {r : Rl} {x : Sh} : reachU r x x.d = wideU r x := by unfold reachU; rw [show x.d - x.d = 0 by omega]; simp
theorem reachV_own {r : Rl} {x : Sh} : reachV r x x.d = wideV r x := by unfold reachV; rw [show x.d - x.d = 0 by omega]; simp
def SaysProp (p : Prop) (W : World) (e : Ending) (w' : World) : Prop := ∃ g : Bool, e = .returned (.bool g) ∧ (g = true ↔ p) ∧ Below W.heap.size W w'
end Go.Proofs.YtlabfeofejemjaaGreat
end
section
namespace Go.Proofs.YtlabfeofejemjaaGreat
open Go.RowKit
theorem PicksAt.at {w : World} {A : Option Addr} {n : Nat} {p : Nat → Int} (h : PicksAt w A n p) (k : Nat) : 0 ≤ choiceZ n p k ∧ choiceZ n p k ≤ 65535 := choice_le h k
theorem Pick_any (u v m : Int) (W : World) (h0 : -1000000 ≤ u) (h1 : u ≤ v) (h2 : v ≤ 1000000) (hn0 : 0 ≤ m) (hn1 : m ≤ 100000000) : CallsIn Fc 0 Tryz.prog 28 #[spanV u v, .int .i64 m] W (SaysInt (pickZ u v m) W) := by
  have w1 : IntKind.wrap .i64 (v - u) = v - u := wrap_of (by omega) (by omega)
  have w2 : IntKind.wrap .i64 (v - u + 1) = v - u + 1 := wrap_of (by omega) (by omega)
  have hne : ¬ (v - u + 1 = 0) := by omega
  have hmod := pickZ_in h1 hn0
  obtain ⟨z, hz⟩ : ∃ z, pickZ u v m = z := ⟨_, rfl⟩
  rw [hz] at hmod ⊢
  unfold pickZ at hz
  have w3 : IntKind.wrap .i64 (u + m.tmod (v - u + 1)) = z := by rw [hz]; exact wrap_of (by omega) (by omega)
  clear hz hmod h0 h1 h2 hn0 hn1
  gi_enter Tryz.func28, Tryz.ntmps28
  gi_wp2
  refine wpIn_region_D (D := [(5, .pointer (some ⟨W.heap.size, 0, none⟩)), (6, .int .i64 u), (7, .int .i64 m), (8, .pointer (some ⟨W.heap.size, 1, none⟩)), (9, .int .i64 v), (10, .pointer (some ⟨W.heap.size, 0, none⟩)), (11, .int .i64 u), (12, .int .i64 (v - u)), (13, .int .i64 (v - u + 1)), (14, .int .i64 (m.tmod (v - u + 1))), (15, .int .i64 z), (4, .int .i64 z)])
    (I := fun w => Below (W.heap.size + 1) (W.alloc (.cells #[.int .i64 u, .int .i64 v] 29)) w) (z := 16) (by kernel_rfl) (by kernel_rfl) (by kernel_rfl) (by kernel_rfl) (by kernel_rfl) rfl rfl (Below.refl _ _).drew ?_ ?_
  · intro j a w hj hd hz hold hf hI
    have HI := Lib.hid hI
    have q0 : w.cell? ⟨W.heap.size, 0, none⟩ = some (.int .i64 u) := (hI.cell (by simp)).trans (by go_simp)
    have q1 : w.cell? ⟨W.heap.size, 1, none⟩ = some (.int .i64 v) := (hI.cell (by simp)).trans (by go_simp)
    clear hI
    have s1 := at_slot hz (hold 1 (by kernel_rfl)) (by omega)
    have s2 := at_slot hz (hold 2 (by kernel_rfl)) (by omega)
    clear hold
    have hjs : j = 0 ∨ j = 1 ∨ j = 2 ∨ j = 3 ∨ j = 4 ∨ j = 5 ∨ j = 6 ∨ j = 7 ∨ j = 8 ∨ j = 9 ∨ j = 10 ∨ j = 11 := by have : j < 12 := hj; omega
    rcases hjs with rfl | rfl | rfl | rfl | rfl | rfl | rfl | rfl | rfl | rfl | rfl | rfl
    · refine wpOpIn_step rfl fun K hK => ?_
      go_simp
      exact hK _ _ ⟨_, _, rfl, rfl, rfl, HI.out⟩
    · have f5 := at_slot hz (hf 0 5 _ (by kernel_rfl) rfl) (by omega)
      refine wpOpIn_step rfl fun K hK => ?_
      go_simp
      exact hK _ _ ⟨_, _, rfl, rfl, rfl, HI.out⟩
    · refine wpOpIn_step rfl fun K hK => ?_
      go_simp
      exact hK _ _ ⟨_, _, rfl, rfl, rfl, HI.out⟩
    · refine wpOpIn_step rfl fun K hK => ?_
      go_simp
      exact hK _ _ ⟨_, _, rfl, rfl, rfl, HI.out⟩
    · have f8 := at_slot hz (hf 3 8 _ (by kernel_rfl) rfl) (by omega)
      refine wpOpIn_step rfl fun K hK => ?_
      go_simp
      exact hK _ _ ⟨_, _, rfl, rfl, rfl, HI.out⟩
    · refine wpOpIn_step rfl fun K hK => ?_
      go_simp
      exact hK _ _ ⟨_, _, rfl, rfl, rfl, HI.out⟩
    · have f10 := at_slot hz (hf 5 10 _ (by kernel_rfl) rfl) (by omega)
      refine wpOpIn_step rfl fun K hK => ?_
      go_simp
      exact hK _ _ ⟨_, _, rfl, rfl, rfl, HI.out⟩
    · have f9 := at_slot hz (hf 4 9 _ (by kernel_rfl) rfl) (by omega)
      have f11 := at_slot hz (hf 6 11 _ (by kernel_rfl) rfl) (by omega)
      refine wpOpIn_step rfl fun K hK => ?_
      go_simp
      exact hK _ _ ⟨_, _, rfl, rfl, rfl, HI.out⟩
    · have f12 := at_slot hz (hf 7 12 _ (by kernel_rfl) rfl) (by omega)
      refine wpOpIn_step rfl fun K hK => ?_
      go_simp
      exact hK _ _ ⟨_, _, rfl, rfl, rfl, HI.out⟩
    · have f7 := at_slot hz (hf 2 7 _ (by kernel_rfl) rfl) (by omega)
      have f13 := at_slot hz (hf 8 13 _ (by kernel_rfl) rfl) (by omega)
      refine wpOpIn_step rfl fun K hK => ?_
      go_simp
      exact hK _ _ ⟨_, _, rfl, rfl, rfl, HI.out⟩
    · have f6 := at_slot hz (hf 1 6 _ (by kernel_rfl) rfl) (by omega)
      have f14 := at_slot hz (hf 9 14 _ (by kernel_rfl) rfl) (by omega)
      refine wpOpIn_step rfl fun K hK => ?_
      go_simp
      exact hK _ _ ⟨_, _, rfl, rfl, rfl, HI.out⟩
    · have f15 := at_slot hz (hf 10 15 _ (by kernel_rfl) rfl) (by omega)
      refine wpOpIn_step rfl fun K hK => ?_
      go_simp
      exact hK _ _ ⟨_, _, rfl, rfl, rfl, HI.out⟩
  · intro w hI
    have HB := Lib.hid (((Below.refl W.heap.size W).alloc (Nat.le_refl _) _).trans (hI.mono (by omega)))
    clear hI
    simp only [List.foldl_cons, List.foldl_nil, List.setIfInBounds_toArray, List.set_cons_succ, List.set_cons_zero]
    gi_wp2
    go_ret
    exact ⟨rfl, HB.out⟩
end Go.Proofs.YtlabfeofejemjaaGreat
end
section
namespace Go.Proofs.YtlabfeofejemjaaGreat
open Go.RowKit
def memb (b : Nat) (k : Nat) : List Nat := (List.range k).filter fun i => b.testBit i
theorem memb_next (b k : Nat) : memb b (k + 1) = memb b k ++ if b.testBit k = true then [k] else [] := by
  simp only [memb, List.range_succ, List.filter_append, List.filter_cons, List.filter_nil]
theorem memb_len (b : Nat) : ∀ k, (memb b k).length ≤ k
  | 0 => by simp [memb]
  | k + 1 => by
    have := memb_len b k
    rw [memb_next, List.length_append]
    split <;> simp <;> omega
theorem bit_all : ∀ b : Fin 256, ∀ k : Fin 8, Go.bits BinOp.and IntKind.i64 (b.val : Int) (wrap64 (2 ^ k.val)) = if b.val.testBit k.val = true then 2 ^ k.val else 0 := by decide +kernel
theorem bit_yes {b k : Nat} (hb : b < 256) (hk : k < 8) (h : b.testBit k = true) : Go.bits BinOp.and IntKind.i64 (b : Int) (wrap64 (2 ^ k)) = 2 ^ k := by
  have := bit_all ⟨b, hb⟩ ⟨k, hk⟩
  simpa [h] using this
theorem bit_no {b k : Nat} (hb : b < 256) (hk : k < 8) (h : b.testBit k = false) : Go.bits BinOp.and IntKind.i64 (b : Int) (wrap64 (2 ^ k)) = 0 := by
  have := bit_all ⟨b, hb⟩ ⟨k, hk⟩
  simpa [h] using this
theorem members_any (b : Nat) (W : World) (hb8 : b < 256) : CallsIn Fc 0 Tryz.prog 79 #[.int .i64 b] W (SaysInts (memb b 8).length (fun k => (((memb b 8).getD k 0 : Nat) : Int)) W) := by
  obtain ⟨i0, hi, hz0, hz1, hz2⟩ := info_parts i3
  have HI := Lib.hid hi
  have HZ0 := Lib.hid hz0
  have HZ1 := Lib.hid hz1
  have HZ2 := Lib.hid hz2
  clear hi hz0 hz1 hz2
  gi_enter Tryz.func79, Tryz.ntmps79
  gi_wp2
  gi_loopw [3, 5] (fun sl i wr => ∃ k : Nat, k ≤ 8 ∧ i = .int .i64 k ∧ wr.ownsRow W.heap.size 3 1 sl (memb b k).length ((memb b k).map intV) ∧ Below W.heap.size W wr) (fun _ i _ => 8 - (intOf i).toNat)
  case atStart => exact ⟨0, by omega, rfl, ⟨rfl, .inl ⟨rfl, rfl⟩⟩, Below.refl _ _⟩
  case round =>
    obtain ⟨k, hk, rfl, ho, hb⟩ := hrel
    have HO := Lib.hid ho
    have HB := Lib.hid hb
    have hs := hb.size
    clear ho hb
    by_cases hlt : k < 8
    · cases ht : b.testBit k with
      | true =>
        have hz := bit_yes hb8 hlt ht
        have hne : ¬ (2 : Int) ^ k = 0 := by have : (0 : Int) < 2 ^ k := Int.pow_pos (by omega); omega
        have hln := memb_len b k
        gi_wp2_with (gi_at_builtin; go_loud (refine wpListIn_append_own _ rfl _ _ 36 rfl W.heap.size 3 i0 (.int .i64 0) 1 8 u30 HI.out HZ0.out HZ1.out HZ2.out rfl (by decide) _ _ _ rfl (HO.out.alloc _) ⟨wr.heap.size, 0, none⟩ 1 1 [intV k] rfl rfl (cells_new _ _ _) (by simp [Value.oneCell']) (by simp [maxLen]; omega) (by omega) (by simp; omega) ?_); intro v' w4 hown4 hg4 hnil4)
        have hx4 := HO.out.alloc (.cells #[intV k] 3)
        go_roundw
        case rel =>
          refine ⟨k + 1, by omega, by go_num, ?_, (HB.out.alloc (by omega) _).grown hg4 (by simp; omega) (fun g hg => (hx4.lt g hg).1)⟩
          rw [memb_next, if_pos ht]
          simpa using hown4
        case measure => simp [intOf]; omega
      | false =>
        have hz := bit_no hb8 hlt ht
        gi_wp2
        go_roundw
        case rel =>
          refine ⟨k + 1, by omega, by go_num, ?_, HB.out⟩
          rw [memb_next, if_neg (by rw [ht]; simp), List.append_nil]
          exact HO.out
        case measure => simp [intOf]; omega
    · obtain rfl : k = 8 := by omega
      obtain ⟨LA, lc, rfl, h1, h2⟩ := ints_own HO.out
      have H2 := Lib.hid h2
      clear h2
      gi_wp2
      go_ret
      exact ⟨LA, lc, rfl, h1, H2.out, HB.out⟩
def cmpZ (a b : Int) : Int := if a < b then -1 else if b < a then 1 else 0
theorem isNaN_any (a : Int) (W : World) : CallsIn Fc 0 Tryz.prog 113 #[.int .i64 a] W fun e w' => e = .returned (.bool false) ∧ W = w' := by
  gi_enter Tryz.func113, Tryz.ntmps113
  gi_wp2
  go_ret
  exact ⟨rfl, rfl⟩
theorem Compare_any (a b : Int) (W : World) : CallsIn Fc 0 Tryz.prog 81 #[.int .i64 a, .int .i64 b] W fun e w' => e = .returned (.int .i64 (cmpZ a b)) ∧ W = w' := by
  by_cases h1 : a < b
  · gi_enter Tryz.func81, Tryz.ntmps81
    gi_wp2_with (gi_at_call 113; refine (isNaN_any _ _).mono ?_; rintro e w' ⟨rfl, rfl⟩)
    go_ret
    exact ⟨by rw [cmpZ, if_pos h1]; rfl, rfl⟩
  · have h3 : ¬ a < b := h1
    by_cases h2 : b < a
    · gi_enter Tryz.func81, Tryz.ntmps81
      gi_wp2_with (gi_at_call 113; refine (isNaN_any _ _).mono ?_; rintro e w' ⟨rfl, rfl⟩)
      go_ret
      exact ⟨by rw [cmpZ, if_neg (by omega), if_pos (by omega)]; rfl, rfl⟩
    · gi_enter Tryz.func81, Tryz.ntmps81
      gi_wp2_with (gi_at_call 113; refine (isNaN_any _ _).mono ?_; rintro e w' ⟨rfl, rfl⟩)
      go_ret
      exact ⟨by rw [cmpZ, if_neg (by omega), if_neg (by omega)]; rfl, rfl⟩
end Go.Proofs.YtlabfeofejemjaaGreat
end
section
namespace Go.Proofs.YtlabfeofejemjaaGreat
open Go.RowKit
def LexLt (a b : Nat → Nat) (m : Nat) : Prop := ∃ i, i < m ∧ (∀ j, j < i → a j = b j) ∧ a i < b i
def SaysLess (p : Prop) (W : World) (e : Ending) (w' : World) : Prop := ∃ z : Int, e = .returned (.int .i64 z) ∧ (z < 0 ↔ p) ∧ W = w'
theorem CompareFunc_any (LA LB : Option Addr) (m lc kc : Nat) (a b : Nat → Nat) (W : World) (hm : m ≤ 8) (hc : m ≤ lc) (hk : m ≤ kc) (ha : Hid (IntsAt W LA m fun k => (a k : Int))) (hb : Hid (IntsAt W LB m fun k => (b k : Int))) :
    CallsIn Fc 0 Tryz.prog 112 #[.slice LA m lc, .slice LB m kc, .func (.func 81) #[] #[]] W (SaysLess (LexLt a b m) W) := by
  gi_enter Tryz.func112, Tryz.ntmps112
  gi_wp2
  gi_loopw [13] (fun x wr => ∃ k : Nat, k ≤ m ∧ x = .int .i64 k ∧ wr = W ∧ ∀ j, j < k → a j = b j) (fun x _ => m - (intOf x).toNat)
  case atStart => exact ⟨0, by omega, rfl, rfl, fun j hj => by omega⟩
  case round =>
    obtain ⟨k, hk, rfl, rfl, heq⟩ := hrel
    have HEQ := Lib.hid heq
    clear heq
    by_cases hlt : k < m
    · obtain ⟨b1, o1, rfl, q1⟩ := ha.out k hlt
      obtain ⟨b2, o2, rfl, q2⟩ := hb.out k hlt
      have hnlt : ¬ (k : Int) ≥ m := by omega
      by_cases h1 : a k < b k
      · have hz : cmpZ (a k) (b k) = -1 := by unfold cmpZ; rw [if_pos (by omega)]
        have hp : LexLt a b m := ⟨k, hlt, HEQ.out, h1⟩
        gi_wp2_with (gi_at_call 81; refine (Compare_any _ _ _).mono ?_; rintro e w' ⟨rfl, rfl⟩)
        go_ret
        exact ⟨-1, by first | rfl | simp [hz], ⟨fun _ => hp, fun _ => by omega⟩, rfl⟩
      · by_cases h2 : b k < a k
        · have hz : cmpZ (a k) (b k) = 1 := by unfold cmpZ; rw [if_neg (by omega), if_pos (by omega)]
          have hp : ¬ LexLt a b m := by
            rintro ⟨i, hi, he, hlt'⟩
            rcases Nat.lt_trichotomy i k with h | h | h
            · have := HEQ.out i h; omega
            · subst h; omega
            · have := he k h; omega
          gi_wp2_with (gi_at_call 81; refine (Compare_any _ _ _).mono ?_; rintro e w' ⟨rfl, rfl⟩)
          go_ret
          exact ⟨1, by first | rfl | simp [hz], ⟨fun h => (by omega), fun h => absurd h hp⟩, rfl⟩
        · have hz : cmpZ (a k) (b k) = 0 := by unfold cmpZ; rw [if_neg (by omega), if_neg (by omega)]
          have he := Lib.hid (show a k = b k by omega)
          gi_wp2_with (gi_at_call 81; refine (Compare_any _ _ _).mono ?_; rintro e w' ⟨rfl, rfl⟩)
          go_roundw
          case rel => exact ⟨k + 1, by omega, by go_num, trivial, fun j hj => by
            by_cases e : j = k
            · subst e; exact he.out
            · exact HEQ.out j (by omega)⟩
          case measure => simp [intOf]; omega
    · obtain rfl : k = m := by omega
      have hp : ¬ LexLt a b k := by
        rintro ⟨i, hi, he, hlt'⟩
        have := HEQ.out i hi
        omega
      gi_wp2
      go_ret
      exact ⟨0, rfl, ⟨fun h => (by omega), fun h => absurd h hp⟩, rfl⟩
def Better (a : Nat → Nat) (m : Nat) (b : Nat → Nat) (k : Nat) : Prop := k < m ∨ (m = k ∧ LexLt a b m)
theorem better_any (LA LB : Option Addr) (m lc k kc : Nat) (a b : Nat → Nat) (W : World) (hm : m ≤ 8) (hm' : k ≤ 8) (hc : m ≤ lc) (hk : k ≤ kc) (ha : Hid (IntsAt W LA m fun k => (a k : Int))) (hb : Hid (IntsAt W LB k fun k => (b k : Int))) :
    CallsIn Fc 0 Tryz.prog 80 #[.slice LA m lc, .slice LB k kc, .func (.func 81) #[] #[]] W fun e w' => ∃ g : Bool, e = .returned (.bool g) ∧ (g = true ↔ Better a m b k) ∧ W = w' := by
  by_cases h : m = k
  · subst h
    have hne : ¬ (m : Int) ≠ m := by omega
    gi_enter Tryz.func80, Tryz.ntmps80
    gi_wp2_with (gi_at_call 112; refine (CompareFunc_any LA LB m lc kc a b _ hm hc hk ha hb).mono ?_; rintro e w' ⟨z, rfl, hz, rfl⟩)
    go_ret
    refine ⟨decide (z < 0), by simp, ?_, rfl⟩
    simp only [decide_eq_true_eq, Better]
    rw [hz]
    exact ⟨fun h => .inr ⟨trivial, h⟩, fun h => by rcases h with h | h; omega; exact h.2⟩
  · gi_enter Tryz.func80, Tryz.ntmps80
    gi_wp2
    go_ret
    refine ⟨decide (k < m), by simp, ?_, rfl⟩
    simp only [decide_eq_true_eq, Better]
    exact ⟨fun h => .inl h, fun h' => by rcases h' with h' | h'; exact h'; exact absurd h'.1 h⟩
end Go.Proofs.YtlabfeofejemjaaGreat
end
section
namespace Go.Proofs.YtlabfeofejemjaaGreat
open Go.RowKit
section
variable {F : Fence} {nF : Nat} {P : Program} {b : Frame} {a : Act} {k : List Item} {cs : List Frame} {w : World} {Q : Exit → Act → World → Prop}
theorem stepR_scope {c : Code} : step P (lone (b.atR a (.code (.scope c) :: k)) cs w) = .next (lone (b.atR a (.code c :: .inScope c :: k)) cs w) :=
  step_lone_go (by simp [stepG, stepG.exec, Frame.atR])
theorem stepR_inScope {c : Code} : step P (lone (b.atR a (.inScope c :: k)) cs w) = .next (lone (b.atR a k) cs w) :=
  step_lone_go (by simp [stepG, stepG.exec, Frame.atR])
theorem wpIn_scope {c : Code} (h : c.wpIn F nF P (Exit.noGoto Q) a w) : (Code.scope c).wpIn F nF P Q a w := by
  intro b k cs hro hb hr
  have h0 : (lone (b.atR a (.code (.scope c) :: k)) cs w).fenced P F := fenced_calm hb hr rfl
  obtain ⟨e, a₁, w₁, hq, harr⟩ := h b (.inScope c :: k) cs hro hb hr
  cases e with
  | normal => exact ⟨.normal, a₁, w₁, hq, .head h0 stepR_scope (StepsIn.trans harr (.one (fenced_calm hb hr rfl) stepR_inScope))⟩
  | exit id =>
    have hx : exitTo id (.inScope c :: k) = exitTo id k := by simp [exitTo]
    exact ⟨_, a₁, w₁, hq, fun k' hk => .head h0 stepR_scope (harr.1 k' (by rw [hx]; exact hk)),
      fun hr' hk => let ⟨k₁, h1, h2⟩ := harr.2 hr' (by rw [hx]; exact hk); ⟨k₁, h1, .head h0 stepR_scope h2⟩⟩
  | goto l => exact hq.elim
  | ret => exact ⟨_, a₁, w₁, hq, .of_steps (.one h0 stepR_scope) harr⟩
  | panic ch => exact ⟨_, a₁, w₁, hq, .of_steps (.one h0 stepR_scope) harr⟩
  | outgrown => exact ⟨_, a₁, w₁, hq, .of_steps (.one h0 stepR_scope) harr⟩
end
theorem five90 {w : World} {p : Nat} {t : TypeId} {a0 a1 a2 a3 a4 : Value} (h : w.heap[p]? = some (.cells #[a0, a1, a2, a3, a4] t (0, 0))) : w.cell? ⟨p, 0, none⟩ = some a0 ∧ w.cell? ⟨p, 1, none⟩ = some a1 ∧ w.cell? ⟨p, 2, none⟩ = some a2 ∧ w.cell? ⟨p, 3, none⟩ = some a3 ∧ w.cell? ⟨p, 4, none⟩ = some a4 := by
  refine ⟨?_, ?_, ?_, ?_, ?_⟩ <;> simp [World.cell?, h]
open Classical in
noncomputable def bst (r : Rl) (sh : Nat → Sh) : Nat → List Nat
  | 0 => []
  | b + 1 => if AllAgree r (sel sh fun k => (memb b 8).getD k 0) (memb b 8).length ∧ Better (fun k => (memb b 8).getD k 0) (memb b 8).length (fun k => (bst r sh b).getD k 0) (bst r sh b).length then memb b 8 else bst r sh b
theorem bst_len (r : Rl) (sh : Nat → Sh) : ∀ b, (bst r sh b).length ≤ 8
  | 0 => by simp [bst]
  | b + 1 => by
    rw [bst]
    split
    · exact memb_len b 8
    · exact bst_len r sh b
def mN (b : Nat) : Nat := (memb b 8).length
def mF (b k : Nat) : Nat := (memb b 8).getD k 0
noncomputable def bN (r : Rl) (sh : Nat → Sh) (b : Nat) : Nat := (bst r sh b).length
noncomputable def bF (r : Rl) (sh : Nat → Sh) (b k : Nat) : Nat := (bst r sh b).getD k 0
theorem bst_next {r : Rl} {sh : Nat → Sh} {b : Nat} (h1 : AllAgree r (sel sh (mF b)) (mN b)) (h2 : Better (mF b) (mN b) (bF r sh b) (bN r sh b)) : bN r sh (b + 1) = mN b ∧ bF r sh (b + 1) = mF b := by
  have : bst r sh (b + 1) = memb b 8 := by rw [bst]; exact if_pos ⟨h1, h2⟩
  exact ⟨by rw [bN, this, mN], by funext k; rw [bF, this, mF]⟩
theorem bst_stay {r : Rl} {sh : Nat → Sh} {b : Nat} (h : ¬ (AllAgree r (sel sh (mF b)) (mN b) ∧ Better (mF b) (mN b) (bF r sh b) (bN r sh b))) : bN r sh (b + 1) = bN r sh b ∧ bF r sh (b + 1) = bF r sh b := by
  have : bst r sh (b + 1) = bst r sh b := by rw [bst]; exact if_neg h
  exact ⟨by rw [bN, this, bN], by funext k; rw [bF, this, bF]⟩
theorem pow_le {n : Nat} (h : n ≤ 8) : 2 ^ n ≤ 256 := Nat.pow_le_pow_right (by omega) h
theorem shl_one : ∀ n : Fin 9, wrap64 (2 ^ n.val) = ((2 ^ n.val : Nat) : Int) := by decide +kernel
theorem memb_lt {b n : Nat} (hb : b < 2 ^ n) (hn : n ≤ 8) {k : Nat} (hk : k < mN b) : mF b k < n := by
  unfold mF
  unfold mN at hk
  have h1 : (memb b 8).getD k 0 ∈ memb b 8 := by simp [hk]
  have h2 : b.testBit ((memb b 8).getD k 0) = true := (List.mem_filter.1 h1).2
  generalize (memb b 8).getD k 0 = i at *
  rcases Nat.lt_or_ge i n with h | h
  · exact h
  · rw [Nat.testBit_lt_two_pow (Nat.lt_of_lt_of_le hb (Nat.pow_le_pow_right (by omega) h))] at h2
    cases h2
theorem trust_any (r : Rl) (A : Option Addr) (n c : Nat) (sh : Nat → Sh) (W : World) (hn : n ≤ 8) (hc : n ≤ c) (hr : Hid (RlOk r)) (hx : Hid (∀ k, k < n → ShOk (sh k))) (hsh : Hid (ShotsAt W A n sh)) :
    CallsIn Fc 0 Tryz.prog 55 #[cardV r A n c] W (SaysInts (bN r sh (2 ^ n)) (fun k => (bF r sh (2 ^ n) k : Int)) W) := by
  have hag := fun (i1 i2 : Nat) (w : World) (h1 : i1 < n) (h2 : i2 < n) (hb : Below W.heap.size W w) => agree_any r A n c i1 i2 sh w h1 h2 hn hr hx (Lib.hid (hsh.out.below hb))
  have HAG := Lib.hid hag
  clear hag
  have hpow := pow_le hn
  have hshl := shl_one ⟨n, by omega⟩
  simp only at hshl
  generalize hP : (2 : Nat) ^ n = P at *
  have HP := Lib.hid hP
  clear hP
  gi_enter Tryz.func55, Tryz.ntmps55
  gi_wp2
  refine wpIn_scope ?_
  gi_wp2
  refine wpIn_label ?_
  gi_wp2
  obtain ⟨W1, hW1⟩ : ∃ W1, W1 = W.alloc (.cells #[.int .i64 r.ls, .int .i64 r.ms, .int .i64 r.wd, .int .i64 r.lt, .slice A n c] 90) := ⟨_, rfl⟩
  have hb1 : Below W.heap.size W W1 := by rw [hW1]; exact (Below.refl _ _).alloc (Nat.le_refl _) _
  have hbx : W1.heap[W.heap.size]? = some (.cells #[.int .i64 r.ls, .int .i64 r.ms, .int .i64 r.wd, .int .i64 r.lt, .slice A n c] 90 (0, 0)) := by rw [hW1]; exact heap_new _ _
  rw [← hW1]
  clear hW1
  obtain ⟨e0, e1, e2, e3, e4⟩ := five90 hbx
  have HB1 := Lib.hid hb1
  clear hb1 hbx
  rw [hshl]
  gi_loopw [3, 15] (fun sl x wr => ∃ (b : Nat) (LA : Option Addr) (lc : Nat), b ≤ P ∧ x = .int .i64 b ∧ sl = .slice LA (bN r sh b) lc ∧ bN r sh b ≤ lc ∧ IntsAt wr LA (bN r sh b) (fun k => (bF r sh b k : Int)) ∧ Below W1.heap.size W1 wr) (fun _ x _ => P - (intOf x).toNat)
  case atStart => exact ⟨0, none, 0, by omega, rfl, rfl, Nat.le_refl _, fun k hk => absurd hk (by simp [bN, bst]), Below.refl _ _⟩
  case round =>
    obtain ⟨b, LB, lb, hb, rfl, rfl, hlb, hib, hbw⟩ := hrel
    have HIB := Lib.hid hib
    have HBW := Lib.hid hbw
    clear hib hbw
    have hl8 : bN r sh b ≤ 8 := bst_len r sh b
    by_cases hlt : b < P
    · have hm : ∀ w, CallsIn Fc 0 Tryz.prog 79 #[.int .i64 b] w (SaysInts (mN b) (fun k => (mF b k : Int)) w) := fun w => members_any b w (by omega)
      have hml : mN b ≤ 8 := memb_len b 8
      have hmn := fun k (hk : k < mN b) => memb_lt (b := b) (n := n) (by rw [HP.out]; exact hlt) hn hk
      have hstay := Lib.hid (bst_stay (r := r) (sh := sh) (b := b))
      have hnext := Lib.hid (bst_next (r := r) (sh := sh) (b := b))
      have HMN := Lib.hid hmn
      have HM := Lib.hid hm
      clear hmn hm
      gi_wp2_with (gi_at_call 79; refine (HM.out _).mono ?_; rintro e w2 ⟨LA, lc, rfl, hlc, hil, hb2⟩; have HIL := Lib.hid hil; have HB2 := Lib.hid (HBW.out.trans (hb2.mono HBW.out.size)); have HIB2 := Lib.hid (HIB.out.below hb2); clear hil hb2)
      gi_loopw [22] (fun x wr => ∃ i : Nat, i ≤ mN b ∧ x = .int .i64 i ∧ Below w2.heap.size w2 wr ∧ ∀ p q, p < q → q < i → agreeB r (sh (mF b p)) (sh (mF b q)) = true) (fun x _ => mN b - (intOf x).toNat)
      case atStart => exact ⟨0, by omega, rfl, Below.refl _ _, fun p q h1 h2 => by omega⟩
      case round =>
        obtain ⟨i, hi, rfl, hb3, hag3⟩ := hrel
        have HB3 := Lib.hid hb3
        have HAG3 := Lib.hid hag3
        clear hb3 hag3
        by_cases hlt2 : i < mN b
        · obtain ⟨bl, ol, rfl, hq⟩ := HIL.out i hlt2
          have hq := Below.old HB3.out hq
          gi_wp2
          gi_loopw [31] (fun x wr' => ∃ j : Nat, j ≤ i ∧ x = .int .i64 j ∧ Below wr.heap.size wr wr' ∧ ∀ p, p < j → agreeB r (sh (mF b p)) (sh (mF b i)) = true) (fun x _ => i - (intOf x).toNat)
          case atStart => exact ⟨0, by omega, rfl, Below.refl _ _, fun p h1 => by omega⟩
          case round =>
            obtain ⟨j, hj, rfl, hb4, hag4⟩ := hrel
            have HAG4 := Lib.hid hag4
            clear hag4
            have HB34 := Lib.hid (HB3.out.trans (hb4.mono HB3.out.size))
            have HB4 := Lib.hid hb4
            clear hb4
            by_cases hlt3 : j < i
            · have hjm : j < mN b := by omega
              obtain ⟨bl', ol', e', hq2⟩ := HIL.out j hjm
              cases e'
              have hq2 := Below.old HB34.out hq2
              have hbw1 := HB2.out.trans (HB34.out.mono HB2.out.size)
              have c0 := Below.old hbw1 e0
              have c1 := Below.old hbw1 e1
              have c2 := Below.old hbw1 e2
              have c3 := Below.old hbw1 e3
              have c4 := Below.old hbw1 e4
              have hcall := HAG.out (mF b j) (mF b i) _ (HMN.out j hjm) (HMN.out i hlt2) (HB1.out.trans (hbw1.mono HB1.out.size))
              have HCALL := Lib.hid hcall
              clear hcall hbw1
              cases hg : agreeB r (sh (mF b j)) (sh (mF b i)) with
              | true =>
                rw [hg] at HCALL
                gi_wp2_with (gi_at_call 78; refine HCALL.out.mono ?_; rintro e w5 ⟨rfl, hb5⟩; have HB5 := Lib.hid (HB4.out.trans (hb5.mono HB4.out.size)); clear hb5)
                go_roundw
                case rel =>
                  refine ⟨j + 1, by omega, by go_num, HB5.out, fun p hp => ?_⟩
                  by_cases e : p = j
                  · subst e; exact hg
                  · exact HAG4.out p (by omega)
                case measure => simp [intOf]; omega
              | false =>
                rw [hg] at HCALL
                gi_wp2_with (gi_at_call 78; refine HCALL.out.mono ?_; rintro e w5 ⟨rfl, hb5⟩; have HB5 := Lib.hid (HB34.out.trans (hb5.mono HB34.out.size)); clear hb5)
                obtain ⟨g1, g2⟩ := hstay.out fun h => by
                  have := h.1 j i hlt3 hlt2
                  simp only [sel] at this
                  rw [hg] at this
                  cases this
                go_roundw
                case rel => exact ⟨b + 1, LB, lb, by omega, by go_num, by rw [g1], by rw [g1]; exact hlb, by rw [g1, g2]; exact HIB2.out.below HB5.out, HB2.out.trans (HB5.out.mono HB2.out.size)⟩
                case measure => simp [intOf]; omega
            · obtain rfl : j = i := by omega
              gi_wp2
              go_roundw
              case rel =>
                refine ⟨j + 1, by omega, by go_num, HB34.out, fun p q h1 h2 => ?_⟩
                by_cases e : q = j
                · subst e; exact HAG4.out p h1
                · exact HAG3.out p q h1 (by omega)
              case measure => simp [intOf]; omega
        · obtain rfl : i = mN b := by omega
          have hal : AllAgree r (sel sh (mF b)) (mN b) := HAG3.out
          have hcall := better_any LA LB (mN b) lc (bN r sh b) lb (mF b) (bF r sh b) wr hml hl8 hlc hlb (Lib.hid (HIL.out.below HB3.out)) (Lib.hid (HIB2.out.below HB3.out))
          have HCALL := Lib.hid hcall
          have HAL := Lib.hid hal
          clear hcall hal
          by_cases hbt : Better (mF b) (mN b) (bF r sh b) (bN r sh b)
          · have G := Lib.hid (hnext.out HAL.out hbt)
            have HBT := Lib.hid hbt
            clear hbt
            gi_wp2_with (gi_at_call 80; refine HCALL.out.mono ?_; rintro e w5 ⟨g, rfl, hg, rfl⟩; obtain rfl : g = true := hg.2 HBT.out; clear hg)
            obtain ⟨g1, g2⟩ := G.out
            go_roundw
            case rel => exact ⟨b + 1, LA, lc, by omega, by go_num, by rw [g1], by rw [g1]; exact hlc, by rw [g1, g2]; exact HIL.out.below HB3.out, HB2.out.trans (HB3.out.mono HB2.out.size)⟩
            case measure => simp [intOf]; omega
          · obtain ⟨g1, g2⟩ := hstay.out fun h => hbt h.2
            gi_wp2_with (gi_at_call 80; refine HCALL.out.mono ?_; rintro e w5 ⟨g, rfl, hg, rfl⟩; obtain rfl : g = false := by (cases g; rfl; exact absurd (hg.1 rfl) hbt))
            go_roundw
            case rel => exact ⟨b + 1, LB, lb, by omega, by go_num, by rw [g1], by rw [g1]; exact hlb, by rw [g1, g2]; exact HIB2.out.below HB3.out, HB2.out.trans (HB3.out.mono HB2.out.size)⟩
            case measure => simp [intOf]; omega
    · obtain rfl : b = P := by omega
      gi_wp2
      try rw [Exit.noGoto_ret]
      go_ret
      exact ⟨LB, lb, rfl, hlb, HIB.out, HB1.out.trans (HBW.out.mono HB1.out.size)⟩
end Go.Proofs.YtlabfeofejemjaaGreat
end
section
namespace Go.Proofs.YtlabfeofejemjaaGreat
open Go.RowKit
theorem box_two {W w : World} {X : Obj} {r : Rl} {A : Option Addr} {n c : Nat} {t : TypeId} (h : Below ((W.alloc X).alloc (.cells #[.int .i64 r.ls, .int .i64 r.ms, .int .i64 r.wd, .int .i64 r.lt, .slice A n c] t)).heap.size ((W.alloc X).alloc (.cells #[.int .i64 r.ls, .int .i64 r.ms, .int .i64 r.wd, .int .i64 r.lt, .slice A n c] t)) w) :
    w.cell? ⟨W.heap.size + 1, 0, none⟩ = some (.int .i64 r.ls) ∧ w.cell? ⟨W.heap.size + 1, 1, none⟩ = some (.int .i64 r.ms) ∧ w.cell? ⟨W.heap.size + 1, 2, none⟩ = some (.int .i64 r.wd) ∧ w.cell? ⟨W.heap.size + 1, 3, none⟩ = some (.int .i64 r.lt) ∧ w.cell? ⟨W.heap.size + 1, 4, none⟩ = some (.slice A n c) := by
  have h1 : ((W.alloc X).alloc (.cells #[.int .i64 r.ls, .int .i64 r.ms, .int .i64 r.wd, .int .i64 r.lt, .slice A n c] t)).heap[W.heap.size + 1]? = some (.cells #[.int .i64 r.ls, .int .i64 r.ms, .int .i64 r.wd, .int .i64 r.lt, .slice A n c] t (0, 0)) := heap_new' (by simp)
  have h2 := (h.block (W.heap.size + 1) (by simp)).trans h1
  exact five90 h2
theorem below_two (W : World) (X Y : Obj) : Below W.heap.size W ((W.alloc X).alloc Y) := ((Below.refl _ _).alloc (Nat.le_refl _) _).alloc (by simp) _
def SaysFits (p : Prop) (z : Int) (W : World) (e : Ending) (w' : World) : Prop := ∃ g : Bool, e = .returned (.tuple #[.bool g, .int .i64 z]) ∧ (z = 0 → (g = true ↔ p)) ∧ (z ≠ 0 → g = false) ∧ Below W.heap.size W w'
def SaysList (z : Int) (q : Nat → (Nat → Nat) → Prop) (W : World) (e : Ending) (w' : World) : Prop := ∃ (LA : Option Addr) (m lc : Nat) (l : Nat → Nat), e = .returned (.tuple #[.slice LA m lc, .int .i64 z]) ∧ m ≤ lc ∧ IntsAt w' LA m (fun k => (l k : Int)) ∧ (z = 0 → q m l) ∧ (z ≠ 0 → m = 0) ∧ Below W.heap.size W w'
def ClashIs (r : Rl) (sh : Nat → Sh) (n m : Nat) (l : Nat → Nat) : Prop := (AllAgree r sh n ∧ m = 0) ∨ (FirstClash r sh n (l 0) (l 1) ∧ m = 2)
def TrustIs (r : Rl) (sh : Nat → Sh) (n m : Nat) (l : Nat → Nat) : Prop := m = bN r sh (2 ^ n) ∧ l = bF r sh (2 ^ n)
theorem clash_none {r : Rl} {sh : Nat → Sh} {n : Nat} {e : Ending} {w' : World} {z : Nat} (hal : AllAgree r sh n) (h : (AllAgree r sh n ∧ e = .returned (.slice none 0 0)) ∨
    ∃ i j g, FirstClash r sh n i j ∧ e = .returned (.slice (some ⟨g, 0, none⟩) 2 2) ∧ z ≤ g ∧ w'.cell? ⟨g, 0, none⟩ = some (.int .i64 (i : Nat)) ∧ w'.cell? ⟨g, 1, none⟩ = some (.int .i64 (j : Nat))) : e = .returned (.slice none 0 0) := by
  rcases h with h | ⟨i, j, g, hf, _⟩
  · exact h.2
  · exact absurd (hal i j hf.lt hf.lt') (by rw [hf.no]; simp)
theorem clash_some {r : Rl} {sh : Nat → Sh} {n : Nat} {e : Ending} {w' : World} {z : Nat} (hal : ¬ AllAgree r sh n) (h : (AllAgree r sh n ∧ e = .returned (.slice none 0 0)) ∨
    ∃ i j g, FirstClash r sh n i j ∧ e = .returned (.slice (some ⟨g, 0, none⟩) 2 2) ∧ z ≤ g ∧ w'.cell? ⟨g, 0, none⟩ = some (.int .i64 (i : Nat)) ∧ w'.cell? ⟨g, 1, none⟩ = some (.int .i64 (j : Nat))) :
    ∃ i j g, FirstClash r sh n i j ∧ e = .returned (.slice (some ⟨g, 0, none⟩) 2 2) ∧ z ≤ g ∧ w'.cell? ⟨g, 0, none⟩ = some (.int .i64 (i : Nat)) ∧ w'.cell? ⟨g, 1, none⟩ = some (.int .i64 (j : Nat)) := by
  rcases h with h | h
  · exact absurd h.1 hal
  · exact h
theorem clash_list {r : Rl} {sh : Nat → Sh} {n : Nat} {e : Ending} {w' : World} {z : Nat} (h : (AllAgree r sh n ∧ e = .returned (.slice none 0 0)) ∨
    ∃ i j g, FirstClash r sh n i j ∧ e = .returned (.slice (some ⟨g, 0, none⟩) 2 2) ∧ z ≤ g ∧ w'.cell? ⟨g, 0, none⟩ = some (.int .i64 (i : Nat)) ∧ w'.cell? ⟨g, 1, none⟩ = some (.int .i64 (j : Nat))) :
    ∃ (LA : Option Addr) (m lc : Nat) (l : Nat → Nat), e = .returned (.slice LA m lc) ∧ m ≤ lc ∧ IntsAt w' LA m (fun k => (l k : Int)) ∧ ClashIs r sh n m l := by
  rcases h with ⟨h1, h2⟩ | ⟨i, j, g, hf, h1, _, h2, h3⟩
  · exact ⟨none, 0, 0, fun _ => 0, h2, Nat.le_refl _, fun k hk => by omega, .inl ⟨h1, rfl⟩⟩
  · refine ⟨_, 2, 2, fun k => if k = 0 then i else j, h1, Nat.le_refl _, fun k hk => ⟨g, 0, rfl, ?_⟩, .inr ⟨by simpa using hf, rfl⟩⟩
    have : k = 0 ∨ k = 1 := by omega
    rcases this with rfl | rfl
    · simpa using h2
    · simpa using h3
section
variable (r : Rl) (A : Option Addr) (n c : Nat) (sh : Nat → Sh) (W : World) (hn : n ≤ 20) (hc : n ≤ c) (hsh : Hid (ShotsAt W A n sh))
include hn hc hsh
theorem Fits_any : CallsIn Fc 0 Tryz.prog 13 #[cardV r A n c] W (SaysFits (AllAgree r sh n) (cardZ r sh n) W) := by
  have hck := fun w (hb : Below W.heap.size W w) => check_any r A n c sh w hn hc (Lib.hid (hsh.out.below hb))
  have hz := cardZ_ok (r := r) (sh := sh) (n := n)
  generalize cardZ r sh n = z at *
  have HCK := Lib.hid hck
  have HZ := Lib.hid hz
  clear hck hz
  by_cases h0 : z = 0
  · have hok := Lib.hid (HZ.out.1 h0)
    have hn8 := hok.out.count
    subst h0
    have hcl := fun w (hb : Below W.heap.size W w) => clash_any r A n c sh w hn8 hc (Lib.hid hok.out.rule) (Lib.hid hok.out.each) (Lib.hid (hsh.out.below hb))
    have HCL := Lib.hid hcl
    clear hcl
    by_cases hal : AllAgree r sh n
    · have HAL := Lib.hid hal
      clear hal
      gi_enter Tryz.func13, Tryz.ntmps13
      gi_wp2_with (first
        | (gi_at_call 46; refine (HCK.out _ (below_two _ _ _)).mono ?_; rintro e w2 ⟨rfl, hb2⟩; obtain ⟨c0, c1, c2, c3, c4⟩ := box_two hb2; have HB2 := Lib.hid ((below_two _ _ _).trans (hb2.mono (below_two _ _ _).size)); clear hb2)
        | (gi_at_call 53; refine (HCL.out _ HB2.out).mono ?_; rintro e w3 ⟨hb3, h⟩; obtain rfl := clash_none HAL.out h; have HB3 := Lib.hid (HB2.out.trans (hb3.mono HB2.out.size)); clear hb3 h))
      go_ret2
      exact ⟨true, by simp, fun _ => ⟨fun _ => HAL.out, fun _ => rfl⟩, fun h => absurd rfl h, HB3.out⟩
    · have HAL : Hid (¬ AllAgree r sh n) := Lib.hid hal
      clear hal
      gi_enter Tryz.func13, Tryz.ntmps13
      gi_wp2_with (first
        | (gi_at_call 46; refine (HCK.out _ (below_two _ _ _)).mono ?_; rintro e w2 ⟨rfl, hb2⟩; obtain ⟨c0, c1, c2, c3, c4⟩ := box_two hb2; have HB2 := Lib.hid ((below_two _ _ _).trans (hb2.mono (below_two _ _ _).size)); clear hb2)
        | (gi_at_call 53; refine (HCL.out _ HB2.out).mono ?_; rintro e w3 ⟨hb3, h⟩; obtain ⟨i, j, g, hf, rfl, _⟩ := clash_some HAL.out h; have HB3 := Lib.hid (HB2.out.trans (hb3.mono HB2.out.size)); clear hb3 h))
      go_ret2
      exact ⟨false, by simp, fun _ => ⟨fun h => (by cases h), fun h => absurd h HAL.out⟩, fun _ => rfl, HB3.out⟩
  · gi_enter Tryz.func13, Tryz.ntmps13
    gi_wp2_with (gi_at_call 46; refine (HCK.out _ (below_two _ _ _)).mono ?_; rintro e w2 ⟨rfl, hb2⟩; have HB2 := Lib.hid ((below_two _ _ _).trans (hb2.mono (below_two _ _ _).size)); clear hb2)
    go_ret2
    exact ⟨false, rfl, fun h => absurd h h0, fun _ => rfl, HB2.out⟩
theorem Clash_any : CallsIn Fc 0 Tryz.prog 15 #[cardV r A n c] W (SaysList (cardZ r sh n) (ClashIs r sh n) W) := by
  have hck := fun w (hb : Below W.heap.size W w) => check_any r A n c sh w hn hc (Lib.hid (hsh.out.below hb))
  have hz := cardZ_ok (r := r) (sh := sh) (n := n)
  generalize cardZ r sh n = z at *
  have HCK := Lib.hid hck
  have HZ := Lib.hid hz
  clear hck hz
  by_cases h0 : z = 0
  · have hok := Lib.hid (HZ.out.1 h0)
    have hn8 := hok.out.count
    subst h0
    have hcl := fun w (hb : Below W.heap.size W w) => clash_any r A n c sh w hn8 hc (Lib.hid hok.out.rule) (Lib.hid hok.out.each) (Lib.hid (hsh.out.below hb))
    have HCL := Lib.hid hcl
    clear hcl
    gi_enter Tryz.func15, Tryz.ntmps15
    gi_wp2_with (first
      | (gi_at_call 46; refine (HCK.out _ (below_two _ _ _)).mono ?_; rintro e w2 ⟨rfl, hb2⟩; obtain ⟨c0, c1, c2, c3, c4⟩ := box_two hb2; have HB2 := Lib.hid ((below_two _ _ _).trans (hb2.mono (below_two _ _ _).size)); clear hb2)
      | (gi_at_call 53; refine (HCL.out _ HB2.out).mono ?_; rintro e w3 ⟨hb3, h⟩; obtain ⟨LA, m, lc, l, rfl, h1, h2, h3⟩ := clash_list h; have HB3 := Lib.hid (HB2.out.trans (hb3.mono HB2.out.size)); clear hb3 h))
    go_ret2
    exact ⟨LA, m, lc, l, rfl, h1, h2, fun _ => h3, fun h => absurd rfl h, HB3.out⟩
  · gi_enter Tryz.func15, Tryz.ntmps15
    gi_wp2_with (gi_at_call 46; refine (HCK.out _ (below_two _ _ _)).mono ?_; rintro e w2 ⟨rfl, hb2⟩; have HB2 := Lib.hid ((below_two _ _ _).trans (hb2.mono (below_two _ _ _).size)); clear hb2)
    go_ret2
    exact ⟨none, 0, 0, fun _ => 0, rfl, Nat.le_refl _, fun k hk => by omega, fun h => absurd h h0, fun _ => rfl, HB2.out⟩
theorem Trust_any : CallsIn Fc 0 Tryz.prog 18 #[cardV r A n c] W (SaysList (cardZ r sh n) (TrustIs r sh n) W) := by
  have hck := fun w (hb : Below W.heap.size W w) => check_any r A n c sh w hn hc (Lib.hid (hsh.out.below hb))
  have hz := cardZ_ok (r := r) (sh := sh) (n := n)
  generalize cardZ r sh n = z at *
  have HCK := Lib.hid hck
  have HZ := Lib.hid hz
  clear hck hz
  by_cases h0 : z = 0
  · have hok := Lib.hid (HZ.out.1 h0)
    have hn8 := hok.out.count
    subst h0
    have hcl := fun w (hb : Below W.heap.size W w) => trust_any r A n c sh w hn8 hc (Lib.hid hok.out.rule) (Lib.hid hok.out.each) (Lib.hid (hsh.out.below hb))
    have HCL := Lib.hid hcl
    clear hcl
    gi_enter Tryz.func18, Tryz.ntmps18
    gi_wp2_with (first
      | (gi_at_call 46; refine (HCK.out _ (below_two _ _ _)).mono ?_; rintro e w2 ⟨rfl, hb2⟩; obtain ⟨c0, c1, c2, c3, c4⟩ := box_two hb2; have HB2 := Lib.hid ((below_two _ _ _).trans (hb2.mono (below_two _ _ _).size)); clear hb2)
      | (gi_at_call 55; refine (HCL.out _ HB2.out).mono ?_; rintro e w3 ⟨LA, lc, rfl, h1, h2, hb3⟩; have HB3 := Lib.hid (HB2.out.trans (hb3.mono HB2.out.size)); clear hb3))
    go_ret2
    exact ⟨LA, _, lc, _, rfl, h1, h2, fun _ => ⟨rfl, rfl⟩, fun h => absurd rfl h, HB3.out⟩
  · gi_enter Tryz.func18, Tryz.ntmps18
    gi_wp2_with (gi_at_call 46; refine (HCK.out _ (below_two _ _ _)).mono ?_; rintro e w2 ⟨rfl, hb2⟩; have HB2 := Lib.hid ((below_two _ _ _).trans (hb2.mono (below_two _ _ _).size)); clear hb2)
    go_ret2
    exact ⟨none, 0, 0, fun _ => 0, rfl, Nat.le_refl _, fun k hk => by omega, fun h => absurd h h0, fun _ => rfl, HB2.out⟩
end
end Go.Proofs.YtlabfeofejemjaaGreat
end
section
namespace Go.Proofs.YtlabfeofejemjaaGreat
open Go.RowKit
inductive RoleG where
  | val (d : Nat) (v : Value)
  | any (d : Nat)
  | st
def RoleG.slot : RoleG → Option Nat
  | .val d _ => some d
  | .any d => some d
  | .st => none
def nvG (R : List RoleG) (i : Nat) : Bool := match R[i]? with
  | some (.any _) => true
  | some .st => true
  | _ => false
def outsG (V : Nat → Value) : List RoleG → Nat → List (Nat × Value)
  | [], _ => []
  | .val d v :: R, i => (d, v) :: outsG V R (i + 1)
  | .any d :: R, i => (d, V i) :: outsG V R (i + 1)
  | .st :: R, i => outsG V R (i + 1)
def updB (L : Nat → Bool) (j : Nat) : Nat → Bool := fun i => if i = j then true else L i
def updV (V : Nat → Value) (j : Nat) (v : Value) : Nat → Value := fun i => if i = j then v else V i
section
variable {F : Fence} {n : Nat} {P : Program} {ops : Array Oper} {Q : Exit → Act → World → Prop}
def slotV (R : List RoleG) (a : Act) (i : Nat) : Value := match R[i]? with
  | some (.any d) => a.eval (.tmp d)
  | _ => undef
structure RG (ops : Array Oper) (R : List RoleG) (I : (Nat → Bool) → (Nat → Value) → World → Prop) (z : Nat) (a0 : Act) (listed : Array Bool) (a : Act) (w : World) : Prop where
  defers : a.defers = []
  size : a.tmps.size = z
  old : ∀ s, (∀ ρ ∈ R, ρ.slot ≠ some s) → a.eval (.tmp s) = a0.eval (.tmp s)
  val : ∀ (j d : Nat) (v : Value), R[j]? = some (.val d v) → listed.getD j false = true → a.eval (.tmp d) = v
  inv : I (fun i => listed.getD i false && nvG R i) (slotV R a) w
theorem outsG_mem {V : Nat → Value} {x : Nat × Value} : ∀ {R : List RoleG} {i : Nat}, x ∈ outsG V R i → ∃ k, R[k]? = some (.val x.1 x.2) ∨ (R[k]? = some (.any x.1) ∧ x.2 = V (i + k))
  | [], i, h => by cases h
  | .val d v :: R, i, h => by
    rcases List.mem_cons.1 h with rfl | h
    · exact ⟨0, .inl rfl⟩
    · obtain ⟨k, h⟩ := outsG_mem h
      exact ⟨k + 1, by simpa [Nat.add_assoc, Nat.add_comm 1] using h⟩
  | .any d :: R, i, h => by
    rcases List.mem_cons.1 h with rfl | h
    · exact ⟨0, .inr ⟨rfl, rfl⟩⟩
    · obtain ⟨k, h⟩ := outsG_mem h
      exact ⟨k + 1, by simpa [Nat.add_assoc, Nat.add_comm 1] using h⟩
  | .st :: R, i, h => by
    obtain ⟨k, h⟩ := outsG_mem (R := R) (i := i + 1) h
    exact ⟨k + 1, by simpa [Nat.add_assoc, Nat.add_comm 1] using h⟩
theorem outsG_has {V : Nat → Value} : ∀ {R : List RoleG} {i k d : Nat}, (R[k]?.bind RoleG.slot) = some d → ∃ v, (d, v) ∈ outsG V R i
  | [], i, k, d, h => by simp at h
  | .val e v :: R, i, 0, d, h => by
    simp [RoleG.slot] at h
    exact ⟨v, by subst h; exact List.mem_cons_self ..⟩
  | .any e :: R, i, 0, d, h => by
    simp [RoleG.slot] at h
    exact ⟨V i, by subst h; exact List.mem_cons_self ..⟩
  | .st :: R, i, 0, d, h => by simp [RoleG.slot] at h
  | .val e v :: R, i, k + 1, d, h => by
    obtain ⟨u, hu⟩ := outsG_has (R := R) (i := i + 1) (k := k) (d := d) (by simpa using h)
    exact ⟨u, List.mem_cons_of_mem _ hu⟩
  | .any e :: R, i, k + 1, d, h => by
    obtain ⟨u, hu⟩ := outsG_has (R := R) (i := i + 1) (k := k) (d := d) (by simpa using h)
    exact ⟨u, List.mem_cons_of_mem _ hu⟩
  | .st :: R, i, k + 1, d, h => by
    obtain ⟨u, hu⟩ := outsG_has (R := R) (i := i + 1) (k := k) (d := d) (by simpa using h)
    exact ⟨u, hu⟩
end
end Go.Proofs.YtlabfeofejemjaaGreat
end
section
namespace Go.Proofs.YtlabfeofejemjaaGreat
open Go.RowKit
section
variable {F : Fence} {n : Nat} {P : Program} {ops : Array Oper} {Q : Exit → Act → World → Prop}
structure RH (ops : Array Oper) (R : List RoleG) (I : (Nat → Bool) → (Nat → Value) → World → Prop) (z : Nat) (a0 : Act) (listed : Array Bool) (a : Act) (w : World) : Prop where
  defers : a.defers = []
  size : a.tmps.size = z
  old : ∀ s, (∀ ρ ∈ R, ρ.slot ≠ some s) → a.eval (.tmp s) = a0.eval (.tmp s)
  val : ∀ (j d : Nat) (v : Value), R[j]? = some (.val d v) → listed.getD j false = true → a.eval (.tmp d) = v
  inv : I (fun i => listed.getD i false && nvG R i) (slotV R a) w
  closed : ∀ i, listed.getD i false = true → ∀ j, depB ops i j = true → listed.getD j false = true
def aheadB (ops : Array Oper) (j e : Nat) : Bool := decide (e ≠ j) && (clos ops (e + 1) [e]).contains j
theorem ahead_not {listed : Array Bool} {R : List RoleG} {j e : Nat} (hc : ∀ i, listed.getD i false = true → ∀ j, depB ops i j = true → listed.getD j false = true) (hd : ∀ k, depB ops j k = true → listed.getD k false = true) (hj : listed.getD j false = false) (he : aheadB ops j e = true) : (listed.getD e false && nvG R e) = false := by
  unfold aheadB at he
  simp only [Bool.and_eq_true, decide_eq_true_eq, List.contains_iff_mem] at he
  cases h : listed.getD e false with
  | false => rfl
  | true =>
    exfalso
    have := clos_listed (k := e) hc (hc e h) (e + 1) [e] (fun x hx => by
      rcases List.mem_singleton.1 hx with rfl
      exact .inl rfl) j he.2
    rcases this with h2 | h2
    · exact he.1 h2.symm
    · rw [hj] at h2; cases h2
theorem wpIn_region_H (R : List RoleG) {I : (Nat → Bool) → (Nat → Value) → World → Prop} {z : Nat} {a0 : Act} {id : Nat} {w : World} (hm : P.follows .mixedOrders = true) (hb : backB .any ops = true) (hlen : R.length = ops.size) (hnd : rowDst (R.map RoleG.slot) z z z = true) (hd : a0.defers = []) (hz : a0.tmps.size = z)
    (h0 : I (fun _ => false) (slotV R a0) { w with drawn := w.drawn + 1 })
    (hJ : ∀ j L V a w, j < ops.size → (nvG R j = true → L j = false) → (∀ k, depB ops j k = true → nvG R k = true → L k = true) → (∀ e, aheadB ops j e = true → nvG R e = true → L e = false) → a.defers = [] → a.tmps.size = z → (∀ s, R.all (fun ρ => ρ.slot != some s) = true → a.eval (.tmp s) = a0.eval (.tmp s)) →
      (∀ k d v, depB ops j k = true → R[k]? = some (.val d v) → a.eval (.tmp d) = v) → (∀ k d, R[k]? = some (.any d) → a.eval (.tmp d) = V k) → I L V w →
      wpOpIn F n P ops Q j (fun a' w' => a'.defers = [] ∧ match R[j]? with
        | some (.val d v) => a'.tmps = a.tmps.setIfInBounds d v ∧ I L V w'
        | some (.any d) => ∃ v, a'.tmps = a.tmps.setIfInBounds d v ∧ I (updB L j) (updV V j v) w'
        | _ => a'.tmps = a.tmps ∧ I (updB L j) V w') a w)
    (hE : ∀ L V w, (∀ i, nvG R i = true → L i = true) → I L V w → Q .normal { tmps := (outsG V R 0).foldl (fun t x => t.setIfInBounds x.1 x.2) a0.tmps, defers := [] } w) : (Code.region id ops true).wpIn F n P Q a0 w := by
  have hK : ∀ {j : Nat} {ρ : RoleG}, R[j]? = some ρ → (R.map RoleG.slot)[j]? = some ρ.slot := fun h => by rw [List.getElem?_map, h]; rfl
  have hkey : ∀ {j d : Nat} {ρ : RoleG}, R[j]? = some ρ → ρ.slot = some d → d < z ∧ ∀ i ρ', i ≠ j → R[i]? = some ρ' → ρ'.slot ≠ some d := fun {j d ρ} h e => by
    have h' := hK h
    rw [e] at h'
    obtain ⟨_, _, q3, q4⟩ := rowDst_use hnd h'
    exact ⟨q3, fun i ρ' hi h' e => q4 i hi (by rw [hK h', e])⟩
  have evs : ∀ (a a' : Act) (d : Nat) (v : Value), a'.tmps = a.tmps.setIfInBounds d v → (∀ s, s ≠ d → a'.eval (.tmp s) = a.eval (.tmp s)) ∧ (d < a.tmps.size → a'.eval (.tmp d) = v) := fun a a' d v h => by
    constructor
    · intro s hs
      simp only [Act.eval, h]
      simp [Ne.symm hs]
    · intro hd
      simp only [Act.eval, h]
      simp [hd]
  have same : ∀ (a a' : Act), a'.tmps = a.tmps → ∀ s, a'.eval (.tmp s) = a.eval (.tmp s) := fun a a' h s => by simp only [Act.eval, h]
  have hlist : ∀ {listed : Array Bool} {i : Nat}, i ∈ Region.ready .any ops listed → i < ops.size := fun hi => by
    obtain ⟨_, o, h3, _⟩ := mem_ready.1 hi
    exact (Array.getElem?_eq_some_iff.1 h3).1
  refine wpIn_region_J (J := RH ops R I z a0) hm hb ?_ (fun listed a w i hj hi => ?_) fun listed a w hj hall => ?_
  · have hno : ∀ i, (Array.replicate ops.size false).getD i false = false := fun i => by
      rw [Array.getD_eq_getD_getElem?]
      rcases Nat.lt_or_ge i ops.size with h | h <;> simp [h]
    refine ⟨hd, hz, fun _ _ => rfl, fun j d v _ hl => (by rw [hno j] at hl; cases hl), ?_, fun i hl => (by rw [hno i] at hl; cases hl)⟩
    have e : (fun i => (Array.replicate ops.size false).getD i false && nvG R i) = fun _ => false := by
      funext i
      rw [hno i]
      rfl
    rw [e]
    exact h0
  · have his := hlist hi
    have hnot := not_yet hi
    refine wpOpIn_mono (fun a' w' h => ?_) (hJ i (fun i => listed.getD i false && nvG R i) (slotV R a) a w his (fun _ => by simp [hnot]) (fun k hk hnv => by simp [dep hi hk, hnv]) (fun e he hnv => ahead_not hj.closed (fun k hk => dep hi hk) hnot he) hj.defers hj.size (fun s hs => hj.old s fun ρ hρ => by simpa using List.all_eq_true.1 hs ρ hρ) (fun k d v hk e => hj.val k d v e (dep hi hk)) (fun k d e => by simp [slotV, e]) hj.inv)
    obtain ⟨h1, h2⟩ := h
    obtain ⟨ρ, hρ⟩ : ∃ ρ, R[i]? = some ρ := ⟨R[i], by simp [hlen, his]⟩
    have hgd : ∀ k, (listed.setIfInBounds i true).getD k false = if k = i then true else listed.getD k false := fun k => by
      by_cases e : k = i
      · subst e; rw [set_self hi]; simp
      · rw [gset (fun e' => e e'.symm)]; simp [e]
    have hclosed : ∀ k, (listed.setIfInBounds i true).getD k false = true → ∀ j, depB ops k j = true → (listed.setIfInBounds i true).getD j false = true := fun k hk j hkj => by
      rw [hgd j]
      by_cases e : j = i
      · simp [e]
      · rw [if_neg e]
        rw [hgd k] at hk
        by_cases e2 : k = i
        · subst e2; exact dep hi hkj
        · rw [if_neg e2] at hk
          exact hj.closed k hk j hkj
    rw [hρ] at h2
    cases ρ with
    | val d v =>
      obtain ⟨h2, h3⟩ := h2
      obtain ⟨q1, q2⟩ := hkey hρ rfl
      obtain ⟨e1, e2⟩ := evs a a' d v h2
      have e2 := e2 (by rw [hj.size]; exact q1)
      refine ⟨h1, by rw [h2]; simpa using hj.size, fun s hs => ?_, fun k e u hk hl => ?_, ?_, hclosed⟩
      · rw [e1 s fun e => hs _ (List.mem_iff_getElem?.2 ⟨i, hρ⟩) (by rw [e]; rfl)]; exact hj.old s hs
      · by_cases ek : k = i
        · subst ek; rw [hρ] at hk; cases hk; exact e2
        · rw [hgd k, if_neg ek] at hl
          have hne := q2 k _ ek hk
          rw [e1 e fun e' => hne (by rw [e']; rfl)]
          exact hj.val k e u hk hl
      · have eL : (fun k => (listed.setIfInBounds i true).getD k false && nvG R k) = fun k => listed.getD k false && nvG R k := by
          funext k
          rw [hgd k]
          by_cases ek : k = i
          · subst ek; simp [nvG, hρ]
          · simp [ek]
        have eV : slotV R a' = slotV R a := by
          funext k
          unfold slotV
          split
          · next d' hk =>
            have hne := q2 k _ (fun e => by subst e; rw [hρ] at hk; cases hk) hk
            exact e1 d' fun e' => hne (by rw [e']; rfl)
          · rfl
        rw [eL, eV]
        exact h3
    | any d =>
      obtain ⟨v, h2, h3⟩ := h2
      obtain ⟨q1, q2⟩ := hkey hρ rfl
      obtain ⟨e1, e2⟩ := evs a a' d v h2
      have e2 := e2 (by rw [hj.size]; exact q1)
      refine ⟨h1, by rw [h2]; simpa using hj.size, fun s hs => ?_, fun k e u hk hl => ?_, ?_, hclosed⟩
      · rw [e1 s fun e => hs _ (List.mem_iff_getElem?.2 ⟨i, hρ⟩) (by rw [e]; rfl)]; exact hj.old s hs
      · have ek : k ≠ i := fun ek => by subst ek; rw [hρ] at hk; cases hk
        rw [hgd k, if_neg ek] at hl
        have hne := q2 k _ ek hk
        rw [e1 e fun e' => hne (by rw [e']; rfl)]
        exact hj.val k e u hk hl
      · have eL : (fun k => (listed.setIfInBounds i true).getD k false && nvG R k) = updB (fun k => listed.getD k false && nvG R k) i := by
          funext k
          rw [hgd k]
          unfold updB
          by_cases ek : k = i
          · subst ek; simp [nvG, hρ]
          · simp [ek]
        have eV : slotV R a' = updV (slotV R a) i v := by
          funext k
          unfold updV
          by_cases ek : k = i
          · subst ek; simp only [if_true]; unfold slotV; rw [hρ]; exact e2
          · rw [if_neg ek]
            unfold slotV
            split
            · next d' hk =>
              have hne := q2 k _ ek hk
              exact e1 d' fun e' => hne (by rw [e']; rfl)
            · rfl
        rw [eL, eV]
        exact h3
    | st =>
      obtain ⟨h2, h3⟩ := h2
      have e1 := same a a' h2
      refine ⟨h1, by rw [h2]; exact hj.size, fun s hs => by rw [e1]; exact hj.old s hs, fun k e u hk hl => ?_, ?_, hclosed⟩
      · have ek : k ≠ i := fun ek => by subst ek; rw [hρ] at hk; cases hk
        rw [hgd k, if_neg ek] at hl
        rw [e1]
        exact hj.val k e u hk hl
      · have eL : (fun k => (listed.setIfInBounds i true).getD k false && nvG R k) = updB (fun k => listed.getD k false && nvG R k) i := by
          funext k
          rw [hgd k]
          unfold updB
          by_cases ek : k = i
          · subst ek; simp [nvG, hρ]
          · simp [ek]
        have eV : slotV R a' = slotV R a := by
          funext k
          unfold slotV
          split
          · exact e1 _
          · rfl
        rw [eL, eV]
        exact h3
  · have hin : ∀ i, nvG R i = true → i < ops.size := fun i h => by
      rcases Nat.lt_or_ge i R.length with h' | h'
      · omega
      · unfold nvG at h
        rw [List.getElem?_eq_none h'] at h
        cases h
    have h1 := hE _ _ w (fun i hi => by simp [hall i (hin i hi), hi]) hj.inv
    have e0 : (outsG (slotV R a) R 0).foldl (fun (t : Array Value) (x : Nat × Value) => t.setIfInBounds x.1 x.2) a0.tmps = a.tmps := by
      refine fold_set a _ a0.tmps (by rw [hz, hj.size]) (fun x hx => ?_) fun s hs => (hj.old s fun ρ hρ e => ?_).symm
      · obtain ⟨k, h | ⟨h, h2⟩⟩ := outsG_mem hx
        · have hk : k < ops.size := by
            rcases Nat.lt_or_ge k R.length with h' | h'
            · omega
            · rw [List.getElem?_eq_none h'] at h; cases h
          exact hj.val k _ _ h (hall k hk)
        · rw [h2, Nat.zero_add]
          simp [slotV, h]
      · obtain ⟨k, hk⟩ := List.mem_iff_getElem?.1 hρ
        obtain ⟨v, hv⟩ := outsG_has (V := slotV R a) (i := 0) (k := k) (d := s) (by rw [hk]; exact e)
        exact hs _ hv rfl
    rw [e0] at h1
    obtain ⟨t, d⟩ := a
    have := hj.defers
    simp only at this
    subst this
    exact h1
end
end Go.Proofs.YtlabfeofejemjaaGreat
end
section
namespace Go.Proofs.YtlabfeofejemjaaGreat
open Go.ConcR (DC0)
open Go.RowKit
open Go.RowKit Go.Cx Go.Conc
section
variable {F : Fence} {n : Nat} {P : Program} {Post : Act → World → Prop} {a : Act} {w : World} {b : Frame} {k : List Item} {cs : List Frame}
def Through (Post : Act → World → Prop) : Exit → Act → World → Prop
  | .normal, a, w => Post a w
  | _, _, _ => False
abbrev Comes (F : Fence) (P : Program) (b : Frame) (cs : List Frame) (a : Act) (k : List Item) (w : World) (a' : Act) (k' : List Item) (w' : World) : Prop :=
  StepsIn (Machine.fenced P F) P (lone (b.atR a k) cs w) (lone (b.atR a' k') cs w')
theorem comes_code {c : Code} (h : c.wpIn F n P (Through Post) a w) (hro : b.roundOf = F.round) (hb : F.fn b.fn) (hr : F.room (cs.length + 1 + n)) :
    ∃ a' w', Post a' w' ∧ Comes F P b cs a (.code c :: k) w a' k w' := by
  obtain ⟨e, a', w', hp, harr⟩ := h b k cs hro hb hr
  cases e with
  | normal => exact ⟨a', w', hp, harr⟩
  | _ => exact hp.elim
theorem comes_seq {x y : Code} (hb : F.fn b.fn) (hr : F.room (cs.length + 1 + n)) : Comes F P b cs a (.code (.seq x y) :: k) w a (.code x :: .code y :: k) w :=
  .one (fenced_calm hb hr rfl) stepR_seq
theorem comes_cond {c : Operand} {x y : Code} {t : Bool} (hc : a.eval c = .bool t) (hb : F.fn b.fn) (hr : F.room (cs.length + 1 + n)) : Comes F P b cs a (.code (.cond c x y) :: k) w a (.code (if t then x else y) :: k) w :=
  .one (fenced_calm hb hr rfl) (stepR_cond hc)
theorem comes_region {id : Nat} {ops : Array Oper} (hb : F.fn b.fn) (hr : F.room (cs.length + 1 + n)) : Comes F P b cs a (.code (.region id ops false) :: k) w a (.inRegion ops (List.range ops.size) :: k) w :=
  .one (fenced_calm hb hr rfl) stepR_region
def reckons : Op → Bool
  | .move _ | .assign _ | .pick _ _ _ | .binOp _ _ _ _ _ | .load _ _ | .fieldAddr _ _ _ | .unOp _ _ _ => true
  | _ => false
theorem reckons_about {o : Oper} (h : reckons o.op = true) (P : Program) (w : World) (ρ : Operand → Value) : o.about P w ρ = none := by
  unfold Oper.about
  cases hop : o.op <;> simp_all [reckons]
theorem run_value {s : Sem Value} {P : Program} {w : World} : (∃ v w', (do let v ← s; pure (Next.value v) : Sem Next).run P w = .ok (.value v) w') ∨ ∃ x w', (do let v ← s; pure (Next.value v) : Sem Next).run P w = .halt x w' := by
  rw [Sem.run_bind]
  cases s.run P w with
  | ok v w' => exact .inl ⟨v, w', rfl⟩
  | halt x w' => exact .inr ⟨x, w', rfl⟩
theorem reckons_run {o : Oper} (h : reckons o.op = true) (P : Program) (w : World) (ρ : Operand → Value) : (∃ v w', (execOp ρ o).run P w = .ok (.value v) w') ∨ ∃ x w', (execOp ρ o).run P w = .halt x w' := by
  cases hop : o.op <;> simp only [hop, reckons] at h <;> try (cases h)
  all_goals unfold execOp; simp only [hop]
  case move x => exact .inl ⟨_, _, rfl⟩
  case assign x => exact .inl ⟨_, _, rfl⟩
  case pick c x y =>
    rw [Sem.run_bind]
    cases (asBool (ρ c)).run P w with
    | ok v w' => exact .inl ⟨_, w', rfl⟩
    | halt x w' => exact .inr ⟨x, w', rfl⟩
  case binOp op t x y u => exact run_value
  case load t x => exact run_value
  case fieldAddr t x f => exact run_value
  case unOp o t x => exact run_value
theorem comes_pre {ops : Array Oper} (l : List Oper) : ∀ (i : Nat) (rest : List Nat) (a : Act) (w : World), (∀ j, j < l.length → ops[i + j]? = l[j]?) → (l.all fun o => reckons o.op) = true →
    wpListIn F n P ops (Through Post) l a w → b.roundOf = F.round → F.fn b.fn → F.room (cs.length + 1 + n) →
    ∃ a' w', Post a' w' ∧ Comes F P b cs a (.inRegion ops (List.range' i l.length ++ rest) :: k) w a' (.inRegion ops rest :: k) w' := by
  induction l with
  | nil => exact fun i rest a w _ _ h _ _ _ => ⟨a, w, h, .refl _⟩
  | cons o l ih =>
    intro i rest a w hops hall h hro hb hr
    have ho : ops[i]? = some o := by simpa using hops 0 (by simp)
    have hops' : ∀ j, j < l.length → ops[i + 1 + j]? = l[j]? := fun j hj => by
      have := hops (j + 1) (by simp; omega)
      simpa [Nat.add_assoc, Nat.add_comm 1 j] using this
    simp only [List.all_cons, Bool.and_eq_true] at hall
    have hab : ∀ f, o.about P w a.eval = some f → F.fn f := fun f hf => by rw [reckons_about hall.1] at hf; cases hf
    have h0 : (lone (b.atR a (.inRegion ops (i :: (List.range' (i + 1) l.length ++ rest)) :: k)) cs w).fenced P F := fenced_oper hb hr ho hab
    have hfin : ∀ v, (b.atR a (.inRegion ops (i :: (List.range' (i + 1) l.length ++ rest)) :: k)).finish v = b.atR (a.put o.dst v) (.inRegion ops (List.range' (i + 1) l.length ++ rest) :: k) := by
      intro v; rw [Frame.finish_atR, ho]; rfl
    simp only [wpListIn] at h
    rw [List.length_cons, List.range'_succ, List.cons_append]
    by_cases hw : Region.wanted o (yielded ops a.tmps) = true
    · rw [if_pos hw] at h
      have h2 := h.2
      have hsem : o.semAt F.round a.eval = execOp a.eval o := by
        refine Oper.semAt_eq _ _ _ fun c hc => ?_
        rw [hc] at hall
        exact absurd hall.1 (by simp [reckons])
      rw [hsem] at h2
      rcases reckons_run hall.1 P w a.eval with ⟨v, w1, hrun⟩ | ⟨x, w1, hrun⟩
      · rw [hrun] at h2
        obtain ⟨a', w', hp, hs⟩ := ih (i + 1) rest _ _ hops' hall.2 h2 hro hb hr
        refine ⟨a', w', hp, .head h0 (step_lone_go ?_) hs⟩
        rw [stepGR_op (P := P) ho hw, hro, hsem, ← hfin]
        simp [stepG.apply, hrun]
      · rw [hrun] at h2
        cases x with
        | panic v => exact h2.elim
        | _ => exact h2.elim
    · rw [if_neg hw] at h
      obtain ⟨a', w', hp, hs⟩ := ih (i + 1) rest _ _ hops' hall.2 h.2 hro hb hr
      have hk := stepR_op_skip (P := P) (b := b) (a := a) (k := k) (cs := cs) (w := w) (ops := ops) (i := i) (rest := List.range' (i + 1) l.length ++ rest) (by simp [ho]; simpa using hw)
      simp only [ho, Option.bind_some] at hk
      exact ⟨a', w', hp, .head h0 hk hs⟩
end
section
variable {F : Fence} {n : Nat} {P : Program} {b : Frame} {cs : List Frame} {S : Act → List Item → World → Prop} {a : Act} {w : World} {k : List Item}
def Reach (F : Fence) (P : Program) (b : Frame) (cs : List Frame) (S : Act → List Item → World → Prop) (a : Act) (k : List Item) (w : World) : Prop :=
  ∃ a' k' w', S a' k' w' ∧ Comes F P b cs a k w a' k' w'
theorem Reach.here (h : S a k w) : Reach F P b cs S a k w := ⟨a, k, w, h, .refl _⟩
theorem reach_seq {x y : Code} (hb : F.fn b.fn) (hr : F.room (cs.length + 1 + n)) (h : Reach F P b cs S a (.code x :: .code y :: k) w) : Reach F P b cs S a (.code (.seq x y) :: k) w := by
  obtain ⟨a', k', w', h1, h2⟩ := h
  exact ⟨a', k', w', h1, (comes_seq hb hr).trans h2⟩
theorem reach_code {c : Code} (hro : b.roundOf = F.round) (hb : F.fn b.fn) (hr : F.room (cs.length + 1 + n))
    (h : ∀ R : Act → World → Prop, (∀ a' w', Reach F P b cs S a' k w' → R a' w') → c.wpIn F n P (Through R) a w) : Reach F P b cs S a (.code c :: k) w := by
  obtain ⟨a1, w1, ⟨a', k', w', h1, h2⟩, h3⟩ := comes_code (h (fun a' w' => Reach F P b cs S a' k w') fun a' w' h => h) hro hb hr
  exact ⟨a', k', w', h1, h3.trans h2⟩
theorem reach_cond {c : Operand} {x y : Code} (t : Bool) (hc : a.eval c = .bool t) (hb : F.fn b.fn) (hr : F.room (cs.length + 1 + n)) (h : Reach F P b cs S a (.code (if t then x else y) :: k) w) : Reach F P b cs S a (.code (.cond c x y) :: k) w := by
  obtain ⟨a', k', w', h1, h2⟩ := h
  exact ⟨a', k', w', h1, (comes_cond hc hb hr).trans h2⟩
theorem reach_skip (hb : F.fn b.fn) (hr : F.room (cs.length + 1 + n)) (hro : b.roundOf = F.round) (h : Reach F P b cs S a k w) : Reach F P b cs S a (.code .skip :: k) w :=
  reach_code (n := n) hro hb hr fun R hR => by
    gi_wp2
    exact hR _ _ h
theorem reach_region {id : Nat} {ops : Array Oper} (hb : F.fn b.fn) (hr : F.room (cs.length + 1 + n)) (h : Reach F P b cs S a (.inRegion ops (List.range ops.size) :: k) w) : Reach F P b cs S a (.code (.region id ops false) :: k) w := by
  obtain ⟨a', k', w', h1, h2⟩ := h
  exact ⟨a', k', w', h1, (comes_region hb hr).trans h2⟩
end
theorem put_same {a : Act} {d : Nat} {v : Value} (h : d < a.tmps.size) : (a.put (some d) v).tmps.getD d undef = v := by
  simp [Act.put, h]
theorem put_far {a : Act} {d e : Nat} {v : Value} (h : d ≠ e) : (a.put (some d) v).tmps.getD e undef = a.tmps.getD e undef := by
  simp [Act.put, h]
theorem put_size {a : Act} {d : Nat} {v : Value} : (a.put (some d) v).tmps.size = a.tmps.size := by simp [Act.put]
theorem put_defers {a : Act} {d : Nat} {v : Value} : (a.put (some d) v).defers = a.defers := rfl
abbrev lawFr (f : FuncId) : Frame := { (default : Frame) with fn := f, kind := .normal, roundOf := none }
structure EarlyAt (S : FuncId) (ops : Array Oper) (i j d r : Nat) : Prop where
  o : ∃ o, ops[i]? = some o ∧ o.op = .call { callee := .value (.func S), args := #[], argTypes := #[] } ∧ o.guard = none ∧ o.dst = some d
  p : ∃ o, ops[j]? = some o ∧ o.op = .assign (.tmp d) ∧ o.guard = none ∧ o.dst = some r
structure LateAt (S : FuncId) (ops : Array Oper) (i j1 j2 g c d e r : Nat) : Prop where
  o : ∃ o, ops[i]? = some o ∧ o.op = .call { callee := .value (.func S), args := #[], argTypes := #[] } ∧ o.guard = some (g, true) ∧ o.dst = some d
  g : (ops[g]?).bind (·.dst) = some c
  p : ∃ o, ops[j1]? = some o ∧ o.op = .pick (.tmp c) (.tmp d) (.const (.bool false)) ∧ o.guard = none ∧ o.dst = some e
  q : ∃ o, ops[j2]? = some o ∧ o.op = .assign (.tmp e) ∧ o.guard = none ∧ o.dst = some r
  ne : d ≠ c
inductive AtCallG (S : FuncId) (r z : Nat) : Act → List Item → Prop where
  | early (a : Act) (k : List Item) (ops : Array Oper) (i j d : Nat) (h : EarlyAt S ops i j d r) (hdz : d < z) (hd : a.defers = []) (hs : a.tmps.size = z) : AtCallG S r z a (.inRegion ops [i, j] :: .code .ret :: k)
  | late (a : Act) (k : List Item) (ops : Array Oper) (i j1 j2 g c d e : Nat) (h : LateAt S ops i j1 j2 g c d e r) (hdz : d < z) (hez : e < z) (hd : a.defers = []) (hs : a.tmps.size = z) (ht : a.tmps.getD c undef = .bool true) (hcz : c < z) : AtCallG S r z a (.inRegion ops [i, j1, j2] :: .code .ret :: k)
section
variable {P : Program} {S f : FuncId} {r z : Nat}
theorem call_step {a : Act} {k : List Item} (hS : ∃ fn, P.funcs[S]? = some fn ∧ (fn.name == "runtime.NumGoroutine") = false ∧ fn.body.isNone = false) (h : AtCallG S r z a k) (w : World) :
    stepG P true (G ((lawFr f).at a k) []) w = .go (G (Frame.enter P S #[] .normal) [(lawFr f).at a k]) w #[] := by
  obtain ⟨fn, hf, hn, hb⟩ := hS
  cases h with
  | early k ops i j d h hdz hd hs =>
    obtain ⟨o, ho, hop, hg, hdst⟩ := h.o
    have hw : Region.wanted o (yielded ops a.tmps) = true := by simp only [Region.wanted, hg]
    rw [stepG_enter ho hw (by intro h; cases h) (run_call_body hop hf hn hb)]
    have : listed P (lawFr f).fn a o w = #[] := by unfold listed; rw [events_call_body hop hf hn hb]; exact seen_none _ _
    rw [this]
    simp only [List.map_toArray, List.map_nil]
  | late k ops i j1 j2 g c d e h hdz hez hd hs ht hcz =>
    obtain ⟨o, ho, hop, hg, hdst⟩ := h.o
    have hw : Region.wanted o (yielded ops a.tmps) = true := by
      simp only [Region.wanted, hg]
      have hgc : a.tmps[c]? = some (.bool true) := by
        rw [Array.getD_eq_getD_getElem?, Array.getElem?_eq_getElem (by omega)] at ht
        rw [Array.getElem?_eq_getElem (by omega)]
        simpa using ht
      unfold yielded
      rw [h.g]
      simp [hgc]
    rw [stepG_enter ho hw (by intro h; cases h) (run_call_body hop hf hn hb)]
    have : listed P (lawFr f).fn a o w = #[] := by unfold listed; rw [events_call_body hop hf hn hb]; exact seen_none _ _
    rw [this]
    simp only [List.map_toArray, List.map_nil]
theorem goes_oneG {R : World → World → Prop} {Stop : Goroutine → World → Prop} {n : Nat} {g g' : Goroutine} {w : World} (hs : g.status = .running) (h : ∀ w1, stepG P true g w1 = .go g' w1 #[]) (hk : ∀ w1, R w w1 → Goes P true R DC0 Stop n g' w1) :
    Goes P true R DC0 Stop (n + 1) g w := Goes.step hs fun w1 h1 => by
  rw [h w1]
  exact ⟨⟨rfl, rfl⟩, hk w1 h1⟩
theorem step_assignG {a : Act} {k : List Item} {ops : Array Oper} {i : Nat} {rest : List Nat} {o : Oper} {x : Operand} (ho : ops[i]? = some o) (hg : o.guard = none) (hop : o.op = .assign x) (w : World) :
    stepG P true (G ((lawFr f).at a (.inRegion ops (i :: rest) :: k)) []) w = .go (G ((lawFr f).at (a.put o.dst (a.eval x)) (.inRegion ops rest :: k)) []) w #[] := by
  have hr : (execOp a.eval o).run P w = .ok (.value (a.eval x)) w := by unfold execOp; simp [hop]
  rw [stepG_value ho (by simp only [Region.wanted, hg]) (by intro h; cases h) hr]
  have : listed P (lawFr f).fn a o w = #[] := by
    unfold listed
    rw [show (execOp a.eval o).events P w #[] = #[] by unfold execOp; simp [hop]]
    exact seen_none _ _
  rw [this]
theorem step_pickG {a : Act} {k : List Item} {ops : Array Oper} {i : Nat} {rest : List Nat} {o : Oper} {c x y : Operand} (ho : ops[i]? = some o) (hg : o.guard = none) (hop : o.op = .pick c x y) (hc : a.eval c = .bool true) (w : World) :
    stepG P true (G ((lawFr f).at a (.inRegion ops (i :: rest) :: k)) []) w = .go (G ((lawFr f).at (a.put o.dst (a.eval x)) (.inRegion ops rest :: k)) []) w #[] := by
  have hr : (execOp a.eval o).run P w = .ok (.value (a.eval x)) w := by unfold execOp; simp [hop, hc, asBool]
  rw [stepG_value ho (by simp only [Region.wanted, hg]) (by intro h; cases h) hr]
  have : listed P (lawFr f).fn a o w = #[] := by
    unfold listed
    rw [show (execOp a.eval o).events P w #[] = #[] by unfold execOp; simp [hop, hc, asBool]]
    exact seen_none _ _
  rw [this]
theorem step_doneG {F : FuncId → Prop} {fl : Func} (hF : FenceOk P F) (hin : F f) (hfl : P.funcs[f]? = some fl) (hres : fl.results = #[.tmp r]) {a : Act} {k : List Item} (hd : a.defers = []) (h4 : a.tmps.getD r undef = .bool true) (w : World) :
    stepG P true (G { (lawFr f).at a (.code .ret :: k) with mode := .returning } []) w = .ended (.done (.bool true)) w #[] := by
  obtain ⟨fn, c, hk⟩ := hF f hin
  have hfn : fn = fl := Option.some.inj (hk.at_.symm.trans hfl)
  have h1 : (results fn a.tmps).run P w = .ok (.bool true) w := by
    rw [results_tmp (t := r) (by rw [hfn]; exact hres) a.tmps P w, h4]
  have h2 : (results fn a.tmps).events P w #[] = #[] := events_results_tmp (t := r) (by rw [hfn]; exact hres) _ _
  have e1 : ∀ (fr : Frame) (z : World), fr.kind = .normal → fr.fn = f → doReturn P true fr [] none (.bool true) z = .ended (.done (.bool true)) z := fun fr z h3 h4 => by simp [doReturn, h3, h4, hk.ini]
  simp only [G, stepG, unwind, Frame.at, hd, hk.at_, Sem.runT_eq, h1, h2]
  rw [e1 _ _ rfl rfl]
  simp [GStep.after, seen_none]
theorem after_retG {F : FuncId → Prop} {fl : Func} (hF : FenceOk P F) (hin : F f) (hfl : P.funcs[f]? = some fl) (hres : fl.results = #[.tmp r]) {a : Act} {k : List Item} {ops : Array Oper} {w w' : World} (he : Env (OldL w) w w') (hd : a.defers = []) (h4 : a.tmps.getD r undef = .bool true) :
    Goes P true (fun w0 w1 => Env (OldL w) w0 w1) DC0 (AtRet P (fun v w1 => v = .bool true ∧ Env (OldL w) w w1)) 2 (G ((lawFr f).at a (.inRegion ops [] :: .code .ret :: k)) []) w' := by
  refine goes_oneG rfl (fun w1 => stepG_region_end) fun w1 h1 => goes_oneG rfl (fun w1 => stepG_ret') fun w2 h2 => Goes.stop fun w3 h3 => ?_
  exact ⟨rfl, _, step_doneG hF hin hfl hres hd h4 w3, rfl, ((he.trans h1).trans h2).trans h3⟩
theorem after_callG {F : FuncId → Prop} {fl : Func} (hF : FenceOk P F) (hin : F f) (hfl : P.funcs[f]? = some fl) (hres : fl.results = #[.tmp r]) (hrz : r < z) {a : Act} {k : List Item} (h : AtCallG S r z a k) {w w' : World} (he : Env (OldL w) w w') :
    Goes P true (fun w0 w1 => Env (OldL w) w0 w1) DC0 (AtRet P (fun v w1 => v = .bool true ∧ Env (OldL w) w w1)) 4 (G (((lawFr f).at a k).finish (.bool true)) []) w' := by
  cases h with
  | early k ops i j d h hdz hd hs =>
    obtain ⟨o, ho, hop, hg, hdst⟩ := h.o
    obtain ⟨o2, ho2, hop2, hg2, hdst2⟩ := h.p
    rw [Frame.finish_at, ho]
    simp only [Option.bind_some, hdst]
    refine goes_oneG (g' := G ((lawFr f).at ((a.put (some d) (.bool true)).put (some r) (.bool true)) (.inRegion ops [] :: .code .ret :: k)) []) rfl (fun w1 => ?_) fun w1 h1 => Goes.more (after_retG hF hin hfl hres (a := (a.put (some d) (.bool true)).put (some r) (.bool true)) (ops := ops) (k := k) (he.trans h1) (by rw [put_defers, put_defers, hd]) (put_same (by rw [put_size]; omega)))
    have h := step_assignG (P := P) (f := f) (a := a.put (some d) (.bool true)) (k := .code .ret :: k) (ops := ops) (i := j) (rest := []) (x := .tmp d) ho2 hg2 hop2 w1
    rw [h, hdst2, show (a.put (some d) (.bool true)).eval (.tmp d) = .bool true from put_same (by omega)]
  | late k ops i j1 j2 g c d e h hdz hez hd hs ht hcz =>
    obtain ⟨o, ho, hop, hg, hdst⟩ := h.o
    obtain ⟨o2, ho2, hop2, hg2, hdst2⟩ := h.p
    obtain ⟨o3, ho3, hop3, hg3, hdst3⟩ := h.q
    rw [Frame.finish_at, ho]
    simp only [Option.bind_some, hdst]
    refine goes_oneG (g' := G ((lawFr f).at ((a.put (some d) (.bool true)).put (some e) (.bool true)) (.inRegion ops [j2] :: .code .ret :: k)) []) rfl (fun w1 => ?_) fun w1 h1 => ?_
    · have h := step_pickG (P := P) (f := f) (a := a.put (some d) (.bool true)) (k := .code .ret :: k) (ops := ops) (i := j1) (rest := [j2]) (c := .tmp c) (x := .tmp d) (y := .const (.bool false)) ho2 hg2 hop2 ((put_far h.ne).trans ht) w1
      rw [h, hdst2, show (a.put (some d) (.bool true)).eval (.tmp d) = .bool true from put_same (by omega)]
    · refine goes_oneG (g' := G ((lawFr f).at (((a.put (some d) (.bool true)).put (some e) (.bool true)).put (some r) (.bool true)) (.inRegion ops [] :: .code .ret :: k)) []) rfl (fun w2 => ?_) fun w2 h2 => after_retG hF hin hfl hres ((he.trans h1).trans h2) (by rw [put_defers, put_defers, put_defers, hd]) (put_same (by rw [put_size, put_size]; omega))
      have h := step_assignG (P := P) (f := f) (a := (a.put (some d) (.bool true)).put (some e) (.bool true)) (k := .code .ret :: k) (ops := ops) (i := j2) (rest := []) (x := .tmp e) ho3 hg3 hop3 w2
      rw [h, hdst3, show ((a.put (some d) (.bool true)).put (some e) (.bool true)).eval (.tmp e) = .bool true from put_same (by rw [put_size]; omega)]
end
def CallsFn (P : Program) (o : Op) : Prop := ∃ (f : FuncId) (args : Array Operand) (ats : Array TypeId) (fn : Func), o = .call { callee := .value (.func f), args, argTypes := ats } ∧ P.funcs[f]? = some fn ∧ (fn.name == "runtime.NumGoroutine") = false ∧ fn.body.isNone = false
section
variable {F : Fence} {n : Nat} {P : Program} {Post : Act → World → Prop} {a : Act} {w : World} {b : Frame} {k : List Item} {cs : List Frame}
theorem comes_call {ops : Array Oper} {i : Nat} {l : List Nat} {o : Oper} {S : FuncId} {args : Array Value} {w1 : World} {next : Act → World → Prop} (ho : ops[i]? = some o) (hw : Region.wanted o (yielded ops a.tmps) = true) (hro : b.roundOf = F.round) (hb : F.fn b.fn) (hr : F.room (cs.length + 1 + n))
    (hrun : (o.semAt F.round a.eval).run P w = .ok (.enter S args) w1) (h : o.wpIn F n P a w next (Through Post)) :
    ∃ v w2, next (a.put o.dst v) w2 ∧ Comes F P b cs a (.inRegion ops (i :: l) :: k) w (a.put o.dst v) (.inRegion ops l :: k) w2 := by
  obtain ⟨hab, h⟩ := h
  rw [hrun] at h
  simp only [Oper.uponIn] at h
  obtain ⟨hn, hF, h⟩ := h
  have h0 : (lone (b.atR a (.inRegion ops (i :: l) :: k)) cs w).fenced P F := fenced_oper hb hr ho hab
  have hg := stepGR_op (P := P) (b := b) (k := k) (cs := cs) (w := w) (rest := l) ho hw
  rw [hro] at hg
  have hroom : F.room ((b.atR a (.inRegion ops (i :: l) :: k) :: cs).length + 1 + (n - 1)) := Fence.room_enter hr hn
  obtain ⟨e, w2, fr, hR, hsteps, hfn, hleave⟩ := h (b.atR a (.inRegion ops (i :: l) :: k) :: cs) hroom
  have henter : step P (lone (b.atR a (.inRegion ops (i :: l) :: k)) cs w) = .next (lone (Frame.enter P S args .normal) (b.atR a (.inRegion ops (i :: l) :: k) :: cs) w1) :=
    step_lone_go (by rw [hg]; simp [stepG.apply, hrun, Frame.atR])
  cases e with
  | returned v =>
    refine ⟨v, w2, hR, .head h0 henter (StepsIn.trans hsteps (.one (fenced_leaving (hfn ▸ hF) hroom hleave) ?_))⟩
    have hfin : (b.atR a (.inRegion ops (i :: l) :: k)).finish v = b.atR (a.put o.dst v) (.inRegion ops l :: k) := by rw [Frame.finish_atR, ho]; rfl
    rw [← hfin]
    exact step_leave_returned hleave
  | panicked chain => exact hR.elim
  | outgrown => obtain ⟨_, _, hq⟩ := hR; exact hq.elim
theorem comes_list {ops : Array Oper} (l : List Oper) : ∀ (i : Nat) (rest : List Nat) (a : Act) (w : World), (∀ j, j < l.length → ops[i + j]? = l[j]?) → (∀ o ∈ l, reckons o.op = true ∨ CallsFn P o.op) →
    wpListIn F n P ops (Through Post) l a w → b.roundOf = F.round → F.fn b.fn → F.room (cs.length + 1 + n) →
    ∃ a' w', Post a' w' ∧ Comes F P b cs a (.inRegion ops (List.range' i l.length ++ rest) :: k) w a' (.inRegion ops rest :: k) w' := by
  induction l with
  | nil => exact fun i rest a w _ _ h _ _ _ => ⟨a, w, h, .refl _⟩
  | cons o l ih =>
    intro i rest a w hops hall h hro hb hr
    have ho : ops[i]? = some o := by simpa using hops 0 (by simp)
    have hops' : ∀ j, j < l.length → ops[i + 1 + j]? = l[j]? := fun j hj => by
      have := hops (j + 1) (by simp; omega)
      simpa [Nat.add_assoc, Nat.add_comm 1 j] using this
    have hall' : ∀ o ∈ l, reckons o.op = true ∨ CallsFn P o.op := fun o ho => hall o (List.mem_cons_of_mem _ ho)
    rw [List.length_cons, List.range'_succ, List.cons_append]
    simp only [wpListIn] at h
    by_cases hw : Region.wanted o (yielded ops a.tmps) = true
    · rw [if_pos hw] at h
      rcases hall o (List.mem_cons_self ..) with hrk | ⟨f, args, ats, fn, hop, hf, hname, hbody⟩
      · have h1 : wpListIn F n P ops (Through fun a w => wpListIn F n P ops (Through Post) l a w) [o] a w := by
          simp only [wpListIn]
          rw [if_pos hw]
          refine ⟨h.1, ?_⟩
          have h2 := h.2
          revert h2
          have hsem : o.semAt F.round a.eval = execOp a.eval o := Oper.semAt_eq _ _ _ fun c hc => by rw [hc] at hrk; exact absurd hrk (by simp [reckons])
          rw [hsem]
          rcases reckons_run hrk P w a.eval with ⟨v, w1, hrun⟩ | ⟨x, w1, hrun⟩
          · rw [hrun]; exact fun h => h
          · rw [hrun]; cases x <;> exact fun h => h
        obtain ⟨a1, w1, h2, h3⟩ := comes_pre (b := b) (cs := cs) (k := k) (ops := ops) [o] i (List.range' (i + 1) l.length ++ rest) a w (fun j hj => by simp at hj; subst hj; simpa using ho) (by simpa using hrk) h1 hro hb hr
        obtain ⟨a', w', hp, hs⟩ := ih (i + 1) rest a1 w1 hops' hall' h2 hro hb hr
        exact ⟨a', w', hp, StepsIn.trans (by simpa using h3) hs⟩
      · have hsem : o.semAt F.round a.eval = execOp a.eval o := Oper.semAt_eq _ _ _ fun c hc => by rw [hop] at hc; cases hc
        obtain ⟨v, w2, h2, h3⟩ := comes_call (l := List.range' (i + 1) l.length ++ rest) ho hw hro hb hr (by rw [hsem]; exact run_call_body hop hf hname hbody) h
        obtain ⟨a', w', hp, hs⟩ := ih (i + 1) rest _ w2 hops' hall' h2 hro hb hr
        exact ⟨a', w', hp, StepsIn.trans h3 hs⟩
    · rw [if_neg hw] at h
      obtain ⟨a', w', hp, hs⟩ := ih (i + 1) rest _ _ hops' hall' h.2 hro hb hr
      have hk := stepR_op_skip (P := P) (b := b) (a := a) (k := k) (cs := cs) (w := w) (ops := ops) (i := i) (rest := List.range' (i + 1) l.length ++ rest) (by simp [ho]; simpa using hw)
      simp only [ho, Option.bind_some] at hk
      exact ⟨a', w', hp, .head (fenced_oper hb hr ho h.1) hk hs⟩
theorem reach_list {S : Act → List Item → World → Prop} {ops : Array Oper} (t : Nat) (rest : List Nat) (hr2 : List.range ops.size = List.range' 0 (ops.toList.take t).length ++ rest) (hall : ∀ o ∈ ops.toList.take t, reckons o.op = true ∨ CallsFn P o.op) (hro : b.roundOf = F.round) (hb : F.fn b.fn) (hr : F.room (cs.length + 1 + n))
    (h : ∀ R : Act → World → Prop, (∀ a' w', Reach F P b cs S a' (.inRegion ops rest :: k) w' → R a' w') → wpListIn F n P ops (Through R) (ops.toList.take t) a w) : Reach F P b cs S a (.inRegion ops (List.range ops.size) :: k) w := by
  rw [hr2]
  obtain ⟨a1, w1, ⟨a', k', w', h1, h2⟩, h3⟩ := comes_list (b := b) (cs := cs) (k := k) (ops.toList.take t) 0 rest a w (fun j hj => by
    rw [Nat.zero_add, List.getElem?_take, if_pos (Nat.lt_of_lt_of_le hj (List.length_take_le ..))]
    simp) hall (h (fun a' w' => Reach F P b cs S a' (.inRegion ops rest :: k) w') fun a' w' h => h) hro hb hr
  exact ⟨a', k', w', h1, h3.trans h2⟩
end
end Go.Proofs.YtlabfeofejemjaaGreat
end
section
namespace Go.Proofs.YtlabfeofejemjaaGreat
open Go.RowKit
theorem mul_next (a k : Int) : (a + 1) * k = a * k + k := by rw [Int.add_mul]; omega
theorem b_range {r : Rl} {sh : Nat → Sh} {n : Nat} (hok : CardOk r sh n) (hn : n ≠ 0) {d : Int} (h0 : 0 ≤ d) (h1 : d ≤ 90) : -107892 ≤ bU r sh d n ∧ bV r sh d n ≤ 207891 := by
  have hb := reach_bounds hok.rule (hok.each 0 (by omega)) h0 h1
  have a := ((bU_le (r := r) (sh := sh) (d := d) n).1 (Int.le_refl _)).2 0 (by omega)
  have b := ((le_bV (r := r) (sh := sh) (d := d) n).1 (Int.le_refl _)).2 0 (by omega)
  omega
def atK (s k : Nat) : Nat := if s + k ≤ 90 then s + k else 90 - k
def Marked (r : Rl) (sh : Nat → Sh) (n s k : Nat) (M : Nat → Int) : Prop := ∀ j, j < k → bU r sh (atK s j : Nat) n ≤ M (atK s j) ∧ M (atK s j) ≤ bV r sh (atK s j : Nat) n
theorem atK_hit {s d : Nat} (hs : s ≤ 90) (hd : d ≤ 90) : ∃ j, j < 91 ∧ atK s j = d := by
  by_cases h : s ≤ d
  · exact ⟨d - s, by omega, by unfold atK; rw [if_pos (by omega)]; omega⟩
  · exact ⟨90 - d, by omega, by unfold atK; rw [if_neg (by omega)]; omega⟩
theorem atK_inj {s j k : Nat} (hs : s ≤ 90) (hj : j ≤ 90) (hk : k ≤ 90) (h : atK s j = atK s k) : j = k := by
  unfold atK at h; split at h <;> split at h <;> omega
theorem Marked.zero {r : Rl} {sh : Nat → Sh} {n s : Nat} {M : Nat → Int} : Marked r sh n s 0 M := fun j hj => by omega
theorem Marked.next {r : Rl} {sh : Nat → Sh} {n s k : Nat} {M : Nat → Int} (h : Marked r sh n s k M) (hs : s ≤ 90) (hk : k ≤ 90) {v : Int} (hv : bU r sh (atK s k : Nat) n ≤ v ∧ v ≤ bV r sh (atK s k : Nat) n) : Marked r sh n s (k + 1) (fun i => if i = atK s k then v else M i) := fun j hj => by
  by_cases e : j = k
  · subst e; simpa using hv
  · have hne : atK s j ≠ atK s k := fun h' => e (atK_inj hs (by omega) hk h')
    simp only [hne, if_false]
    exact h j (by omega)
theorem Marked.wide {r : Rl} {sh : Nat → Sh} {n s : Nat} {M : Nat → Int} (h : Marked r sh n s 91 M) (hok : CardOk r sh n) (hs : s ≤ 90) {i : Nat} (hi : i < n) : wideU r (sh i) ≤ M (sh i).d.toNat ∧ M (sh i).d.toNat ≤ wideV r (sh i) := by
  have hx := hok.each i hi
  have h0 := And.intro hx.d0 hx.d1
  obtain ⟨j, hj, ej⟩ := atK_hit (s := s) (d := (sh i).d.toNat) hs (by omega)
  have a := h j hj
  rw [ej, show (((sh i).d.toNat : Nat) : Int) = (sh i).d by omega] at a
  have u := ((bU_le (r := r) (sh := sh) (d := (sh i).d) n).1 (Int.le_refl _)).2 i hi
  have v := ((le_bV (r := r) (sh := sh) (d := (sh i).d) n).1 (Int.le_refl _)).2 i hi
  rw [reachU_own] at u
  rw [reachV_own] at v
  omega
end Go.Proofs.YtlabfeofejemjaaGreat
end
section
namespace Go.Proofs.YtlabfeofejemjaaGreat
open Go.RowKit Go.Cx Go.Conc
def moreSh (sh : Nat → Sh) (n : Nat) (x : Sh) : Nat → Sh := fun k => if k < n then sh k else x
def UpRow (n : Nat) (v : Value) (w : World) : Prop := ∃ LA lc, v = .slice LA n lc ∧ n ≤ lc ∧ IntsAt w LA n (fun k => (k : Int))
theorem UpRow.below {n : Nat} {v : Value} {w w' : World} (h : UpRow n v w) (hb : Below w.heap.size w w') : UpRow n v w' := by
  obtain ⟨LA, lc, h1, h2, h3⟩ := h
  exact ⟨LA, lc, h1, h2, h3.below hb⟩
end Go.Proofs.YtlabfeofejemjaaGreat
end
section
namespace Go.Proofs.YtlabfeofejemjaaGreat
open Go.RowKit Go.Cx Go.Conc
def rgt' : Code → Code
  | .seq _ y => y
  | c => c
def MarksAt (w : World) (p : Nat) (M : Nat → Int) : Prop := ∃ xs : Array Value, w.heap[p]? = some (.cells xs 3 (0, 0)) ∧ ∀ i, i < 91 → xs[i]? = some (.int .i64 (M i))
theorem MarksAt.cell {w : World} {p : Nat} {M : Nat → Int} (h : MarksAt w p M) {i : Nat} (hi : i < 91) : w.cell? ⟨p, i, none⟩ = some (.int .i64 (M i)) := by
  obtain ⟨xs, h1, h2⟩ := h
  simp [World.cell?, h1, h2 i hi]
theorem MarksAt.frozen {w : World} {p : Nat} {M : Nat → Int} (h : MarksAt w p M) (j : Nat) : w.frozen? ⟨p, j, none⟩ = false := by
  obtain ⟨xs, h1, h2⟩ := h
  simp [World.frozen?, h1]
theorem MarksAt.lt {w : World} {p : Nat} {M : Nat → Int} (h : MarksAt w p M) : p < w.heap.size := by
  obtain ⟨xs, h1, h2⟩ := h
  exact (Array.getElem?_eq_some_iff.1 h1).1
theorem MarksAt.below {w w' : World} {p : Nat} {M : Nat → Int} (h : MarksAt w p M) (hb : Below w.heap.size w w') : MarksAt w' p M := by
  have hl := h.lt
  obtain ⟨xs, h1, h2⟩ := h
  exact ⟨xs, (hb.block _ hl).trans h1, h2⟩
theorem MarksAt.set {w : World} {p : Nat} {M : Nat → Int} (h : MarksAt w p M) {d : Nat} (hd : d < 91) (v : Int) : MarksAt (w.setCell ⟨p, d, none⟩ (.int .i64 v)) p (fun i => if i = d then v else M i) := by
  obtain ⟨xs, h1, h2⟩ := h
  refine ⟨xs.setIfInBounds d (.int .i64 v), by simp [World.setCell, Array.getElem?_modify, h1], fun i hi => ?_⟩
  by_cases e : i = d
  · subst e
    have hl : i < xs.size := (Array.getElem?_eq_some_iff.1 (h2 i hi)).1
    simp [hl]
  · rw [Array.getElem?_setIfInBounds_ne (fun e' => e e'.symm)]
    simp [e, h2 i hi]
theorem MarksAt.new (w : World) : MarksAt (w.alloc (.cells (Array.replicate 91 (.int .i64 0)) 3)) w.heap.size (fun _ => 0) := ⟨_, heap_new _ _, fun i hi => by simp [hi]⟩
theorem Marked.range {r : Rl} {sh : Nat → Sh} {n s k : Nat} {M : Nat → Int} (h : Marked r sh n s k M) (hok : CardOk r sh n) (hn : n ≠ 0) {j : Nat} (hj : ∃ i, i < k ∧ atK s i = j) (h9 : j ≤ 90) : -107892 ≤ M j ∧ M j ≤ 207891 := by
  obtain ⟨i, hi, rfl⟩ := hj
  have a := h i hi
  have b := b_range hok hn (d := ((atK s i : Nat) : Int)) (by omega) (by omega)
  omega
theorem MarksAt.far {w : World} {p q : Nat} {M : Nat → Int} (h : MarksAt w p M) (hne : q ≠ p) (j : Nat) (x : Value) : MarksAt (w.setCell ⟨q, j, none⟩ x) p M := by
  obtain ⟨xs, h1, h2⟩ := h
  exact ⟨xs, by simp [World.setCell, Array.getElem?_modify, h1, hne], h2⟩
end Go.Proofs.YtlabfeofejemjaaGreat
end
section
namespace Go.Proofs.YtlabfeofejemjaaGreat
open Go.RowKit Go.Cx Go.Conc
def dstsIn (ops : Array Oper) (D : List Nat) : Bool := (List.range ops.size).all fun j => match dstAt ops j with | some s => D.contains s | none => true
theorem dstsIn_use {ops : Array Oper} {D : List Nat} (h : dstsIn ops D = true) {j s : Nat} (hj : j < ops.size) (e : dstAt ops j = some s) : s ∈ D := by
  have h1 := List.all_eq_true.1 h j (List.mem_range.2 hj)
  rw [e] at h1
  simpa using h1
theorem RF.act {ops : Array Oper} {sup : Nat → List Nat} {Ψ : Nat → List Value → World → Prop} {I : World → Prop} {z : Nat} {a0 : Act} {listed : Array Bool} {a : Act} {w : World} (h : RF ops sup Ψ I z a0 listed a w) (hz : a0.tmps.size = z) (D : List Nat) (hD : dstsIn ops D = true) :
    a = { tmps := (D.map fun d => (d, a.eval (.tmp d))).foldl (fun t x => t.setIfInBounds x.1 x.2) a0.tmps, defers := [] } := by
  have e := fold_set a (D.map fun d => (d, a.eval (.tmp d))) a0.tmps (by rw [hz, h.size]) (fun x hx => by
      obtain ⟨d, _, rfl⟩ := List.mem_map.1 hx
      rfl) fun s hs => (h.old s fun j hj e => hs _ (List.mem_map.2 ⟨s, dstsIn_use hD hj e, rfl⟩) rfl).symm
  rw [e]
  obtain ⟨t, d⟩ := a
  have := h.defers
  simp only at this
  subst this
  rfl
def lft' : Code → Code
  | .seq x _ => x
  | c => c
end Go.Proofs.YtlabfeofejemjaaGreat
end
