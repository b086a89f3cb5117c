/- A part of the proof that ArrowMeasures returns true for every input: no further condition. -/
import Derived.Test.YtpdmgecbapmgdaaGreatGp1
import Derived.Stop.RegionWithIn
import Derived.Great.Frames
import Derived.Laws.Rows
import Derived.Maps.OwnIn
import Derived.Lib.SliceRun
set_option linter.unusedVariables false
set_option maxHeartbeats 2000000
set_option maxRecDepth 100000
section
namespace Go.Proofs.YtpdmgecbapmgdaaGreat
open Go.RowKit
def bothZ (a b : Int) : Int := if a = 2 ∨ b = 2 then 2 else if a = 1 ∧ b = 1 then 1 else 0
def nearZ (al aMin aMax bMin bMax : Int) : Int :=
  if max (aMax - bMin) (bMax - aMin) ≤ al then 1 else if max (aMin - bMax) (bMin - aMax) > al then 2 else 0
end Go.Proofs.YtpdmgecbapmgdaaGreat
end
section
namespace Go.Proofs.YtpdmgecbapmgdaaGreat
open Go.RowKit
def nearOf (rs rl rw : Int) (x y : Shaft) (m : Nat) : Int := nearZ (allowOf rs rl rw m) (spanA x m) (spanB x m) (spanA y m) (spanB y m)
def upTo (rs rl rw : Int) (x y : Shaft) : Nat → Int
  | 0 => 1
  | m + 1 => bothZ (upTo rs rl rw x y m) (nearOf rs rl rw x y m)
def pairZ (rs rl rw : Int) (x y : Shaft) : Int := upTo rs rl rw x y 3
end Go.Proofs.YtpdmgecbapmgdaaGreat
end
section
namespace Go.Proofs.YtpdmgecbapmgdaaGreat
open Go.RowKit
def ckAt (rs rl rw many : Int) (A : Option Addr) (n c : Nat) (P : Nat → Int) : Nat → Value
  | 0 => .int .i64 rs
  | 1 => .int .i64 rl
  | 2 => .int .i64 rw
  | 3 => .int .i64 many
  | 4 => .slice A n c
  | i + 5 => .int .i64 (P i)
def ckCells (rs rl rw many : Int) (A : Option Addr) (n c : Nat) (P : Nat → Int) : Array Value := Array.ofFn (n := 86) fun i => ckAt rs rl rw many A n c P i.val
theorem ck_size (rs rl rw many : Int) (A : Option Addr) (n c : Nat) (P : Nat → Int) : (ckCells rs rl rw many A n c P).size = 86 := by simp [ckCells]
theorem ck_get {rs rl rw many : Int} {A : Option Addr} {n c : Nat} {P : Nat → Int} {i : Nat} (h : i < 86) : (ckCells rs rl rw many A n c P)[i]? = some (ckAt rs rl rw many A n c P i) := by
  simp [ckCells, h]
theorem ck_set {rs rl rw many : Int} {A : Option Addr} {n c : Nat} {P : Nat → Int} {i : Nat} (x : Int) : (ckCells rs rl rw many A n c P).setIfInBounds (5 + i) (.int .i64 x) = ckCells rs rl rw many A n c (fun j => if j = i then x else P j) := by
  apply Array.ext_getElem?
  intro j
  rw [Array.getElem?_setIfInBounds, ck_size]
  rcases Nat.lt_or_ge j 86 with hj | hj
  · rw [ck_get hj, ck_get hj]
    by_cases e : 5 + i = j
    · subst e
      rw [if_pos rfl, if_pos hj]
      rw [Nat.add_comm]
      show _ = some (ckAt rs rl rw many A n c _ (i + 5))
      simp only [ckAt, if_true]
    · rw [if_neg e]
      match j, e with
      | 0, _ => rfl
      | 1, _ => rfl
      | 2, _ => rfl
      | 3, _ => rfl
      | 4, _ => rfl
      | j + 5, e => simp only [ckAt]; rw [if_neg (by omega)]
  · rw [Array.getElem?_eq_none (by rw [ck_size]; exact hj), Array.getElem?_eq_none (by rw [ck_size]; exact hj)]
    by_cases e : 5 + i = j
    · rw [if_pos e, if_neg (by omega)]
    · rw [if_neg e]
section
variable {ops : Array Oper} {rest : List Oper} {o : Oper} {a : Act} {w : World} {Q : Exit → Act → World → Prop}
end
end Go.Proofs.YtpdmgecbapmgdaaGreat
end
section
namespace Go.Proofs.YtpdmgecbapmgdaaGreat
open Go.RowKit
def CkInv (W : World) (rs rl rw many : Int) (A : Option Addr) (n c : Nat) (sh : Nat → Shaft) (kt ko : Nat) (wr : World) : Prop :=
  Below W.heap.size W wr ∧ wr.heap[W.heap.size + 1]? = some (.cells Tryz.zeroCells106 106 (0, 0)) ∧
  ∃ P : Nat → Int, wr.heap[W.heap.size + 2]? = some (.cells (ckCells rs rl rw many A n c P) 106 (0, 0)) ∧ ∀ two one, one < two → (two < kt ∨ (two = kt ∧ one < ko)) → P (one * 9 + two) = pairZ rs rl rw (sh one) (sh two)
theorem CkInv.step {W wr w5 : World} {rs rl rw many : Int} {A : Option Addr} {n c : Nat} {sh : Nat → Shaft} {k j : Nat} (hI : CkInv W rs rl rw many A n c sh k j wr) (hb : Below wr.drew.heap.size wr.drew w5) (hj : j < k) (hk : k < 9) :
    CkInv W rs rl rw many A n c sh k (j + 1) (w5.setCell ⟨W.heap.size + 1 + 1, 5 + j * 9 + k, none⟩ (.int .i64 (pairZ rs rl rw (sh j) (sh k)))) := by
  obtain ⟨hB, h1, P, h2, h3⟩ := hI
  have hl1 : W.heap.size + 1 < wr.heap.size := (Array.getElem?_eq_some_iff.1 h1).1
  have hl2 : W.heap.size + 2 < wr.heap.size := (Array.getElem?_eq_some_iff.1 h2).1
  have h5 : w5.heap[W.heap.size + 2]? = some (.cells (ckCells rs rl rw many A n c P) 106 (0, 0)) := by rw [hb.block _ hl2]; exact h2
  have h4 : w5.heap[W.heap.size + 1]? = some (.cells Tryz.zeroCells106 106 (0, 0)) := by rw [hb.block _ hl1]; exact h1
  refine ⟨(hB.drew.trans (hb.mono hB.size)).setCell (by show W.heap.size ≤ W.heap.size + 1 + 1; omega) _, ?_, fun i => if i = j * 9 + k then pairZ rs rl rw (sh j) (sh k) else P i, ?_, ?_⟩
  · rw [Below.heap_setCell _ _ _ _ (by show W.heap.size + 1 ≠ W.heap.size + 1 + 1; omega)]
    exact h4
  · simp only [World.setCell, Array.getElem?_modify]
    rw [if_pos trivial, h5]
    simp only [Option.map_some, Option.isSome_none, Bool.false_eq_true, if_false]
    rw [Nat.add_assoc, ck_set]
  · intro two one h6 h7
    show (if one * 9 + two = j * 9 + k then pairZ rs rl rw (sh j) (sh k) else P (one * 9 + two)) = _
    by_cases e : one * 9 + two = j * 9 + k
    · rw [if_pos e]
      have e1 : one = j := by omega
      have e2 : two = k := by omega
      rw [e1, e2]
    · rw [if_neg e]
      refine h3 two one h6 ?_
      rcases h7 with h7 | ⟨h7, h8⟩
      · exact .inl h7
      · refine .inr ⟨h7, ?_⟩
        rcases Nat.lt_succ_iff_lt_or_eq.1 h8 with h9 | h9
        · exact h9
        · subst h9; subst h7; exact absurd rfl e
end Go.Proofs.YtpdmgecbapmgdaaGreat
end
section
namespace Go.Proofs.YtpdmgecbapmgdaaGreat
open Go.RowKit
def rowZ (T : Nat → Nat → Int) (l : Nat → Nat) (i : Nat) : Nat → Int → Int
  | 0, s => s
  | j + 1, s => bothZ (rowZ T l i j s) (T (l j) (l i))
def listZ (T : Nat → Nat → Int) (l : Nat → Nat) : Nat → Int
  | 0 => 1
  | i + 1 => rowZ T l i i (listZ T l i)
end Go.Proofs.YtpdmgecbapmgdaaGreat
end
section
namespace Go.Proofs.YtpdmgecbapmgdaaGreat
open Go.RowKit
end Go.Proofs.YtpdmgecbapmgdaaGreat
end
section
namespace Go.Proofs.YtpdmgecbapmgdaaGreat
open Go.RowKit
def SaysGreat (n : Nat) (sh : Nat → Shaft) (W : World) (e : Ending) (w' : World) : Prop := ∃ b : Bool, e = .returned (.bool b) ∧ (b = false → n ≤ 20 ∧ ∀ k, k < n → (sh k).name.size ≤ 100) ∧ Below W.heap.size W w'
theorem Great_any (rs rl rw many : Int) (A : Option Addr) (n c : Nat) (sh : Nat → Shaft) (W : World) (hc : n ≤ c) (hsh : Hid (ShaftsAt W A n sh)) :
    CallsIn Fc 0 Tryz.prog 13 #[stockV rs rl rw many A n c] W (SaysGreat n sh W) := by
  gi_enter Tryz.func13, Tryz.ntmps13
  by_cases hn : (n : Int) > 20
  · gi_wp2
    go_ret
    exact ⟨true, rfl, fun h => by simp at h, (Below.refl _ _).alloc (Nat.le_refl _) _⟩
  · have hn' : n ≤ 20 := by omega
    gi_wp2
    gi_loopw [3] (fun i wr => ∃ k : Nat, k ≤ n ∧ i = .int .i64 k ∧ (∀ j, j < k → (sh j).name.size ≤ 100) ∧ wr = W.alloc (.cells #[.int .i64 rs, .int .i64 rl, .int .i64 rw, .int .i64 many, .slice A n c] 26)) (fun i _ => n - (intOf i).toNat)
    case atStart => exact ⟨0, by omega, rfl, fun j h => by omega, rfl⟩
    case round =>
      obtain ⟨k, hk, rfl, hall, rfl⟩ := hrel
      have HA := Lib.hid hall
      clear hall
      by_cases hlt : k < n
      · obtain ⟨b, o, rfl, hx⟩ := hsh.out k hlt
        have h0 := hx.h0
        have hlb : b < W.heap.size := World.block_lt_of_cell? W _ h0
        by_cases hnm : ((sh k).name.size : Int) > 100
        · gi_wp2
          go_ret
          exact ⟨true, rfl, fun h => by simp at h, (Below.refl _ _).alloc (Nat.le_refl _) _⟩
        · gi_wp2
          go_roundw
          case rel => exact ⟨k + 1, by omega, by go_num, fun j hj => by
            rcases Nat.lt_succ_iff_lt_or_eq.1 hj with hj | rfl
            · exact HA.out j hj
            · omega, trivial⟩
          case measure => simp [intOf]; omega
      · gi_wp2
        go_ret
        exact ⟨false, rfl, fun _ => ⟨hn', fun j hj => HA.out j (by omega)⟩, (Below.refl _ _).alloc (Nat.le_refl _) _⟩
end Go.Proofs.YtpdmgecbapmgdaaGreat
end
section
namespace Go.Proofs.YtpdmgecbapmgdaaGreat
open Go.RowKit
theorem i3 : (Tryz.prog.info? 3).map (fun i => (i.zero, i.size, i.bytes)) = some (some (.int .i64 0), 1, 8) := by kernel_rfl
end Go.Proofs.YtpdmgecbapmgdaaGreat
end
section
namespace Go.Proofs.YtpdmgecbapmgdaaGreat
open Go.RowKit
end Go.Proofs.YtpdmgecbapmgdaaGreat
end
section
namespace Go.Proofs.YtpdmgecbapmgdaaGreat
open Go.RowKit
end Go.Proofs.YtpdmgecbapmgdaaGreat
end
section
namespace Go.Proofs.YtpdmgecbapmgdaaGreat
open Go.RowKit
theorem bothZ_two (a b : Int) : bothZ a b = 2 ↔ a = 2 ∨ b = 2 := by
  unfold bothZ
  by_cases h : a = 2 ∨ b = 2
  · simp [h]
  · rw [if_neg h]
    constructor
    · intro h'
      split at h' <;> omega
    · intro h'; exact absurd h' h
theorem bothZ_one (a b : Int) : bothZ a b = 1 ↔ a = 1 ∧ b = 1 := by
  unfold bothZ
  by_cases h : a = 2 ∨ b = 2
  · rw [if_pos h]
    omega
  · rw [if_neg h]
    by_cases h1 : a = 1 ∧ b = 1
    · simp [h1]
    · rw [if_neg h1]
      constructor
      · intro h'; omega
      · intro h'; exact absurd h' h1
theorem bothZ_range (a b : Int) : bothZ a b = 0 ∨ bothZ a b = 1 ∨ bothZ a b = 2 := by
  unfold bothZ
  split
  · exact .inr (.inr rfl)
  · split
    · exact .inr (.inl rfl)
    · exact .inl rfl
theorem rowZ_two (T : Nat → Nat → Int) (l : Nat → Nat) (i : Nat) (s : Int) : ∀ j, rowZ T l i j s = 2 ↔ s = 2 ∨ ∃ k, k < j ∧ T (l k) (l i) = 2
  | 0 => by simp [rowZ]
  | j + 1 => by
    rw [rowZ, bothZ_two, rowZ_two T l i s j]
    constructor
    · rintro ((h | ⟨k, h1, h2⟩) | h)
      · exact .inl h
      · exact .inr ⟨k, by omega, h2⟩
      · exact .inr ⟨j, by omega, h⟩
    · rintro (h | ⟨k, h1, h2⟩)
      · exact .inl (.inl h)
      · rcases Nat.lt_succ_iff_lt_or_eq.1 h1 with h1 | rfl
        · exact .inl (.inr ⟨k, h1, h2⟩)
        · exact .inr h2
theorem rowZ_one (T : Nat → Nat → Int) (l : Nat → Nat) (i : Nat) (s : Int) : ∀ j, rowZ T l i j s = 1 ↔ s = 1 ∧ ∀ k, k < j → T (l k) (l i) = 1
  | 0 => by simp [rowZ]
  | j + 1 => by
    rw [rowZ, bothZ_one, rowZ_one T l i s j]
    constructor
    · rintro ⟨⟨h, h1⟩, h2⟩
      refine ⟨h, fun k hk => ?_⟩
      rcases Nat.lt_succ_iff_lt_or_eq.1 hk with hk | rfl
      · exact h1 k hk
      · exact h2
    · rintro ⟨h, h1⟩
      exact ⟨⟨h, fun k hk => h1 k (by omega)⟩, h1 j (by omega)⟩
theorem rowZ_range (T : Nat → Nat → Int) (l : Nat → Nat) (i : Nat) (s : Int) (hs : s = 0 ∨ s = 1 ∨ s = 2) : ∀ j, rowZ T l i j s = 0 ∨ rowZ T l i j s = 1 ∨ rowZ T l i j s = 2
  | 0 => hs
  | j + 1 => bothZ_range _ _
theorem listZ_range (T : Nat → Nat → Int) (l : Nat → Nat) : ∀ m, listZ T l m = 0 ∨ listZ T l m = 1 ∨ listZ T l m = 2
  | 0 => .inr (.inl rfl)
  | m + 1 => rowZ_range T l m _ (listZ_range T l m) m
theorem listZ_two (T : Nat → Nat → Int) (l : Nat → Nat) : ∀ m, listZ T l m = 2 ↔ ∃ j i, j < i ∧ i < m ∧ T (l j) (l i) = 2
  | 0 => by simp [listZ]
  | m + 1 => by
    rw [listZ, rowZ_two, listZ_two T l m]
    constructor
    · rintro (⟨j, i, h1, h2, h3⟩ | ⟨k, h1, h2⟩)
      · exact ⟨j, i, h1, by omega, h3⟩
      · exact ⟨k, m, h1, by omega, h2⟩
    · rintro ⟨j, i, h1, h2, h3⟩
      rcases Nat.lt_succ_iff_lt_or_eq.1 h2 with h2 | rfl
      · exact .inl ⟨j, i, h1, h2, h3⟩
      · exact .inr ⟨j, h1, h3⟩
theorem listZ_one (T : Nat → Nat → Int) (l : Nat → Nat) : ∀ m, listZ T l m = 1 ↔ ∀ j i, j < i → i < m → T (l j) (l i) = 1
  | 0 => by simp [listZ]
  | m + 1 => by
    rw [listZ, rowZ_one, listZ_one T l m]
    constructor
    · rintro ⟨h1, h2⟩ j i hj hi
      rcases Nat.lt_succ_iff_lt_or_eq.1 hi with hi | rfl
      · exact h1 j i hj hi
      · exact h2 j hj
    · intro h
      exact ⟨fun j i hj hi => h j i hj (by omega), fun k hk => h k m hk (by omega)⟩
structure Gathered (T : Nat → Nat → Int) (l : Nat → Nat) (m i k : Nat) (all none : Bool) : Prop where
  all : all = true ↔ ∀ j t, j < t → t < m → (j < i ∨ (j = i ∧ t < k)) → T (l j) (l t) = 1
  none : none = true ↔ ∃ j t, j < t ∧ t < m ∧ (j < i ∨ (j = i ∧ t < k)) ∧ T (l j) (l t) = 2
theorem Gathered.zero (T : Nat → Nat → Int) (l : Nat → Nat) (m : Nat) : Gathered T l m 0 1 true false where
  all := ⟨fun _ j t h1 h2 h3 => by omega, fun _ => rfl⟩
  none := ⟨fun h => by simp at h, fun ⟨j, t, h1, h2, h3, h4⟩ => by omega⟩
theorem Gathered.round {T : Nat → Nat → Int} {l : Nat → Nat} {m i k : Nat} {all none : Bool} (h : Gathered T l m i k all none) (hk : m ≤ k) : Gathered T l m (i + 1) (i + 2) all none where
  all := h.all.trans ⟨fun h j t h1 h2 h3 => h j t h1 h2 (by omega), fun h j t h1 h2 h3 => h j t h1 h2 (by omega)⟩
  none := h.none.trans ⟨fun ⟨j, t, h1, h2, h3, h4⟩ => ⟨j, t, h1, h2, by omega, h4⟩, fun ⟨j, t, h1, h2, h3, h4⟩ => ⟨j, t, h1, h2, by omega, h4⟩⟩
theorem Gathered.pair {T : Nat → Nat → Int} {l : Nat → Nat} {m i k : Nat} {all none : Bool} (h : Gathered T l m i k all none) (hi : i < k) (hk : k < m) {x : Int} (h1 : x = 1 ↔ T (l i) (l k) = 1) (h2 : x = 2 ↔ T (l i) (l k) = 2) :
    Gathered T l m i (k + 1) (if all then x == 1 else false) (if none then true else x == 2) where
  all := by
    cases all with
    | false =>
      simp only [Bool.false_eq_true, if_false, false_iff]
      intro h3
      exact Bool.noConfusion (h.all.2 fun j t a b c => h3 j t a b (by omega))
    | true =>
      simp only [if_true, beq_iff_eq]
      constructor
      · intro hx j t a b c
        by_cases e : j = i ∧ t = k
        · obtain ⟨rfl, rfl⟩ := e
          exact h1.1 hx
        · exact h.all.1 rfl j t a b (by omega)
      · intro h3
        exact h1.2 (h3 i k hi hk (by omega))
  none := by
    cases none with
    | true =>
      simp only [if_true, true_iff]
      obtain ⟨j, t, a, b, c, d⟩ := h.none.1 rfl
      exact ⟨j, t, a, b, by omega, d⟩
    | false =>
      simp only [Bool.false_eq_true, if_false, beq_iff_eq]
      constructor
      · intro hx
        exact ⟨i, k, hi, hk, by omega, h2.1 hx⟩
      · rintro ⟨j, t, a, b, c, d⟩
        by_cases e : j = i ∧ t = k
        · obtain ⟨rfl, rfl⟩ := e
          exact h2.2 d
        · exact Bool.noConfusion (h.none.2 ⟨j, t, a, b, by omega, d⟩)
theorem Gathered.end {T : Nat → Nat → Int} {l : Nat → Nat} {m k : Nat} {all none : Bool} (h : Gathered T l m m k all none) : (listZ T l m == 1) = all ∧ (listZ T l m == 2) = none := by
  have a1 : listZ T l m = 1 ↔ all = true := (listZ_one T l m).trans ⟨fun h3 => h.all.2 fun j t a b _ => h3 j t a b, fun h3 j t a b => h.all.1 h3 j t a b (by omega)⟩
  have a2 : listZ T l m = 2 ↔ none = true := (listZ_two T l m).trans ⟨fun ⟨j, t, a, b, c⟩ => h.none.2 ⟨j, t, a, b, by omega, c⟩, fun h3 => by
    obtain ⟨j, t, a, b, _, c⟩ := h.none.1 h3
    exact ⟨j, t, a, b, c⟩⟩
  refine ⟨?_, ?_⟩
  · rw [Bool.eq_iff_iff, beq_iff_eq]; exact a1
  · rw [Bool.eq_iff_iff, beq_iff_eq]; exact a2
theorem Gathered.cases {T : Nat → Nat → Int} {l : Nat → Nat} {m k : Nat} {all none : Bool} (h : Gathered T l m m k all none) :
    (listZ T l m = 0 ∧ all = false ∧ none = false) ∨ (listZ T l m = 1 ∧ all = true ∧ none = false) ∨ (listZ T l m = 2 ∧ all = false ∧ none = true) := by
  obtain ⟨h1, h2⟩ := h.end
  rcases listZ_range T l m with h3 | h3 | h3 <;> rw [h3] at h1 h2 <;> simp at h1 h2
  · exact .inl ⟨h3, h1, h2⟩
  · exact .inr (.inl ⟨h3, h1, h2⟩)
  · exact .inr (.inr ⟨h3, h1, h2⟩)
end Go.Proofs.YtpdmgecbapmgdaaGreat
end
section
namespace Go.Proofs.YtpdmgecbapmgdaaGreat
open Go.RowKit
structure SpansOk (x : Shaft) : Prop where
  least : ∀ m, m < 3 → 0 ≤ spanA x m
  up : ∀ m, m < 3 → spanA x m ≤ spanB x m
  most : ∀ m, m < 3 → spanB x m ≤ 9999
theorem ShaftOk.spans {x : Shaft} (h : ShaftOk x) : SpansOk x where
  least := fun m hm => by
    have h3 : m = 0 ∨ m = 1 ∨ m = 2 := by omega
    rcases h3 with rfl | rfl | rfl
    · exact h.s0
    · exact h.l0
    · exact h.w0
  up := fun m hm => by
    have h3 : m = 0 ∨ m = 1 ∨ m = 2 := by omega
    rcases h3 with rfl | rfl | rfl
    · exact h.s1
    · exact h.l1
    · exact h.w1
  most := fun m hm => by
    have h3 : m = 0 ∨ m = 1 ∨ m = 2 := by omega
    rcases h3 with rfl | rfl | rfl
    · exact h.s2
    · exact h.l2
    · exact h.w2
theorem SpansOk.shaft {x : Shaft} (h : SpansOk x) (hn : NameOk x.name) : ShaftOk x :=
  ⟨hn, h.least 0 (by omega), h.up 0 (by omega), h.most 0 (by omega), h.least 1 (by omega), h.up 1 (by omega), h.most 1 (by omega), h.least 2 (by omega), h.up 2 (by omega), h.most 2 (by omega)⟩
theorem StockOk.other {rs rl rw many : Int} {n : Nat} {sh sh' : Nat → Shaft} (h : StockOk rs rl rw many n sh) (hn : ∀ k, k < n → (sh' k).name = (sh k).name) (hs : ∀ k, k < n → SpansOk (sh' k)) : StockOk rs rl rw many n sh' where
  rule := h.rule
  count := h.count
  each := fun k hk => (hs k hk).shaft (by rw [hn k hk]; exact (h.each k hk).name)
  once := fun j k hj hk => by rw [hn j (by omega), hn k hk]; exact h.once j k hj hk
def updSpan (x : Shaft) (m : Nat) (u v : Int) : Shaft := match m with
  | 0 => { x with s0 := u, s1 := v }
  | 1 => { x with l0 := u, l1 := v }
  | _ => { x with w0 := u, w1 := v }
def putSh (sh : Nat → Shaft) (k m : Nat) (u v : Int) : Nat → Shaft := fun j => if j = k then updSpan (sh k) m u v else sh j
theorem updSpan_name (x : Shaft) (m : Nat) (u v : Int) : (updSpan x m u v).name = x.name := by
  unfold updSpan; split <;> rfl
theorem updSpan_A {x : Shaft} {m k : Nat} {u v : Int} (hm : m < 3) (hk : k < 3) : spanA (updSpan x m u v) k = if k = m then u else spanA x k := by
  have h3 : m = 0 ∨ m = 1 ∨ m = 2 := by omega
  have h4 : k = 0 ∨ k = 1 ∨ k = 2 := by omega
  rcases h3 with rfl | rfl | rfl <;> rcases h4 with rfl | rfl | rfl <;> rfl
theorem updSpan_B {x : Shaft} {m k : Nat} {u v : Int} (hm : m < 3) (hk : k < 3) : spanB (updSpan x m u v) k = if k = m then v else spanB x k := by
  have h3 : m = 0 ∨ m = 1 ∨ m = 2 := by omega
  have h4 : k = 0 ∨ k = 1 ∨ k = 2 := by omega
  rcases h3 with rfl | rfl | rfl <;> rcases h4 with rfl | rfl | rfl <;> rfl
theorem putSh_name (sh : Nat → Shaft) (k m : Nat) (u v : Int) (j : Nat) : (putSh sh k m u v j).name = (sh j).name := by
  unfold putSh
  split
  · next h => subst h; exact updSpan_name _ _ _ _
  · rfl
theorem putSh_A {sh : Nat → Shaft} {k m j x : Nat} {u v : Int} (hm : m < 3) (hx : x < 3) : spanA (putSh sh k m u v j) x = if j = k ∧ x = m then u else spanA (sh j) x := by
  unfold putSh
  by_cases h : j = k
  · subst h
    rw [if_pos rfl, updSpan_A hm hx]
    simp
  · rw [if_neg h, if_neg (fun h' => h h'.1)]
theorem putSh_B {sh : Nat → Shaft} {k m j x : Nat} {u v : Int} (hm : m < 3) (hx : x < 3) : spanB (putSh sh k m u v j) x = if j = k ∧ x = m then v else spanB (sh j) x := by
  unfold putSh
  by_cases h : j = k
  · subst h
    rw [if_pos rfl, updSpan_B hm hx]
    simp
  · rw [if_neg h, if_neg (fun h' => h h'.1)]
theorem StockOk.put {rs rl rw many : Int} {n : Nat} {sh : Nat → Shaft} (h : StockOk rs rl rw many n sh) {k m : Nat} {u v : Int} (hm : m < 3) (h0 : 0 ≤ u) (h1 : u ≤ v) (h2 : v ≤ 9999) : StockOk rs rl rw many n (putSh sh k m u v) := by
  refine h.other (fun j _ => putSh_name ..) fun j hj => ?_
  have hs := (h.each j hj).spans
  refine ⟨fun x hx => ?_, fun x hx => ?_, fun x hx => ?_⟩
  · rw [putSh_A hm hx]; split
    · exact h0
    · exact hs.least x hx
  · rw [putSh_A hm hx, putSh_B hm hx]; split
    · exact h1
    · exact hs.up x hx
  · rw [putSh_B hm hx]; split
    · exact h2
    · exact hs.most x hx
section
variable {rs rl rw many : Int} {n m : Nat} {sh : Nat → Shaft} {l : Nat → Nat} {R : Nat → Nat → Int}
end
end Go.Proofs.YtpdmgecbapmgdaaGreat
end
section
namespace Go.Proofs.YtpdmgecbapmgdaaGreat
open Go.RowKit
section
variable {F : Fence} {n : Nat} {P : Program} {ops : Array Oper} {Q : Exit → Act → World → Prop}
def dstAt (ops : Array Oper) (j : Nat) : Option Nat := (ops[j]?).bind (·.dst)
def supB (ops : Array Oper) (sup : Nat → List Nat) : Bool :=
  (List.range ops.size).all fun i => (sup i).all fun d => (List.range ops.size).all fun j => j == i || !(dstAt ops j == some d) || depB ops i j
theorem supB_use {sup : Nat → List Nat} (h : supB ops sup = true) {i j d : Nat} (hi : i < ops.size) (hj : j < ops.size) (hd : d ∈ sup i) (hji : j ≠ i) (e : dstAt ops j = some d) : depB ops i j = true := by
  unfold supB at h
  have h1 := List.all_eq_true.1 h i (List.mem_range.2 hi)
  have h2 := List.all_eq_true.1 h1 d hd
  have h3 := List.all_eq_true.1 h2 j (List.mem_range.2 hj)
  simpa [hji, e] using h3
abbrev vals (a : Act) (l : List Nat) : List Value := l.map fun s => a.eval (.tmp s)
structure RF (ops : Array Oper) (sup : Nat → List Nat) (Ψ : Nat → List Value → World → Prop) (I : World → Prop) (z : Nat) (a0 : Act) (listed : Array Bool) (a : Act) (w : World) : Prop where
  defers : a.defers = []
  size : a.tmps.size = z
  old : ∀ s, (∀ j, j < ops.size → dstAt ops j ≠ some s) → a.eval (.tmp s) = a0.eval (.tmp s)
  inv : I w
  fact : ∀ i, i < ops.size → listed.getD i false = true → Ψ i (vals a (sup i)) w
  closed : ∀ i, i < ops.size → listed.getD i false = true → ∀ j, depB ops i j = true → listed.getD j false = true
structure RFNext (ops : Array Oper) (sup : Nat → List Nat) (Ψ : Nat → List Value → World → Prop) (I : World → Prop) (listed : Array Bool) (j : Nat) (a : Act) (w : World) (a' : Act) (w' : World) : Prop where
  put : ∃ v, a' = a.put (dstAt ops j) v
  inv : I w'
  keep : ∀ i, i < ops.size → i ≠ j → listed.getD i false = true → Ψ i (vals a (sup i)) w → Ψ i (vals a (sup i)) w'
  own : Ψ j (vals a' (sup j)) w'
variable {sup : Nat → List Nat} {Ψ : Nat → List Value → World → Prop} {I : World → Prop} {z : Nat} {a0 : Act}
theorem RF.next (hs : supB ops sup = true) {listed : Array Bool} {a a' : Act} {w w' : World} {j : Nat} (h : RF ops sup Ψ I z a0 listed a w) (hj : j ∈ Region.ready .any ops listed) (hn : RFNext ops sup Ψ I listed j a w a' w') :
    RF ops sup Ψ I z a0 (listed.setIfInBounds j true) a' w' := by
  obtain ⟨v, rfl⟩ := hn.put
  have hjs : j < ops.size := by
    obtain ⟨_, o, h3, _⟩ := mem_ready.1 hj
    exact (Array.getElem?_eq_some_iff.1 h3).1
  refine ⟨by rw [show (a.put (dstAt ops j) v).defers = a.defers by unfold Act.put; split <;> rfl]; exact h.defers, by rw [Act.size_put]; exact h.size, fun s hs' => ?_, hn.inv, fun i hi hl => ?_, fun i hi hl k hk => ?_⟩
  · cases e : dstAt ops j with
    | none => exact h.old s hs'
    | some d =>
      rw [Act.eval_put_ne _ _ _ _ (fun e' => hs' j hjs (by rw [e, e']))]
      exact h.old s hs'
  · by_cases e : i = j
    · subst e; exact hn.own
    · rw [gset (fun e' => e e'.symm)] at hl
      have h1 := hn.keep i hi e hl (h.fact i hi hl)
      have h2 : vals (a.put (dstAt ops j) v) (sup i) = vals a (sup i) := by
        apply List.map_congr_left
        intro d hd
        cases e2 : dstAt ops j with
        | none => rfl
        | some d' =>
          refine Act.eval_put_ne _ _ _ _ fun e3 => ?_
          subst e3
          have h4 := h.closed i hi hl j (supB_use hs hi hjs hd (fun e' => e e'.symm) e2)
          rw [not_yet hj] at h4
          cases h4
      rw [h2]; exact h1
  · by_cases e : i = j
    · subst e
      by_cases e2 : i = k
      · subst e2; exact set_self hj
      · rw [gset e2]; exact dep hj hk
    · rw [gset (fun e' => e e'.symm)] at hl
      have h1 := h.closed i hi hl k hk
      by_cases e2 : j = k
      · subst e2; exact set_self hj
      · rw [gset e2]; exact h1
theorem wpIn_region_F {id : Nat} {w : World} (hm : P.follows .mixedOrders = true) (hb : backB .any ops = true) (hs : supB ops sup = true) (hd : a0.defers = []) (hz : a0.tmps.size = z)
    (h0 : I { w with drawn := w.drawn + 1 })
    (hJ : ∀ listed a w j, RF ops sup Ψ I z a0 listed a w → j ∈ Region.ready .any ops listed → wpOpIn F n P ops Q j (RFNext ops sup Ψ I listed j a w) a w)
    (hE : ∀ listed a w, RF ops sup Ψ I z a0 listed a w → (∀ i, i < ops.size → Ψ i (vals a (sup i)) w) → Q .normal a w) : (Code.region id ops true).wpIn F n P Q a0 w := by
  refine wpIn_region_J (J := RF ops sup Ψ I z a0) hm hb ⟨hd, hz, fun _ _ => rfl, h0, fun i hi hl => ?_, fun i hi hl => ?_⟩ (fun listed a w j hj hr => wpOpIn_mono (fun a' w' h => hj.next hs hr h) (hJ listed a w j hj hr)) fun listed a w hj hall => hE listed a w hj fun i hi => hj.fact i hi (hall i hi)
  · rw [Array.getD_eq_getD_getElem?] at hl; simp [hi] at hl
  · rw [Array.getD_eq_getD_getElem?] at hl; simp [hi] at hl
theorem RFNext.pure {listed : Array Bool} {j d : Nat} {a : Act} {w : World} {v : Value} (hd : dstAt ops j = some d) (hI : I w) (hz : d < a.tmps.size) (hsup : sup j = [d]) (hv : Ψ j [v] w) : RFNext ops sup Ψ I listed j a w (a.put (some d) v) w where
  put := ⟨v, by rw [hd]⟩
  inv := hI
  keep := fun _ _ _ _ h => h
  own := by
    rw [hsup]
    show Ψ j [(a.put (some d) v).eval (.tmp d)] w
    rw [Act.eval_put_same _ _ _ hz]
    exact hv
theorem RFNext.grow {listed : Array Bool} {j d : Nat} {a : Act} {w w' : World} {v : Value} (hg : ∀ i vs, Ψ i vs w → Ψ i vs w') (hd : dstAt ops j = some d) (hI : I w') (hz : d < a.tmps.size) (hsup : sup j = [d]) (hv : Ψ j [v] w') : RFNext ops sup Ψ I listed j a w (a.put (some d) v) w' where
  put := ⟨v, by rw [hd]⟩
  inv := hI
  keep := fun i _ _ _ h => hg i _ h
  own := by
    rw [hsup]
    show Ψ j [(a.put (some d) v).eval (.tmp d)] w'
    rw [Act.eval_put_same _ _ _ hz]
    exact hv
end
end Go.Proofs.YtpdmgecbapmgdaaGreat
end
section
namespace Go.Proofs.YtpdmgecbapmgdaaGreat
open Go.RowKit
abbrev spanV (u v : Int) : Value := .agg #[.int .i64 u, .int .i64 v]
def SaysSpan (u v : Int) (w : World) (e : Ending) (w' : World) : Prop := e = .returned (.agg #[.int .i64 u, .int .i64 v]) ∧ Below w.heap.size w w'
theorem u52 : (match Tryz.prog.underlying 52 with | some (.struct _) => true | _ => false) = true := by kernel_rfl
theorem i52 : (Tryz.prog.info? 52).map (·.size) = some 2 := by kernel_rfl
theorem results_span {fn : Func} {tmps : Array Value} {w : World} {g : Nat} {u v : Int} (h : fn.results = #[.cell 4 52]) (ht : tmps.getD 4 undef = .pointer (some ⟨g, 0, none⟩)) (hb : SpanAt w g u v) : (results fn tmps).run Tryz.prog w = .ok (spanV u v) w := by
  have e := u52
  split at e
  · next fs hu => exact results_cell_row h tmps w g 52 _ (0, 0) (.struct fs) ht hb hu rfl i52
  · cases e
theorem span_new (w : World) (u v : Int) : SpanAt (w.alloc (.cells #[.int .i64 u, .int .i64 v] 52)) w.heap.size u v := by
  unfold SpanAt; exact heap_alloc_new _ _
theorem span_mid (w : World) (A C : Obj) (u v : Int) : SpanAt (((w.alloc A).alloc (.cells #[.int .i64 u, .int .i64 v] 52)).alloc C) (w.heap.size + 1) u v := by
  have h := (span_new (w.alloc A) u v).below ((Below.refl _ _).alloc (Nat.le_refl _) C)
  simpa using h
theorem Measured_any (x : Shaft) (m : Nat) (hm : m < 3) (w : World) : CallsIn Fc 0 Tryz.prog 36 #[shaftV x, .int .i64 m] w (SaysSpan (spanA x m) (spanB x m) w) := by
  have h3 : m = 0 ∨ m = 1 ∨ m = 2 := by omega
  rcases h3 with rfl | rfl | rfl
  all_goals
    gi_enter Tryz.func36, Tryz.ntmps36
    gi_wp2
    refine bodyPost_ret (v := spanV _ _) (results_span rfl rfl (span_mid _ _ _ _ _)) rfl ?_
    exact ⟨rfl, (((Below.refl _ _).alloc (Nat.le_refl _) _).alloc (by simp) _).alloc (by simp; omega) _⟩
def PicksAt (w : World) (A : Option Addr) (n : Nat) (p : Nat → Int) : Prop := ∀ k, k < n → ∃ b o, A = some ⟨b, o, none⟩ ∧ w.cell? ⟨b, o + k, none⟩ = some (.int .u16 (p k)) ∧ 0 ≤ p k ∧ p k ≤ 65535
theorem PicksAt.below {W w : World} (h : Below W.heap.size W w) {A : Option Addr} {n : Nat} {p : Nat → Int} (hx : PicksAt W A n p) : PicksAt w A n p := fun k hk => by
  obtain ⟨b, o, rfl, h1, h2⟩ := hx k hk
  exact ⟨b, o, rfl, Below.old h h1, h2⟩
end Go.Proofs.YtpdmgecbapmgdaaGreat
end
section
namespace Go.Proofs.YtpdmgecbapmgdaaGreat
open Go.RowKit
section
variable {F : Fence} {n : Nat} {P : Program} {ops : Array Oper} {Q : Exit → Act → World → Prop} {I : World → Prop} {z : Nat} {a0 : Act}
theorem wpIn_region_V (V : Nat → Value) {id : Nat} {w : World} (hm : P.follows .mixedOrders = true) (hb : backB .any ops = true) (hs : supB ops (fun j => match dstAt ops j with | some d => [d] | none => []) = true) (hd : a0.defers = []) (hz : a0.tmps.size = z) (hdst : ∀ j, j < ops.size → ∃ d, dstAt ops j = some d ∧ d < z)
    (h0 : I { w with drawn := w.drawn + 1 })
    (hJ : ∀ j a w, j < ops.size → a.defers = [] → a.tmps.size = z → (∀ s, (∀ j, j < ops.size → dstAt ops j ≠ some s) → a.eval (.tmp s) = a0.eval (.tmp s)) → (∀ k d, depB ops j k = true → k < ops.size → dstAt ops k = some d → a.eval (.tmp d) = V k) → I w →
      wpOpIn F n P ops Q j (fun a' w' => ∃ d, dstAt ops j = some d ∧ a'.defers = [] ∧ a'.tmps = a.tmps.setIfInBounds d (V j) ∧ I w') a w)
    (hE : ∀ a w, a.defers = [] → a.tmps.size = z → (∀ s, (∀ j, j < ops.size → dstAt ops j ≠ some s) → a.eval (.tmp s) = a0.eval (.tmp s)) → (∀ k d, k < ops.size → dstAt ops k = some d → a.eval (.tmp d) = V k) → I w → Q .normal a w) : (Code.region id ops true).wpIn F n P Q a0 w := by
  refine wpIn_region_F (sup := fun j => match dstAt ops j with | some d => [d] | none => []) (Ψ := fun j vs _ => vs = [V j]) (I := I) hm hb hs hd hz h0 (fun listed a w j hj hr => ?_) fun listed a w hj hall => ?_
  · have hjs : j < ops.size := by
      obtain ⟨_, o, h3, _⟩ := mem_ready.1 hr
      exact (Array.getElem?_eq_some_iff.1 h3).1
    refine wpOpIn_mono (fun a' w' h => ?_) (hJ j a w hjs hj.defers hj.size hj.old (fun k d hk hks hd => ?_) hj.inv)
    · obtain ⟨d, hd', e1, e2, hI⟩ := h
      obtain ⟨d', e3, hdz⟩ := hdst j hjs
      rw [hd'] at e3
      cases e3
      obtain rfl : a' = a.put (dstAt ops j) (V j) := by
        obtain ⟨t, df⟩ := a'
        simp only at e1 e2
        rw [e1, e2, hd']
        show _ = Act.mk _ _
        rw [hj.defers]
      refine ⟨⟨_, rfl⟩, hI, fun _ _ _ _ h => h, ?_⟩
      simp only [hd', vals, List.map_cons, List.map_nil]
      rw [Act.eval_put_same _ _ _ (by rw [hj.size]; exact hdz)]
    · have h1 := hj.fact k hks (dep hr hk)
      simpa [hd, vals] using h1
  · refine hE a w hj.defers hj.size hj.old (fun k d hk hd' => ?_) hj.inv
    have h1 := hall k hk
    simpa [hd', vals] using h1
end
def oldB (ops : Array Oper) (s : Nat) : Bool := (List.range ops.size).all fun j => !(dstAt ops j == some s)
theorem oldB_use {ops : Array Oper} {s : Nat} (h : oldB ops s = true) : ∀ j, j < ops.size → dstAt ops j ≠ some s := fun j hj e => by
  have h1 := List.all_eq_true.1 h j (List.mem_range.2 hj)
  simp [e] at h1
theorem at_slot {a : Act} {z d : Nat} {V : Value} (hz : a.tmps.size = z) (h : a.eval (.tmp d) = V) (hd : d < z) : a.tmps[d]'(by omega) = V := by
  rw [← h]
  simp [Act.eval, show d < a.tmps.size by omega]
section
variable {F : Fence} {n : Nat} {P : Program} {ops : Array Oper} {Q : Exit → Act → World → Prop} {I : World → Prop} {z : Nat} {a0 : Act}
def dstsB (ops : Array Oper) (D : List Nat) : Bool := decide (D.length = ops.size) && (List.range ops.size).all fun j => dstAt ops j == D[j]?
theorem fold_set (a : Act) : ∀ (l : List (Nat × Value)) (t : Array Value), t.size = a.tmps.size → (∀ x ∈ l, a.eval (.tmp x.1) = x.2) → (∀ s, (∀ x ∈ l, x.1 ≠ s) → t.getD s undef = a.eval (.tmp s)) → l.foldl (fun t x => t.setIfInBounds x.1 x.2) t = a.tmps
  | [], t, hz, _, h => by
    apply Array.ext hz
    intro i h1 h2
    have := h i (fun x hx => by cases hx)
    simpa [Act.eval, h1, h2] using this
  | x :: l, t, hz, hv, h => by
    rw [List.foldl_cons]
    refine fold_set a l _ (by simpa using hz) (fun y hy => hv y (List.mem_cons_of_mem _ hy)) fun s hs => ?_
    by_cases e : x.1 = s
    · subst e
      rw [hv x (List.mem_cons_self ..)]
      have hx := hv x (List.mem_cons_self ..)
      rcases Nat.lt_or_ge x.1 t.size with h1 | h1
      · simp [h1]
      · have h2 : a.eval (.tmp x.1) = undef := by simp [Act.eval, show ¬ x.1 < a.tmps.size by omega]
        rw [← hx, h2]
        simp [show ¬ x.1 < t.size by omega]
    · have h1 := h s fun y hy => by
        rcases List.mem_cons.1 hy with rfl | hy
        · exact e
        · exact hs y hy
      rw [← h1]
      simp [e]
theorem wpIn_region_D (D : List (Nat × Value)) {id : Nat} {w : World} (hm : P.follows .mixedOrders = true) (hb : backB .any ops = true) (hs : supB ops (fun j => match dstAt ops j with | some d => [d] | none => []) = true) (hD : dstsB ops (D.map (·.1)) = true) (hDz : (D.map (·.1)).all (fun d => decide (d < z)) = true) (hd : a0.defers = []) (hz : a0.tmps.size = z)
    (h0 : I { w with drawn := w.drawn + 1 })
    (hJ : ∀ j a w, j < ops.size → a.defers = [] → a.tmps.size = z → (∀ s, oldB ops s = true → a.eval (.tmp s) = a0.eval (.tmp s)) → (∀ k d v, depB ops j k = true → D[k]? = some (d, v) → a.eval (.tmp d) = v) → I w →
      wpOpIn F n P ops Q j (fun a' w' => ∃ d v, D[j]? = some (d, v) ∧ a'.defers = [] ∧ a'.tmps = a.tmps.setIfInBounds d v ∧ I w') a w)
    (hE : ∀ w, I w → Q .normal { tmps := D.foldl (fun t x => t.setIfInBounds x.1 x.2) a0.tmps, defers := [] } w) : (Code.region id ops true).wpIn F n P Q a0 w := by
  unfold dstsB at hD
  simp only [Bool.and_eq_true, decide_eq_true_eq] at hD
  obtain ⟨hlen, hdst⟩ := hD
  rw [List.length_map] at hlen
  have hat : ∀ j, j < ops.size → dstAt ops j = (D[j]?).map (·.1) := fun j hj => by
    have h1 := List.all_eq_true.1 hdst j (List.mem_range.2 hj)
    rw [List.getElem?_map] at h1
    simpa using h1
  have hin : ∀ j, j < ops.size → ∃ d v, D[j]? = some (d, v) ∧ dstAt ops j = some d ∧ d < z := fun j hj => by
    have hj' : j < D.length := by omega
    refine ⟨D[j].1, D[j].2, by simp [hj'], by rw [hat j hj]; simp [hj'], ?_⟩
    exact of_decide_eq_true (List.all_eq_true.1 hDz D[j].1 (List.mem_map.2 ⟨D[j], List.getElem_mem hj', rfl⟩))
  refine wpIn_region_V (V := fun j => ((D[j]?).map (·.2)).getD undef) (I := I) hm hb hs hd hz (fun j hj => by obtain ⟨d, v, _, h1, h2⟩ := hin j hj; exact ⟨d, h1, h2⟩) h0 (fun j a w hj hd hz hold hf hI => ?_) fun a w hd hz' hold hf hI => ?_
  · refine wpOpIn_mono (fun a' w' h => ?_) (hJ j a w hj hd hz (fun s hs => hold s (oldB_use hs)) (fun k d v hk e => ?_) hI)
    · obtain ⟨d, v, e, h1, h2, h3⟩ := h
      obtain ⟨d', v', e', h4, _⟩ := hin j hj
      rw [e] at e'
      cases e'
      exact ⟨d, h4, h1, by rw [h2, e]; rfl, h3⟩
    · have hk' : k < ops.size := by rw [← hlen]; exact (List.getElem?_eq_some_iff.1 e).1
      have := hf k d hk hk' (by rw [hat k hk', e]; rfl)
      rw [this, e]; rfl
  · have e : D.foldl (fun t x => t.setIfInBounds x.1 x.2) a0.tmps = a.tmps := by
      refine fold_set a D a0.tmps (by rw [hz, hz']) (fun x hx => ?_) fun s hs => ?_
      · obtain ⟨j, hj, rfl⟩ := List.mem_iff_getElem.1 hx
        have hj' : j < ops.size := by omega
        have := hf j D[j].1 hj' (by rw [hat j hj']; simp [hj])
        rw [this]; simp [hj]
      · refine (hold s fun j hj e => ?_).symm
        obtain ⟨d, v, e1, e2, _⟩ := hin j hj
        rw [e2] at e
        cases e
        exact hs _ (List.mem_iff_getElem?.2 ⟨j, e1⟩) rfl
    have h1 := hE w hI
    rw [e] at h1
    obtain ⟨t, df⟩ := a
    simp only at hd
    subst hd
    exact h1
end
end Go.Proofs.YtpdmgecbapmgdaaGreat
end
section
namespace Go.Proofs.YtpdmgecbapmgdaaGreat
open Go.RowKit
def HandsStock (rs rl rw many : Int) (n : Nat) (sh : Nat → Shaft) (W : World) (e : Ending) (w' : World) : Prop := ∃ (A : Option Addr) (c : Nat), e = .returned (stockV rs rl rw many A n c) ∧ n ≤ c ∧ ShaftsAt w' A n sh ∧ Below W.heap.size W w'
def shaftCs (x : Shaft) : List Value := [.string x.name, .int .i64 x.s0, .int .i64 x.s1, .int .i64 x.l0, .int .i64 x.l1, .int .i64 x.w0, .int .i64 x.w1]
def shVs (sh : Nat → Shaft) : Nat → List Value
  | 0 => []
  | n + 1 => shVs sh n ++ shaftCs (sh n)
theorem shVs_len (sh : Nat → Shaft) : ∀ n, (shVs sh n).length = n * 7
  | 0 => rfl
  | n + 1 => by simp [shVs, shVs_len sh n, shaftCs]; omega
theorem shVs_get (sh : Nat → Shaft) : ∀ (n k i : Nat), k < n → i < 7 → (shVs sh n)[k * 7 + i]? = (shaftCs (sh k))[i]?
  | 0, k, i, h, _ => absurd h (by omega)
  | n + 1, k, i, h, hi => by
    simp only [shVs]
    by_cases e : k < n
    · rw [List.getElem?_append_left (by rw [shVs_len]; omega)]
      exact shVs_get sh n k i e hi
    · obtain rfl : k = n := by omega
      rw [List.getElem?_append_right (by rw [shVs_len]; omega), shVs_len, show k * 7 + i - k * 7 = i by omega]
theorem shVs_cells {w : World} {b o n : Nat} {sh : Nat → Shaft} (h : ShaftsAt w (some ⟨b, o, none⟩) n sh) : ∀ (j : Nat) (u : Value), (shVs sh n)[j]? = some u → w.cell? (Addr.add ⟨b, o, none⟩ j) = some u := by
  intro j u hj
  have hlen : j < n * 7 := by rw [← shVs_len sh n]; exact (List.getElem?_eq_some_iff.1 hj).1
  obtain ⟨k, i, hi, rfl⟩ : ∃ k i, i < 7 ∧ j = k * 7 + i := ⟨j / 7, j % 7, by omega, by omega⟩
  have hk : k < n := by omega
  rw [shVs_get sh n k i hk hi] at hj
  obtain ⟨b', o', e, hx⟩ := h k hk
  cases e
  have e1 : Addr.add ⟨b, o, none⟩ (k * 7 + i) = ⟨b, o + k * 7 + i, none⟩ := by
    unfold Addr.add
    split
    · next h0 => rw [Addr.mk.injEq]; exact ⟨rfl, by omega, rfl⟩
    · rw [Addr.mk.injEq]; exact ⟨rfl, by simp; omega, rfl⟩
  rw [e1]
  have h7 : i = 0 ∨ i = 1 ∨ i = 2 ∨ i = 3 ∨ i = 4 ∨ i = 5 ∨ i = 6 := by omega
  rcases h7 with rfl | rfl | rfl | rfl | rfl | rfl | rfl <;> (simp [shaftCs] at hj; subst hj)
  · exact hx.h0
  · exact hx.h1
  · exact hx.h2
  · exact hx.h3
  · exact hx.h4
  · exact hx.h5
  · exact hx.h6
theorem shVs_one (sh : Nat → Shaft) : ∀ n, ∀ u ∈ shVs sh n, u.oneCell' = true
  | 0, u, h => by cases h
  | n + 1, u, h => by
    simp only [shVs, List.mem_append] at h
    rcases h with h | h
    · exact shVs_one sh n u h
    · simp only [shaftCs, List.mem_cons, List.not_mem_nil, or_false] at h
      rcases h with rfl | rfl | rfl | rfl | rfl | rfl | rfl <;> rfl
theorem shafts_row {w : World} {g n : Nat} {cur : Array Value} {fz : Nat × Nat} {sh : Nat → Shaft} (hg : w.heap[g]? = some (.cells cur 65 fz)) (ht : cur.toList.take (n * 7) = shVs sh n) : ShaftsAt w (some ⟨g, 0, none⟩) n sh := by
  intro k hk
  have key : ∀ i, i < 7 → w.cell? ⟨g, 0 + k * 7 + i, none⟩ = (shaftCs (sh k))[i]? := by
    intro i hi
    have h1 := shVs_get sh n k i hk hi
    rw [← ht, List.getElem?_take, if_pos (by omega), Array.getElem?_toList] at h1
    simp only [World.cell?, hg, Nat.zero_add]
    exact h1
  exact ⟨g, 0, rfl, key 0 (by omega), key 1 (by omega), key 2 (by omega), key 3 (by omega), key 4 (by omega), key 5 (by omega), key 6 (by omega)⟩
theorem it65 : (Tryz.prog.info? 65).map (fun i => (i.zero, i.size, i.bytes)) = some (some (.agg #[.string .empty, .int .i64 0, .int .i64 0, .int .i64 0, .int .i64 0, .int .i64 0, .int .i64 0]), 7, 64) := by kernel_rfl
theorem ut24 : Tryz.prog.underlying 24 = some (.slice 65) := by kernel_rfl
theorem frozen_no {w : World} {p : Nat} {cs : Array Value} {t : TypeId} (h : w.heap[p]? = some (.cells cs t (0, 0))) : ∀ j, w.frozen? ⟨p, j, none⟩ = false := fun j => by simp [World.frozen?, h]
theorem heap_top (w : World) (o : Obj) {k : Nat} (h : w.heap.size = k) : (w.alloc o).heap[k]? = some o := by
  subst h
  exact heap_new _ _
theorem results_stock {fn : Func} {tmps : Array Value} {w : World} {g : Nat} {a0 a1 a2 a3 a4 : Value} (h : fn.results = #[.cell 8 26]) (ht : tmps.getD 8 undef = .pointer (some ⟨g, 0, none⟩)) (c0 : w.cell? ⟨g, 0, none⟩ = some a0) (c1 : w.cell? ⟨g, 1, none⟩ = some a1) (c2 : w.cell? ⟨g, 2, none⟩ = some a2) (c3 : w.cell? ⟨g, 3, none⟩ = some a3) (c4 : w.cell? ⟨g, 4, none⟩ = some a4) :
    (results fn tmps).run Tryz.prog w = .ok (.agg #[a0, a1, a2, a3, a4]) w := by
  have ht' : tmps[8]?.getD undef = .pointer (some ⟨g, 0, none⟩) := by rw [← ht, Array.getD_eq_getD_getElem?]
  unfold results
  rw [h]
  simp [ht', asAddr]
  go_simp
theorem shaft_get {w : World} {b p : Nat} {x : Shaft} (h : ShaftAt w b p x) : ∀ i, i < 7 → w.cell? ⟨b, p + i, none⟩ = (shaftCs x)[i]? := fun i hi => by
  have h7 : i = 0 ∨ i = 1 ∨ i = 2 ∨ i = 3 ∨ i = 4 ∨ i = 5 ∨ i = 6 := by omega
  rcases h7 with rfl | rfl | rfl | rfl | rfl | rfl | rfl
  · exact h.h0
  · exact h.h1
  · exact h.h2
  · exact h.h3
  · exact h.h4
  · exact h.h5
  · exact h.h6
theorem shaft_of {w : World} {b p : Nat} {x : Shaft} (h : ∀ i, i < 7 → w.cell? ⟨b, p + i, none⟩ = (shaftCs x)[i]?) : ShaftAt w b p x :=
  ⟨h 0 (by omega), h 1 (by omega), h 2 (by omega), h 3 (by omega), h 4 (by omega), h 5 (by omega), h 6 (by omega)⟩
theorem upd_cs (x : Shaft) {m i : Nat} (hm : m < 3) (hi : i < 7) (u v : Int) : (shaftCs (updSpan x m u v))[i]? = if i = 1 + 2 * m then some (.int .i64 u) else if i = 2 + 2 * m then some (.int .i64 v) else (shaftCs x)[i]? := by
  have h3 : m = 0 ∨ m = 1 ∨ m = 2 := by omega
  have h7 : i = 0 ∨ i = 1 ∨ i = 2 ∨ i = 3 ∨ i = 4 ∨ i = 5 ∨ i = 6 := by omega
  rcases h3 with rfl | rfl | rfl <;> rcases h7 with rfl | rfl | rfl | rfl | rfl | rfl | rfl <;> rfl
theorem shafts_put {w : World} {g n k m : Nat} {sh : Nat → Shaft} (h : ShaftsAt w (some ⟨g, 0, none⟩) n sh) (hk : k < n) (hm : m < 3) (u v : Int) :
    ShaftsAt ((w.setCell ⟨g, k * 7 + (1 + 2 * m), none⟩ (.int .i64 u)).setCell ⟨g, k * 7 + (2 + 2 * m), none⟩ (.int .i64 v)) (some ⟨g, 0, none⟩) n (putSh sh k m u v) := by
  intro j hj
  refine ⟨g, 0, rfl, shaft_of fun i hi => ?_⟩
  rw [Nat.zero_add]
  have hc : ∀ t i, t < n → i < 7 → w.cell? ⟨g, t * 7 + i, none⟩ = (shaftCs (sh t))[i]? := fun t i ht hi => by
    obtain ⟨b', o', e, hx⟩ := h t ht
    cases e
    have := shaft_get hx i hi
    rwa [Nat.zero_add] at this
  have h1 := hc k (1 + 2 * m) hk (by omega)
  have h2 := hc k (2 + 2 * m) hk (by omega)
  have s1 : ∃ y, (shaftCs (sh k))[1 + 2 * m]? = some y := ⟨_, List.getElem?_eq_getElem (by simp [shaftCs]; omega)⟩
  have s2 : ∃ y, (shaftCs (sh k))[2 + 2 * m]? = some y := ⟨_, List.getElem?_eq_getElem (by simp [shaftCs]; omega)⟩
  obtain ⟨y1, e1⟩ := s1
  obtain ⟨y2, e2⟩ := s2
  rw [e1] at h1
  rw [e2] at h2
  have ne : (⟨g, k * 7 + (1 + 2 * m), none⟩ : Addr) ≠ ⟨g, k * 7 + (2 + 2 * m), none⟩ := by intro e; simp only [Addr.mk.injEq] at e; omega
  by_cases ej : j = k
  · subst ej
    rw [show putSh sh j m u v j = updSpan (sh j) m u v by simp [putSh], upd_cs _ hm hi]
    by_cases i1 : i = 1 + 2 * m
    · subst i1
      rw [if_pos rfl, World.cell?_setCell_other _ _ _ _ (by intro e; simp only [Addr.mk.injEq] at e; omega), World.cell?_setCell_same _ _ _ h1]
    · rw [if_neg i1]
      by_cases i2 : i = 2 + 2 * m
      · subst i2
        rw [if_pos rfl, World.cell?_setCell_same _ _ _ (by rw [World.cell?_setCell_other _ _ _ _ (by intro e; simp only [Addr.mk.injEq] at e; omega)]; exact h2)]
      · rw [if_neg i2, World.cell?_setCell_other _ _ _ _ (by intro e; simp only [Addr.mk.injEq] at e; omega), World.cell?_setCell_other _ _ _ _ (by intro e; simp only [Addr.mk.injEq] at e; omega)]
        exact hc j i hj hi
  · rw [show putSh sh k m u v j = sh j by simp [putSh, ej], World.cell?_setCell_other _ _ _ _ (by intro e; simp only [Addr.mk.injEq] at e; omega), World.cell?_setCell_other _ _ _ _ (by intro e; simp only [Addr.mk.injEq] at e; omega)]
    exact hc j i hj hi
theorem shafts_far {w : World} {g n p j : Nat} {sh : Nat → Shaft} (h : ShaftsAt w (some ⟨g, 0, none⟩) n sh) (hp : p ≠ g) (x : Value) : ShaftsAt (w.setCell ⟨p, j, none⟩ x) (some ⟨g, 0, none⟩) n sh := by
  intro k hk
  obtain ⟨b', o', e, hx⟩ := h k hk
  cases e
  have ne : ∀ i, (⟨g, i, none⟩ : Addr) ≠ ⟨p, j, none⟩ := fun i e => by simp only [Addr.mk.injEq] at e; exact hp e.1.symm
  refine ⟨g, 0, rfl, shaft_of fun i hi => ?_⟩
  rw [World.cell?_setCell_other _ _ _ _ (by first | exact ne _ | exact (ne _).symm)]
  exact shaft_get hx i hi
structure PutAt (W w : World) (rs rl rw many u v : Int) (b o n c g : Nat) (sh : Nat → Shaft) : Prop where
  hg : W.heap.size + 4 ≤ g
  hb : Below W.heap.size W w
  hz : W.heap.size + 5 ≤ w.heap.size
  row : ShaftsAt w (some ⟨g, 0, none⟩) n sh
  a10 : w.cell? ⟨W.heap.size + 1, 0, none⟩ = some (.int .i64 u)
  a11 : w.cell? ⟨W.heap.size + 1, 1, none⟩ = some (.int .i64 v)
  a20 : w.cell? ⟨W.heap.size + 1 + 1, 0, none⟩ = some (.int .i64 0)
  a21 : w.cell? ⟨W.heap.size + 1 + 1, 1, none⟩ = some (.int .i64 0)
  a22 : w.cell? ⟨W.heap.size + 1 + 1, 2, none⟩ = some (.int .i64 0)
  a23 : w.cell? ⟨W.heap.size + 1 + 1, 3, none⟩ = some (.int .i64 0)
  a24 : w.cell? ⟨W.heap.size + 1 + 1, 4, none⟩ = some (.slice none 0 0)
  a30 : w.cell? ⟨W.heap.size + 1 + 1 + 1, 0, none⟩ = some (.int .i64 rs)
  a31 : w.cell? ⟨W.heap.size + 1 + 1 + 1, 1, none⟩ = some (.int .i64 rl)
  a32 : w.cell? ⟨W.heap.size + 1 + 1 + 1, 2, none⟩ = some (.int .i64 rw)
  a33 : w.cell? ⟨W.heap.size + 1 + 1 + 1, 3, none⟩ = some (.int .i64 many)
  a34 : w.cell? ⟨W.heap.size + 1 + 1 + 1, 4, none⟩ = some (.slice (some ⟨b, o, none⟩) n c)
  z2 : ∀ j, w.frozen? ⟨W.heap.size + 1 + 1, j, none⟩ = false
  z3 : ∀ j, w.frozen? ⟨W.heap.size + 1 + 1 + 1, j, none⟩ = false
  zg : ∀ j, w.frozen? ⟨g, j, none⟩ = false
theorem put_at {W w4 : World} {rs rl rw many u v : Int} {b o n c : Nat} {sh : Nat → Shaft} {v' : Value} {row : Option Nat} (hn : 0 < n) (hr : row = some (W.heap.size + 1 + 1 + 1 + 1)) (hg4 : World.grownBy (((((W.alloc (.cells #[.int .i64 rs, .int .i64 rl, .int .i64 rw, .int .i64 many, .slice (some ⟨b, o, none⟩) n c] 26)).alloc (.cells #[.int .i64 u, .int .i64 v] 52)).alloc (.cells #[.int .i64 0, .int .i64 0, .int .i64 0, .int .i64 0, .slice none 0 0] 26)).alloc (.cells #[.int .i64 rs, .int .i64 rl, .int .i64 rw, .int .i64 many, .slice (some ⟨b, o, none⟩) n c] 26)).alloc (.cells #[] 65)) w4 row) (hown4 : w4.ownsRow (W.heap.size + 4) 65 7 v' (0 + n) ([] ++ shVs sh n)) :
    ∃ g cap, v' = .slice (some ⟨g, 0, none⟩) n cap ∧ n ≤ cap ∧ PutAt W w4 rs rl rw many u v b o n c g sh := by
  subst hr
  have hB5 : Below W.heap.size W (((((W.alloc (.cells #[.int .i64 rs, .int .i64 rl, .int .i64 rw, .int .i64 many, .slice (some ⟨b, o, none⟩) n c] 26)).alloc (.cells #[.int .i64 u, .int .i64 v] 52)).alloc (.cells #[.int .i64 0, .int .i64 0, .int .i64 0, .int .i64 0, .slice none 0 0] 26)).alloc (.cells #[.int .i64 rs, .int .i64 rl, .int .i64 rw, .int .i64 many, .slice (some ⟨b, o, none⟩) n c] 26)).alloc (.cells #[] 65)) := (((((Below.refl _ _).alloc (Nat.le_refl _) _).alloc (by simp) _).alloc (by simp <;> omega) _).alloc (by simp <;> omega) _).alloc (by simp <;> omega) _
  obtain ⟨_, hv4⟩ := hown4
  rcases hv4 with ⟨_, hn0⟩ | ⟨g, cap, cur, rfl, hg0, hgb, hcap, hmx, hcs, htk⟩
  · exact absurd hn0 (by omega)
  rw [Nat.zero_add] at hcap htk ⊢
  have HBX := (Below.refl (W.heap.size + 4) _).grown hg4 (by simp <;> omega) (fun k e => by cases e; omega)
  have y1 : w4.heap[W.heap.size + 1]? = some (.cells #[.int .i64 u, .int .i64 v] 52 (0, 0)) := by rw [HBX.block _ (by omega), heap_alloc_old _ _ (by simp <;> omega), heap_alloc_old _ _ (by simp <;> omega), heap_alloc_old _ _ (by simp), heap_top _ _ (by simp)]
  have y2 : w4.heap[W.heap.size + 1 + 1]? = some (.cells #[.int .i64 0, .int .i64 0, .int .i64 0, .int .i64 0, .slice none 0 0] 26 (0, 0)) := by rw [HBX.block _ (by omega), heap_alloc_old _ _ (by simp <;> omega), heap_alloc_old _ _ (by simp), heap_top _ _ (by simp)]
  have y3 : w4.heap[W.heap.size + 1 + 1 + 1]? = some (.cells #[.int .i64 rs, .int .i64 rl, .int .i64 rw, .int .i64 many, .slice (some ⟨b, o, none⟩) n c] 26 (0, 0)) := by rw [HBX.block _ (by omega), heap_alloc_old _ _ (by simp), heap_top _ _ (by simp)]
  refine ⟨g, cap, rfl, hcap, ?_⟩
  exact {
    hg := hg0
    hb := hB5.grown hg4 (by simp <;> omega) (fun k e => by cases e; omega)
    hz := by have := hg4.size; simp at this; omega
    row := shafts_row hgb (by simpa using htk)
    a10 := by simp [World.cell?, y1]
    a11 := by simp [World.cell?, y1]
    a20 := by simp [World.cell?, y2]
    a21 := by simp [World.cell?, y2]
    a22 := by simp [World.cell?, y2]
    a23 := by simp [World.cell?, y2]
    a24 := by simp [World.cell?, y2]
    a30 := by simp [World.cell?, y3]
    a31 := by simp [World.cell?, y3]
    a32 := by simp [World.cell?, y3]
    a33 := by simp [World.cell?, y3]
    a34 := by simp [World.cell?, y3]
    z2 := frozen_no y2
    z3 := frozen_no y3
    zg := frozen_no hgb }
theorem Put_any (rs rl rw many : Int) (A : Option Addr) (n c k m : Nat) (sh : Nat → Shaft) (u v : Int) (W : World) (hn : n ≤ 9) (hk : k < n) (hc : n ≤ c) (hm : m < 3) (hsh : Hid (ShaftsAt W A n sh)) :
    CallsIn Fc 0 Tryz.prog 38 #[stockV rs rl rw many A n c, .int .i64 k, .int .i64 m, spanV u v] W (HandsStock rs rl rw many n (putSh sh k m u v) W) := by
  obtain ⟨i0, hi0, hz0, hz1, hz2⟩ := info_parts it65
  have HI0 := Lib.hid hi0
  have HZ0 := Lib.hid hz0
  have HZ1 := Lib.hid hz1
  have HZ2 := Lib.hid hz2
  clear hi0 hz0 hz1 hz2
  obtain ⟨b, o, rfl, _⟩ := hsh.out k hk
  have hB5 : ∀ x1 x2 x3 x4 x5, Below W.heap.size W (((((W.alloc x1).alloc x2).alloc x3).alloc x4).alloc x5) := fun x1 x2 x3 x4 x5 => (((((Below.refl _ _).alloc (Nat.le_refl _) x1).alloc (by simp) x2).alloc (by simp; omega) x3).alloc (by simp; omega) x4).alloc (by simp; omega) x5
  have HB5 := Lib.hid hB5
  clear hB5
  have h3 : m = 0 ∨ m = 1 ∨ m = 2 := by omega
  rcases h3 with rfl | rfl | rfl
  all_goals
    gi_enter Tryz.func38, Tryz.ntmps38
    gi_wp2_with
      (gi_at_builtin
       refine wpListIn_append_own _ rfl _ _ 24 rfl (W.heap.size + 4) 65 i0 (.agg #[.string .empty, .int .i64 0, .int .i64 0, .int .i64 0, .int .i64 0, .int .i64 0, .int .i64 0]) 7 64 ut24 HI0.out HZ0.out HZ1.out HZ2.out rfl (by decide) (.slice (some ⟨W.heap.size + 1 + 1 + 1 + 1, 0, none⟩) 0 0) 0 [] rfl ⟨rfl, .inr ⟨W.heap.size + 1 + 1 + 1 + 1, 0, #[], rfl, by omega, heap_top _ _ (by simp), by omega, by simp [maxLen], by simp, by simp⟩⟩ ⟨b, o, none⟩ n c (shVs sh n) rfl (shVs_len sh n) (shVs_cells (hsh.out.below (HB5.out _ _ _ _ _))) (shVs_one sh n) (by simp [maxLen]; omega) (by omega) (by simp) ?_; intro v' w4 hown4 hg4 hnil4
       obtain ⟨g, cap, rfl, hcap, hP⟩ := put_at (by omega) rfl hg4 hown4
       have HP := Lib.hid hP
       obtain ⟨hg0, _, hz5, hrow, a10, a11, a20, a21, a22, a23, a24, a30, a31, a32, a33, a34, z2, z3, zg⟩ := hP
       obtain ⟨g', o', e', x0, x1, x2, x3, x4, x5, x6⟩ := hrow k hk
       cases e'
       rw [Nat.zero_add] at x0 x1 x2 x3 x4 x5 x6
       clear hg4 hnil4 hown4 hrow)
    refine bodyPost_ret (v := stockV rs rl rw many (some ⟨g, 0, none⟩) n cap) (results_stock rfl rfl (by go_simp) (by go_simp) (by go_simp) (by go_simp) (by go_simp)) rfl ?_
    refine ⟨some ⟨g, 0, none⟩, cap, rfl, hcap, ?_, ?_⟩
    · have hne : ∀ p, p < W.heap.size + 4 → p ≠ g := fun p hp e => by omega
      have h1 := shafts_put (shafts_far (j := 4) HP.out.row (hne (W.heap.size + 1 + 1 + 1) (by omega)) (.slice (some ⟨g, 0, none⟩) n cap)) hk hm u v
      have n2 := hne (W.heap.size + 1 + 1) (by omega)
      exact shafts_far (shafts_far (shafts_far (shafts_far (shafts_far h1 n2 _) n2 _) n2 _) n2 _) n2 _
    · have l3 : W.heap.size ≤ W.heap.size + 1 + 1 + 1 := by omega
      have l2 : W.heap.size ≤ W.heap.size + 1 + 1 := by omega
      have lg : W.heap.size ≤ g := by omega
      exact (((((((HP.out.hb.setCell l3 _).setCell lg _).setCell lg _).setCell l2 _).setCell l2 _).setCell l2 _).setCell l2 _).setCell l2 _
end Go.Proofs.YtpdmgecbapmgdaaGreat
end
section
namespace Go.Proofs.YtpdmgecbapmgdaaGreat
open Go.RowKit
def outZ (a b l m : Int) : Int := if l ≤ a ∧ a ≤ b ∧ b ≤ m then 0 else 1
theorem spanLimits1_any (a b l m : Int) (p q r : Nat) (w : World) (hp : w.cell? ⟨p, 0, none⟩ = some (.int .i64 a)) (hp1 : w.cell? ⟨p, 1, none⟩ = some (.int .i64 b)) (hq : w.cell? ⟨q, 0, none⟩ = some (.int .i64 l)) (hr : w.cell? ⟨r, 0, none⟩ = some (.int .i64 m)) :
    CallsIn Fc 0 Tryz.prog 125 #[ptr p, ptr q, ptr r] w (SaysInt (outZ a b l m) w) := by
  unfold outZ
  gi_enter Tryz.func125, Tryz.ntmps125
  by_cases h1 : a < l
  · rw [if_neg (by omega)]
    gi_wp2
    go_ret
    exact ⟨rfl, Below.refl _ _⟩
  · by_cases h2 : a > b
    · rw [if_neg (by omega)]
      gi_wp2
      go_ret
      exact ⟨rfl, Below.refl _ _⟩
    · by_cases h3 : b > m
      · rw [if_neg (by omega)]
        gi_wp2
        go_ret
        exact ⟨rfl, Below.refl _ _⟩
      · rw [if_pos (by omega)]
        gi_wp2
        go_ret
        exact ⟨rfl, Below.refl _ _⟩
def firstZ (F : Nat → Int) : Nat → Int
  | 0 => 0
  | k + 1 => if firstZ F k = 0 then F k else firstZ F k
theorem firstZ_zero {F : Nat → Int} : ∀ {n : Nat}, firstZ F n = 0 ↔ ∀ k, k < n → F k = 0
  | 0 => by simp [firstZ]
  | n + 1 => by
    simp only [firstZ]
    constructor
    · intro h k hk
      split at h
      · next h0 =>
        rcases Nat.lt_succ_iff_lt_or_eq.1 hk with hk | rfl
        · exact firstZ_zero.1 h0 k hk
        · exact h
      · next h0 => exact absurd h h0
    · intro h
      rw [if_pos (firstZ_zero.2 fun k hk => h k (by omega))]
      exact h n (by omega)
theorem firstZ_at {F : Nat → Int} {k : Nat} (hz : ∀ j, j < k → F j = 0) (h0 : F k ≠ 0) : ∀ {n : Nat}, k < n → firstZ F n = F k
  | 0, h => by omega
  | n + 1, h => by
    simp only [firstZ]
    by_cases e : k = n
    · subst e
      rw [if_pos (firstZ_zero.2 hz)]
    · have h1 := firstZ_at hz h0 (n := n) (by omega)
      rw [h1, if_neg h0]
def CheckIs (v : Value) (f : Int) (w : World) : Prop :=
  (∃ (i : Nat) (sv : Value), (i = 96 ∨ i = 97 ∨ i = 98 ∨ i = 56) ∧ v = .func (.func i) #[sv] #[] ∧ ∀ w', Below w.heap.size w w' → CallsIn Fc 0 Tryz.prog i #[sv] w' (SaysInt f w')) ∨
  (∃ p q : Nat, v = .func (.func 123) #[] #[ptr p, ptr q] ∧ ∀ w', Below w.heap.size w w' → CallsIn Fc 0 Tryz.prog 123 #[ptr p, ptr q] w' (SaysInt f w')) ∨
  (∃ p q r : Nat, v = .func (.func 124) #[] #[ptr p, ptr q, ptr r] ∧ ∀ w', Below w.heap.size w w' → CallsIn Fc 0 Tryz.prog 124 #[ptr p, ptr q, ptr r] w' (SaysInt f w')) ∨
  (∃ p q r : Nat, v = .func (.func 125) #[] #[ptr p, ptr q, ptr r] ∧ ∀ w', Below w.heap.size w w' → CallsIn Fc 0 Tryz.prog 125 #[ptr p, ptr q, ptr r] w' (SaysInt f w'))
theorem SaysFair.int {w : World} {e : Ending} {w' : World} (h : SaysFair w e w') : SaysInt 0 w e w' := h
theorem CheckIs.below {v : Value} {f : Int} {w w' : World} (hb : Below w.heap.size w w') (h : CheckIs v f w) : CheckIs v f w' := by
  rcases h with ⟨i, sv, hi, rfl, h⟩ | ⟨p, q, rfl, h⟩ | ⟨p, q, r, rfl, h⟩ | ⟨p, q, r, rfl, h⟩
  · exact .inl ⟨i, sv, hi, rfl, fun w1 h1 => h w1 (hb.trans (h1.mono hb.size))⟩
  · exact .inr (.inl ⟨p, q, rfl, fun w1 h1 => h w1 (hb.trans (h1.mono hb.size))⟩)
  · exact .inr (.inr (.inl ⟨p, q, r, rfl, fun w1 h1 => h w1 (hb.trans (h1.mono hb.size))⟩))
  · exact .inr (.inr (.inr ⟨p, q, r, rfl, fun w1 h1 => h w1 (hb.trans (h1.mono hb.size))⟩))
def SaysFoul (F : Nat → Int) (n : Nat) (w : World) (e : Ending) (w' : World) : Prop := ∃ f : Int, e = .returned (.int .i64 f) ∧ f = firstZ F n ∧ Below w.heap.size w w'
theorem firstFoul_any (b n cap : Nat) (F : Nat → Int) (W : World) (hn : n ≤ 100) (hall : Hid (∀ k, k < n → ∃ v, W.cell? ⟨b, k, none⟩ = some v ∧ CheckIs v (F k) W)) :
    CallsIn Fc 0 Tryz.prog 55 #[.slice (some ⟨b, 0, none⟩) n cap] W (SaysFoul F n W) := by
  gi_enter Tryz.func55, Tryz.ntmps55
  gi_wp2
  gi_loopw [8] (fun i wr => ∃ k : Nat, k ≤ n ∧ i = .int .i64 k ∧ Below W.heap.size W wr ∧ ∀ j, j < k → F j = 0) (fun i _ => n - (intOf i).toNat)
  case atStart => exact ⟨0, Nat.zero_le _, rfl, Below.refl _ _, fun j h => by omega⟩
  case round =>
    obtain ⟨k, hk, rfl, hb, hz⟩ := hrel
    by_cases hlt : k < n
    · obtain ⟨v, hv, hf⟩ := hall.out k hlt
      have hc := Below.old hb hv
      clear hv
      by_cases h0 : F k = 0
      · have hz' : ∀ j, j < k + 1 → F j = 0 := fun j hj => by
          rcases Nat.lt_succ_iff_lt_or_eq.1 hj with h | rfl
          · exact hz j h
          · exact h0
        have HZ := Lib.hid hz'
        clear hz hz'
        rw [h0] at hf
        clear h0
        rcases hf with ⟨i, sv, hi, rfl, hcall⟩ | ⟨p, q, rfl, hcall⟩ | ⟨p, q, r, rfl, hcall⟩ | ⟨p, q, r, rfl, hcall⟩
        · have hcall' := hcall _ hb
          clear hcall
          rcases hi with rfl | rfl | rfl | rfl
          all_goals
            gi_wp2_with (first
              | (gi_at_call 96; refine hcall'.mono ?_; rintro e w' ⟨rfl, hb1⟩)
              | (gi_at_call 97; refine hcall'.mono ?_; rintro e w' ⟨rfl, hb1⟩)
              | (gi_at_call 98; refine hcall'.mono ?_; rintro e w' ⟨rfl, hb1⟩)
              | (gi_at_call 56; refine hcall'.mono ?_; rintro e w' ⟨rfl, hb1⟩))
            go_roundw
            case rel => exact ⟨k + 1, by omega, by go_num, hb.trans (hb1.mono hb.size), HZ.out⟩
            case measure => simp [intOf]; omega
        · have hcall' := hcall _ hb
          clear hcall
          gi_wp2_with (gi_at_call 123; refine hcall'.mono ?_; rintro e w' ⟨rfl, hb1⟩)
          go_roundw
          case rel => exact ⟨k + 1, by omega, by go_num, hb.trans (hb1.mono hb.size), HZ.out⟩
          case measure => simp [intOf]; omega
        · have hcall' := hcall _ hb
          clear hcall
          gi_wp2_with (gi_at_call 124; refine hcall'.mono ?_; rintro e w' ⟨rfl, hb1⟩)
          go_roundw
          case rel => exact ⟨k + 1, by omega, by go_num, hb.trans (hb1.mono hb.size), HZ.out⟩
          case measure => simp [intOf]; omega
        · have hcall' := hcall _ hb
          clear hcall
          gi_wp2_with (gi_at_call 125; refine hcall'.mono ?_; rintro e w' ⟨rfl, hb1⟩)
          go_roundw
          case rel => exact ⟨k + 1, by omega, by go_num, hb.trans (hb1.mono hb.size), HZ.out⟩
          case measure => simp [intOf]; omega
      · have hno : firstZ F n = F k := firstZ_at hz h0 hlt
        have HN := Lib.hid hno
        clear hno hz
        generalize F k = fk at *
        rcases hf with ⟨i, sv, hi, rfl, hcall⟩ | ⟨p, q, rfl, hcall⟩ | ⟨p, q, r, rfl, hcall⟩ | ⟨p, q, r, rfl, hcall⟩
        · have hcall' := hcall _ hb
          clear hcall
          rcases hi with rfl | rfl | rfl | rfl
          all_goals
            gi_wp2_with (first
              | (gi_at_call 96; refine hcall'.mono ?_; rintro e w' ⟨rfl, hb1⟩)
              | (gi_at_call 97; refine hcall'.mono ?_; rintro e w' ⟨rfl, hb1⟩)
              | (gi_at_call 98; refine hcall'.mono ?_; rintro e w' ⟨rfl, hb1⟩)
              | (gi_at_call 56; refine hcall'.mono ?_; rintro e w' ⟨rfl, hb1⟩))
            go_ret
            exact ⟨_, rfl, HN.out.symm, hb.trans (hb1.mono hb.size)⟩
        · have hcall' := hcall _ hb
          clear hcall
          gi_wp2_with (gi_at_call 123; refine hcall'.mono ?_; rintro e w' ⟨rfl, hb1⟩)
          go_ret
          exact ⟨_, rfl, HN.out.symm, hb.trans (hb1.mono hb.size)⟩
        · have hcall' := hcall _ hb
          clear hcall
          gi_wp2_with (gi_at_call 124; refine hcall'.mono ?_; rintro e w' ⟨rfl, hb1⟩)
          go_ret
          exact ⟨_, rfl, HN.out.symm, hb.trans (hb1.mono hb.size)⟩
        · have hcall' := hcall _ hb
          clear hcall
          gi_wp2_with (gi_at_call 125; refine hcall'.mono ?_; rintro e w' ⟨rfl, hb1⟩)
          go_ret
          exact ⟨_, rfl, HN.out.symm, hb.trans (hb1.mono hb.size)⟩
    · gi_wp2
      go_ret
      exact ⟨0, rfl, (firstZ_zero.2 fun j hj => hz j (by omega)).symm, hb⟩
structure OneBox (w : World) (sp ip : Nat) (rs rl rw many : Int) (A : Option Addr) (n c : Nat) (k : Nat) : Prop where
  i : w.cell? ⟨ip, 0, none⟩ = some (.int .i64 k)
  c0 : w.cell? ⟨sp, 0, none⟩ = some (.int .i64 rs)
  c1 : w.cell? ⟨sp, 1, none⟩ = some (.int .i64 rl)
  c2 : w.cell? ⟨sp, 2, none⟩ = some (.int .i64 rw)
  c3 : w.cell? ⟨sp, 3, none⟩ = some (.int .i64 many)
  c4 : w.cell? ⟨sp, 4, none⟩ = some (.slice A n c)
theorem OneBox.below {W w : World} (h : Below W.heap.size W w) {sp ip : Nat} {rs rl rw many : Int} {A : Option Addr} {n c k : Nat} (hx : OneBox W sp ip rs rl rw many A n c k) : OneBox w sp ip rs rl rw many A n c k :=
  ⟨Below.old h hx.i, Below.old h hx.c0, Below.old h hx.c1, Below.old h hx.c2, Below.old h hx.c3, Below.old h hx.c4⟩
theorem hasShaft1_ok (sp ip : Nat) (rs rl rw many : Int) (A : Option Addr) (n c k : Nat) (W : World) (hn : n ≤ 9) (hk : k < n) (hbox : OneBox W sp ip rs rl rw many A n c k) :
    CallsIn Fc 0 Tryz.prog 123 #[ptr sp, ptr ip] W (SaysInt 0 W) := by
  obtain ⟨d, d0, d1, d2, d3, d4⟩ := hbox
  gi_enter Tryz.func123, Tryz.ntmps123
  gi_wp2_with (gi_at_call 100; refine (has_ok _ _ _ _ _ _ _ _ _ (Int.natCast_nonneg _) (Int.ofNat_lt.2 hk) hn).mono ?_; rintro e w' ⟨rfl, hb1⟩)
  go_ret
  exact ⟨rfl, hb1⟩
def HandsHas (rs rl rw many : Int) (A : Option Addr) (n c k : Nat) (w : World) (e : Ending) (w' : World) : Prop :=
  ∃ sp ip : Nat, e = .returned (.func (.func 123) #[] #[ptr sp, ptr ip]) ∧ OneBox w' sp ip rs rl rw many A n c k ∧ Below w.heap.size w w'
theorem hasShaft_any (rs rl rw many : Int) (A : Option Addr) (n c k : Nat) (W : World) :
    CallsIn Fc 0 Tryz.prog 75 #[stockV rs rl rw many A n c, .int .i64 k] W (HandsHas rs rl rw many A n c k W) := by
  gi_enter Tryz.func75, Tryz.ntmps75
  gi_wp2
  go_ret
  exact ⟨_, _, rfl, ⟨by go_simp, by go_simp, by go_simp, by go_simp, by go_simp, by go_simp⟩, ((Below.refl _ _).alloc (Nat.le_refl _) _).alloc (by simp) _⟩
theorem Lim.is {w : World} {v : Value} {n l m : Int} (h : Lim v n l m w) (h1 : l ≤ n) (h2 : n ≤ m) : CheckIs v 0 w := by
  obtain ⟨p, q, r, rfl, hp, hq, hr⟩ := h
  exact .inr (.inr (.inl ⟨p, q, r, rfl, fun w' hb => (limits1_ok n l m p q r w' (Below.old hb hp.cell) (Below.old hb hq.cell) (Below.old hb hr.cell) h1 h2).mono fun _ _ h => h.fair⟩))
theorem Spn.is {w : World} {v : Value} {a b l m : Int} (h : Spn v a b l m w) : CheckIs v (outZ a b l m) w := by
  obtain ⟨p, q, r, rfl, hp, hq, hr⟩ := h
  exact .inr (.inr (.inr ⟨p, q, r, rfl, fun w' hb => spanLimits1_any a b l m p q r w' (Below.old hb hp.cell.1) (Below.old hb hp.cell.2) (Below.old hb hq.cell) (Below.old hb hr.cell)⟩))
theorem OneBox.is {w : World} {sp ip : Nat} {rs rl rw many : Int} {A : Option Addr} {n c k : Nat} (h : OneBox w sp ip rs rl rw many A n c k) (hn : n ≤ 9) (hk : k < n) : CheckIs (.func (.func 123) #[] #[ptr sp, ptr ip]) 0 w :=
  .inr (.inl ⟨sp, ip, rfl, fun w' hb => hasShaft1_ok sp ip rs rl rw many A n c k w' hn hk (h.below hb)⟩)
theorem results_common {fn : Func} {tmps : Array Value} {w : World} {g : Nat} {u v : Int} {t : Value} (h : fn.results = #[.cell 4 52, .tmp 5]) (ht : tmps.getD 4 undef = .pointer (some ⟨g, 0, none⟩)) (h5 : tmps.getD 5 undef = t) (hb : SpanAt w g u v) :
    (results fn tmps).run Tryz.prog w = .ok (.tuple #[spanV u v, t]) w := by
  obtain ⟨c0, c1⟩ := hb.cell
  have ht' : tmps[4]?.getD undef = .pointer (some ⟨g, 0, none⟩) := by rw [← ht, Array.getD_eq_getD_getElem?]
  have h5' : tmps[5]?.getD undef = t := by rw [← h5, Array.getD_eq_getD_getElem?]
  unfold results
  rw [h]
  simp [ht', h5', asAddr]
  go_simp
theorem results_measure {fn : Func} {tmps : Array Value} {w : World} {g : Nat} {a0 a1 a2 a3 a4 t : Value} (h : fn.results = #[.cell 8 26, .tmp 9]) (ht : tmps.getD 8 undef = .pointer (some ⟨g, 0, none⟩)) (h5 : tmps.getD 9 undef = t) (c0 : w.cell? ⟨g, 0, none⟩ = some a0) (c1 : w.cell? ⟨g, 1, none⟩ = some a1) (c2 : w.cell? ⟨g, 2, none⟩ = some a2) (c3 : w.cell? ⟨g, 3, none⟩ = some a3) (c4 : w.cell? ⟨g, 4, none⟩ = some a4) :
    (results fn tmps).run Tryz.prog w = .ok (.tuple #[.agg #[a0, a1, a2, a3, a4], t]) w := by
  have ht' : tmps[8]?.getD undef = .pointer (some ⟨g, 0, none⟩) := by rw [← ht, Array.getD_eq_getD_getElem?]
  have h5' : tmps[9]?.getD undef = t := by rw [← h5, Array.getD_eq_getD_getElem?]
  unfold results
  rw [h]
  simp [ht', h5', asAddr]
  go_simp
theorem span_last (w : World) (A C : Obj) (u v : Int) : SpanAt (((w.alloc A).alloc C).alloc (.cells #[.int .i64 u, .int .i64 v] 52)) (w.heap.size + 1 + 1) u v := by
  have h := span_new ((w.alloc A).alloc C) u v
  simpa using h
def SaysCommon (a b x y : Int) (w : World) (e : Ending) (w' : World) : Prop :=
  Below w.heap.size w w' ∧ ((max a x ≤ min b y ∧ e = .returned (.tuple #[spanV (max a x) (min b y), .bool true])) ∨ (¬ max a x ≤ min b y ∧ e = .returned (.tuple #[spanV 0 0, .bool false])))
theorem common_any (a b x y : Int) (w : World) : CallsIn Fc 0 Tryz.prog 80 #[spanV a b, spanV x y] w (SaysCommon a b x y w) := by
  have e1 : max a x = if a < x then x else a := by rw [Int.max_def]; split <;> split <;> omega
  have e2 : min b y = if y < b then y else b := by rw [Int.min_def]; split <;> split <;> omega
  gi_enter Tryz.func80, Tryz.ntmps80
  by_cases hcm : max a x ≤ min b y
  · have H := Lib.hid hcm
    gi_wp2
    all_goals
      refine bodyPost_ret (v := .tuple #[spanV (max a x) (min b y), .bool true]) (results_common rfl rfl rfl ?_) rfl ?_
      · rw [e1, e2]
        repeat' split
        all_goals first | omega | exact span_last _ _ _ _ _
      · exact ⟨(((Below.refl _ _).alloc (Nat.le_refl _) _).alloc (by simp) _).alloc (by simp; omega) _, .inl ⟨H.out, rfl⟩⟩
  · have H := Lib.hid hcm
    gi_wp2
    all_goals
      refine bodyPost_ret (v := .tuple #[spanV 0 0, .bool false]) (results_common rfl rfl rfl ?_) rfl ?_
      · exact span_last _ _ _ _ _
      · exact ⟨(((Below.refl _ _).alloc (Nat.le_refl _) _).alloc (by simp) _).alloc (by simp; omega) _, .inr ⟨Int.not_le.2 H.out, rfl⟩⟩
end Go.Proofs.YtpdmgecbapmgdaaGreat
end
section
namespace Go.Proofs.YtpdmgecbapmgdaaGreat
open Go.RowKit
def HandsClone (n : Nat) (sh : Nat → Shaft) (W : World) (e : Ending) (w' : World) : Prop :=
  ∃ g cap : Nat, e = .returned (.slice (some ⟨g, 0, none⟩) n cap) ∧ n ≤ cap ∧ W.heap.size ≤ g ∧ (∀ j, w'.frozen? ⟨g, j, none⟩ = false) ∧ ShaftsAt w' (some ⟨g, 0, none⟩) n sh ∧ Below W.heap.size W w'
theorem clone_at {W w4 : World} {n : Nat} {sh : Nat → Shaft} {v' : Value} {row : Option Nat} (hn : 0 < n) (hr : row = some W.heap.size) (hg4 : World.grownBy (W.alloc (.cells #[] 65)) w4 row) (hown4 : w4.ownsRow W.heap.size 65 7 v' (0 + n) ([] ++ shVs sh n)) : HandsClone n sh W (.returned v') w4 := by
  subst hr
  obtain ⟨_, hv4⟩ := hown4
  rcases hv4 with ⟨_, hn0⟩ | ⟨g, cap, cur, rfl, hg0, hgb, hcap, hmx, hcs, htk⟩
  · exact absurd hn0 (by omega)
  rw [Nat.zero_add] at hcap htk ⊢
  exact ⟨g, cap, rfl, hcap, hg0, frozen_no hgb, shafts_row hgb (by simpa using htk), ((Below.refl _ _).alloc (Nat.le_refl _) _).grown hg4 (by simp) (fun k e => by cases e; omega)⟩
theorem Clone_any (b o n c : Nat) (sh : Nat → Shaft) (W : World) (hn : n ≤ 9) (h0 : 0 < n) (hc : n ≤ c) (hsh : Hid (ShaftsAt W (some ⟨b, o, none⟩) n sh)) :
    CallsIn Fc 0 Tryz.prog 79 #[.slice (some ⟨b, o, none⟩) n c] W (HandsClone n sh W) := by
  obtain ⟨i0, hi0, hz0, hz1, hz2⟩ := info_parts it65
  have HI0 := Lib.hid hi0
  have HZ0 := Lib.hid hz0
  have HZ1 := Lib.hid hz1
  have HZ2 := Lib.hid hz2
  clear hi0 hz0 hz1 hz2
  have HB : Hid (∀ x, Below W.heap.size W (W.alloc x)) := Lib.hid fun x => (Below.refl _ _).alloc (Nat.le_refl _) x
  have hnil : ∀ w : World, (binOp .eql 24 (.slice (some ⟨b, o, none⟩) n c) (.slice none 0 0)).run Tryz.prog w = .ok (.bool false) w := fun w => Lib.run_eql_slice_nil w 24 65 _ n c 0 0 ut24
  gi_enter Tryz.func79, Tryz.ntmps79
  gi_wp2_with
    (gi_at_builtin
     refine wpListIn_append_own _ rfl _ _ 24 rfl W.heap.size 65 i0 (.agg #[.string .empty, .int .i64 0, .int .i64 0, .int .i64 0, .int .i64 0, .int .i64 0, .int .i64 0]) 7 64 ut24 HI0.out HZ0.out HZ1.out HZ2.out rfl (by decide) (.slice (some ⟨W.heap.size, 0, none⟩) 0 0) 0 [] rfl ⟨rfl, .inr ⟨W.heap.size, 0, #[], rfl, by omega, heap_top _ _ (by simp), by omega, by simp [maxLen], by simp, by simp⟩⟩ ⟨b, o, none⟩ n c (shVs sh n) rfl (shVs_len sh n) (shVs_cells (hsh.out.below (HB.out _))) (shVs_one sh n) (by simp [maxLen]; omega) (by omega) (by simp) ?_; intro v' w4 hown4 hg4 hnil4
     have hP := clone_at h0 rfl hg4 hown4
     clear hg4 hnil4 hown4)
  go_ret
  exact hP
def dstsIn (ops : Array Oper) (D : List Nat) : Bool := (List.range ops.size).all fun j => match dstAt ops j with | some s => D.contains s | none => true
theorem dstsIn_use {ops : Array Oper} {D : List Nat} (h : dstsIn ops D = true) {j s : Nat} (hj : j < ops.size) (e : dstAt ops j = some s) : s ∈ D := by
  have h1 := List.all_eq_true.1 h j (List.mem_range.2 hj)
  rw [e] at h1
  simpa using h1
theorem RF.act {ops : Array Oper} {sup : Nat → List Nat} {Ψ : Nat → List Value → World → Prop} {I : World → Prop} {z : Nat} {a0 : Act} {listed : Array Bool} {a : Act} {w : World} (h : RF ops sup Ψ I z a0 listed a w) (hz : a0.tmps.size = z) (D : List Nat) (hD : dstsIn ops D = true) :
    a = { tmps := (D.map fun d => (d, a.eval (.tmp d))).foldl (fun t x => t.setIfInBounds x.1 x.2) a0.tmps, defers := [] } := by
  have e := fold_set a (D.map fun d => (d, a.eval (.tmp d))) a0.tmps (by rw [hz, h.size]) (fun x hx => by
      obtain ⟨d, _, rfl⟩ := List.mem_map.1 hx
      rfl) fun s hs => (h.old s fun j hj e => hs _ (List.mem_map.2 ⟨s, dstsIn_use hD hj e, rfl⟩) rfl).symm
  rw [e]
  obtain ⟨t, d⟩ := a
  have := h.defers
  simp only at this
  subst this
  rfl
end Go.Proofs.YtpdmgecbapmgdaaGreat
end
section
namespace Go.Proofs.YtpdmgecbapmgdaaGreat
open Go.RowKit
theorem wpIn_cutR {F : Fence} {n : Nat} {P : Program} {c : Code} {Q : Exit → Act → World → Prop} {M : Act → World → Prop} {a : Act} {w : World} (h1 : c.wpIn F n P (fun e a w => match e with | .normal => M a w | _ => False) a w) (h2 : ∀ a' w', M a' w' → Q .normal a' w') : c.wpIn F n P Q a w := by
  intro b k cs hro hb hr
  obtain ⟨e, a', w', hp, harr⟩ := h1 b k cs hro hb hr
  cases e with
  | normal => exact ⟨.normal, a', w', h2 _ _ hp, harr⟩
  | _ => exact hp.elim
structure Ap where
  one : Nat
  two : Nat
  what : Nat
  sure : Int
section
variable (rs rl rw : Int) (sh : Nat → Shaft) (l : Nat → Nat)
end
section
variable (rs rl rw : Int) (sh : Nat → Shaft) (l : Nat → Nat)
end
end Go.Proofs.YtpdmgecbapmgdaaGreat
end
