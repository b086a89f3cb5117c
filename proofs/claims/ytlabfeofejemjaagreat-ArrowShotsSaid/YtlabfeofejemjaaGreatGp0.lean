/- A part of the proof that ArrowShots returns true for every input: no further condition. -/
import Derived.Test.YtlabfeofejemjaaGreatProg
import Derived.WalkKit
import Derived.WalkSpells
import Derived.WalkLawsBesides
import Derived.OwnWalkIn
import Derived.TacticsInMore
import Derived.RegionIn
import Derived.LoopNIn
import Derived.LoopIn
import Derived.JoinedRecord
import Derived.Lib.Hide
import Derived.Laws.EntriesVeiled
import Derived.Great.Frames
import Derived.Laws.Rows
import Derived.Stop.RegionWithIn
import Derived.Maps.OwnIn
import Derived.Lib.SliceRun
set_option linter.unusedVariables false
set_option maxHeartbeats 2000000
set_option maxRecDepth 100000
section
namespace Go.Proofs.YtlabfeofejemjaaGreat
open Go.RowKit
abbrev Fc : Fence := Fence.list [3,4,5,6,7,9,10,11,12,13,14,15,16,17,18,19,20,21,22,23,24,25,26,27,28,29,30,31,32,33,34,45,46,47,48,49,50,51,52,53,54,55,56,57,58,59,60,61,74,75,76,77,78,79,80,81,82,83,84,85,111,112,113,131] none
def inB (n l h : Int) : Bool := decide (l ≤ n ∧ n ≤ h)
theorem in_any (n l h : Int) (w : World) : CallsIn Fc 0 Tryz.prog 51 #[.int .i64 n, .int .i64 l, .int .i64 h] w fun e w' => e = .returned (.bool (inB n l h)) ∧ w = w' := by
  by_cases h1 : l ≤ n
  · by_cases h2 : n ≤ h
    · gi_enter Tryz.func51, Tryz.ntmps51
      gi_wp2
      go_ret
      exact ⟨by simp [inB, h1, h2], rfl⟩
    · gi_enter Tryz.func51, Tryz.ntmps51
      gi_wp2
      go_ret
      exact ⟨by simp [inB, h1, h2], rfl⟩
  · gi_enter Tryz.func51, Tryz.ntmps51
    gi_wp2
    go_ret
    exact ⟨by simp [inB]; omega, rfl⟩
def insideB (a b l h : Int) : Bool := inB a l h && inB b l h && decide (a ≤ b)
theorem inside_any (a b l h : Int) (w : World) : CallsIn Fc 0 Tryz.prog 52 #[.agg #[.int .i64 a, .int .i64 b], .int .i64 l, .int .i64 h] w fun e w' => e = .returned (.bool (insideB a b l h)) ∧ Below w.heap.size w w' := by
  have hb : Below w.heap.size w (w.alloc (.cells #[.int .i64 a, .int .i64 b] 29)) := (Below.refl _ _).alloc (Nat.le_refl _) _
  cases h1 : inB a l h with
  | false =>
    gi_enter Tryz.func52, Tryz.ntmps52
    gi_wp2_with (gi_at_call 51; refine (in_any _ _ _ _).mono ?_; rintro e w' ⟨rfl, rfl⟩)
    go_ret
    exact ⟨by simp [insideB, h1], hb⟩
  | true =>
    cases h2 : inB b l h with
    | false =>
      gi_enter Tryz.func52, Tryz.ntmps52
      gi_wp2_with (gi_at_call 51; refine (in_any _ _ _ _).mono ?_; rintro e w' ⟨rfl, rfl⟩)
      go_ret
      exact ⟨by simp [insideB, h1, h2], hb⟩
    | true =>
      gi_enter Tryz.func52, Tryz.ntmps52
      gi_wp2_with (gi_at_call 51; refine (in_any _ _ _ _).mono ?_; rintro e w' ⟨rfl, rfl⟩)
      go_ret
      exact ⟨by simp [insideB, h1, h2], hb⟩
theorem heap_new (w : World) (o : Obj) : (w.alloc o).heap[w.heap.size]? = some o := by
  show (w.heap.push o)[w.heap.size]? = some o
  simp
theorem heap_new' {w : World} {o : Obj} {n : Nat} (h : n = w.heap.size) : (w.alloc o).heap[n]? = some o := h ▸ heap_new w o
theorem heap_old {w : World} {o : Obj} {i : Nat} {x : Obj} (h : w.heap[i]? = some x) : (w.alloc o).heap[i]? = some x := by
  show (w.heap.push o)[i]? = some x
  have hi : i < w.heap.size := (Array.getElem?_eq_some_iff.1 h).1
  rw [Array.getElem?_push_lt hi, ← h]; simp [hi]
def IntAt (w : World) (p : Nat) (n : Int) : Prop := w.heap[p]? = some (.cells #[.int .i64 n] 3 (0, 0))
def SpanAt (w : World) (p : Nat) (a b : Int) : Prop := w.heap[p]? = some (.cells #[.int .i64 a, .int .i64 b] 29 (0, 0))
theorem IntAt.cell {w : World} {p : Nat} {n : Int} (h : IntAt w p n) : w.cell? ⟨p, 0, none⟩ = some (.int .i64 n) := by
  unfold IntAt at h; simp [World.cell?, h]
theorem SpanAt.cell {w : World} {p : Nat} {a b : Int} (h : SpanAt w p a b) : w.cell? ⟨p, 0, none⟩ = some (.int .i64 a) ∧ w.cell? ⟨p, 1, none⟩ = some (.int .i64 b) := by
  unfold SpanAt at h; simp [World.cell?, h]
def Lim (v : Value) (n l m : Int) (w : World) : Prop :=
  ∃ p q r : Nat, v = .func (.func 84) #[] #[.pointer (some ⟨p, 0, none⟩), .pointer (some ⟨q, 0, none⟩), .pointer (some ⟨r, 0, none⟩)] ∧ IntAt w p n ∧ IntAt w q l ∧ IntAt w r m
def HandsLimits (n l m : Int) (w : World) (e : Ending) (w' : World) : Prop := ∃ v, e = .returned v ∧ Lim v n l m w' ∧ Below w.heap.size w w'
theorem limits_any (n l m : Int) (w : World) : CallsIn Fc 0 Tryz.prog 60 #[.int .i64 n, .int .i64 l, .int .i64 m] w (HandsLimits n l m w) := by
  gi_enter Tryz.func60, Tryz.ntmps60
  gi_wp2
  go_ret
  exact ⟨_, rfl, ⟨_, _, _, rfl, heap_old (heap_old (heap_new _ _)), heap_old (heap_new' (by simp)), heap_new' (by simp)⟩,
    (((Below.refl _ _).alloc (Nat.le_refl _) _).alloc (by simp) _).alloc (by simp; omega) _⟩
def Spn (v : Value) (a b l m : Int) (w : World) : Prop :=
  ∃ p q r : Nat, v = .func (.func 131) #[] #[.pointer (some ⟨p, 0, none⟩), .pointer (some ⟨q, 0, none⟩), .pointer (some ⟨r, 0, none⟩)] ∧ SpanAt w p a b ∧ IntAt w q l ∧ IntAt w r m
def HandsSpan (a b l m : Int) (w : World) (e : Ending) (w' : World) : Prop := ∃ v, e = .returned v ∧ Spn v a b l m w' ∧ Below w.heap.size w w'
theorem spanLimits_any (a b l m : Int) (w : World) : CallsIn Fc 0 Tryz.prog 111 #[.agg #[.int .i64 a, .int .i64 b], .int .i64 l, .int .i64 m] w (HandsSpan a b l m w) := by
  gi_enter Tryz.func111, Tryz.ntmps111
  gi_wp2
  go_ret
  exact ⟨_, rfl, ⟨_, _, _, rfl, heap_old (heap_old (heap_new _ _)), heap_old (heap_new' (by simp)), heap_new' (by simp)⟩,
    (((Below.refl _ _).alloc (Nat.le_refl _) _).alloc (by simp) _).alloc (by simp; omega) _⟩
abbrev ptr (b : Nat) : Value := .pointer (some ⟨b, 0, none⟩)
theorem Below.old {W w : World} (h : Below W.heap.size W w) {a : Addr} {v : Value} (hc : W.cell? a = some v) : w.cell? a = some v := by
  rw [h.cell (World.block_lt_of_cell? W a hc)]; exact hc
theorem below_grown {w w' : World} (h : Below w.heap.size w w') : w.grownBy w' none := ⟨h.os, h.tape, h.output, h.size, fun k hk _ => h.block k hk⟩
theorem IntAt.lt {w : World} {p : Nat} {n : Int} (h : IntAt w p n) : p < w.heap.size := (Array.getElem?_eq_some_iff.1 h).1
theorem SpanAt.lt {w : World} {p : Nat} {a b : Int} (h : SpanAt w p a b) : p < w.heap.size := (Array.getElem?_eq_some_iff.1 h).1
theorem IntAt.grown {w w' : World} {p : Nat} {n : Int} {row : Option Nat} (h : IntAt w p n) (hg : w.grownBy w' row) (hr : ∀ g, row = some g → ∃ c t fz, w.heap[g]? = some (.cells c t fz) ∧ t ≠ 3) : IntAt w' p n := by
  unfold IntAt at h ⊢
  rw [hg.block p (Array.getElem?_eq_some_iff.1 h).1 (fun e => by
    obtain ⟨c, t, fz, h1, h2⟩ := hr p e.symm
    rw [h] at h1; cases h1; exact h2 rfl)]
  exact h
theorem SpanAt.grown {w w' : World} {p : Nat} {a b : Int} {row : Option Nat} (h : SpanAt w p a b) (hg : w.grownBy w' row) (hr : ∀ g, row = some g → ∃ c t fz, w.heap[g]? = some (.cells c t fz) ∧ t ≠ 29) : SpanAt w' p a b := by
  unfold SpanAt at h ⊢
  rw [hg.block p (Array.getElem?_eq_some_iff.1 h).1 (fun e => by
    obtain ⟨c, t, fz, h1, h2⟩ := hr p e.symm
    rw [h] at h1; cases h1; exact h2 rfl)]
  exact h
theorem own_elem {w : World} {base size n : Nat} {e : TypeId} {v : Value} {xs : List Value} (h : w.ownsRow base e size v n xs) : ∀ g, v.ownBlock = some g → ∃ c t fz, w.heap[g]? = some (.cells c t fz) ∧ t = e := by
  rcases h.2 with ⟨rfl, _⟩ | ⟨g, cap, cur, rfl, _, hg, _⟩
  · intro g hg; cases hg
  · intro g' hg'; cases hg'; exact ⟨_, _, _, hg, rfl⟩
theorem Lim.grown {w w' : World} {v : Value} {n l m : Int} {row : Option Nat} (h : Lim v n l m w) (hg : w.grownBy w' row) (hr : ∀ g, row = some g → ∃ c t fz, w.heap[g]? = some (.cells c t fz) ∧ t = 92) : Lim v n l m w' := by
  obtain ⟨p, q, r, rfl, h1, h2, h3⟩ := h
  have hr' : ∀ g, row = some g → ∃ c t fz, w.heap[g]? = some (.cells c t fz) ∧ t ≠ 3 := fun g e => by
    obtain ⟨c, t, fz, a, rfl⟩ := hr g e
    exact ⟨c, _, fz, a, by decide⟩
  exact ⟨p, q, r, rfl, h1.grown hg hr', h2.grown hg hr', h3.grown hg hr'⟩
theorem Spn.grown {w w' : World} {v : Value} {a b l m : Int} {row : Option Nat} (h : Spn v a b l m w) (hg : w.grownBy w' row) (hr : ∀ g, row = some g → ∃ c t fz, w.heap[g]? = some (.cells c t fz) ∧ t = 92) : Spn v a b l m w' := by
  obtain ⟨p, q, r, rfl, h1, h2, h3⟩ := h
  have hr' : ∀ t', t' ≠ 92 → ∀ g, row = some g → ∃ c t fz, w.heap[g]? = some (.cells c t fz) ∧ t ≠ t' := fun t' ht g e => by
    obtain ⟨c, t, fz, a, rfl⟩ := hr g e
    exact ⟨c, _, fz, a, fun e => ht e.symm⟩
  exact ⟨p, q, r, rfl, h1.grown hg (hr' 29 (by decide)), h2.grown hg (hr' 3 (by decide)), h3.grown hg (hr' 3 (by decide))⟩
theorem own_below {w w' : World} {base size n : Nat} {e : TypeId} {v : Value} {xs : List Value} (h : w.ownsRow base e size v n xs) (hb : Below w.heap.size w w') : w'.ownsRow base e size v n xs :=
  h.kept (below_grown hb) (by cases v.ownBlock <;> simp)
theorem Lim.below {w w' : World} {v : Value} {n l m : Int} (h : Lim v n l m w) (hb : Below w.heap.size w w') : Lim v n l m w' := h.grown (below_grown hb) (fun g e => by cases e)
theorem Lim.alloc {w : World} {v : Value} {n l m : Int} (h : Lim v n l m w) (o : Obj) : Lim v n l m (w.alloc o) := h.below ((Below.refl _ _).alloc (Nat.le_refl _) o)
theorem Spn.below {w w' : World} {v : Value} {a b l m : Int} (h : Spn v a b l m w) (hb : Below w.heap.size w w') : Spn v a b l m w' := h.grown (below_grown hb) (fun g e => by cases e)
theorem Spn.alloc {w : World} {v : Value} {a b l m : Int} (h : Spn v a b l m w) (o : Obj) : Spn v a b l m (w.alloc o) := h.below ((Below.refl _ _).alloc (Nat.le_refl _) o)
def SaysInt (n : Int) (w : World) (e : Ending) (w' : World) : Prop := e = .returned (.int .i64 n) ∧ Below w.heap.size w w'
def IntsAt (w : World) (A : Option Addr) (m : Nat) (l : Nat → Int) : Prop := ∀ k, k < m → ∃ b o, A = some ⟨b, o, none⟩ ∧ w.cell? ⟨b, o + k, none⟩ = some (.int .i64 (l k))
theorem IntsAt.below {W w : World} (h : Below W.heap.size W w) {A : Option Addr} {n : Nat} {l : Nat → Int} (hx : IntsAt W A n l) : IntsAt w A n l := fun k hk => by
  obtain ⟨b, o, rfl, h1⟩ := hx k hk
  exact ⟨b, o, rfl, Below.old h h1⟩
theorem u30 : Tryz.prog.underlying 36 = some (.slice 3) := by kernel_rfl
theorem i3 : (Tryz.prog.info? 3).map (fun i => (i.zero, i.size, i.bytes)) = some (some (.int .i64 0), 1, 8) := by kernel_rfl
abbrev intV (k : Nat) : Value := .int .i64 (k : Int)
theorem ints_own {w : World} {base : Nat} {sl : Value} {xs : List Nat} (h : w.ownsRow base 3 1 sl xs.length (xs.map intV)) : ∃ LA lc, sl = .slice LA xs.length lc ∧ xs.length ≤ lc ∧ IntsAt w LA xs.length (fun k => ((xs.getD k 0 : Nat) : Int)) := by
  rcases h.2 with ⟨rfl, h0⟩ | ⟨g, cap, cur, rfl, _, hg, hcap, _⟩
  · rw [h0]
    exact ⟨none, 0, rfl, Nat.le_refl _, fun k hk => by omega⟩
  · refine ⟨_, _, rfl, hcap, fun k hk => ⟨g, 0, rfl, ?_⟩⟩
    rw [Nat.zero_add, h.cellAt k (by omega), List.getElem?_map, List.getElem?_eq_getElem hk]
    simp [List.getD_eq_getElem?_getD, List.getElem?_eq_getElem hk]
theorem heap_top (w : World) (o : Obj) {k : Nat} (h : w.heap.size = k) : (w.alloc o).heap[k]? = some o := by
  subst h
  exact heap_new _ _
section
variable {F : Fence} {n : Nat} {P : Program} {ops : Array Oper} {Q : Exit → Act → World → Prop} {md : Region.Mode}
def backB (md : Region.Mode) (ops : Array Oper) : Bool := ops.toList.zipIdx.all fun (o, i) => o.after.toList.all fun e => !Region.binds md e || decide (e.on < i)
theorem ready_nil (hb : backB md ops = true) {listed : Array Bool} (hr : Region.ready md ops listed = []) : ∀ i, i < ops.size → listed.getD i true = true := by
  intro i
  induction i using Nat.strongRecOn with
  | _ i ih =>
    intro hi
    cases hl : listed.getD i true with
    | true => rfl
    | false =>
      exfalso
      have : i ∈ Region.ready md ops listed := by
        refine mem_ready.2 ⟨hl, ops[i], by simp [hi], fun e he hbe => ?_⟩
        have h1 := List.all_eq_true.1 hb (ops[i], i) (by rw [List.mem_zipIdx_iff_getElem?]; simp [hi])
        have h2 := List.all_eq_true.1 h1 e (by simpa using he)
        simp only [hbe, Bool.not_true, Bool.false_or, decide_eq_true_eq] at h2
        have h3 := ih e.on h2 (by omega)
        have hsz : i < listed.size := by
          rcases Nat.lt_or_ge i listed.size with h | h
          · exact h
          · rw [Array.getD_eq_getD_getElem?, Array.getElem?_eq_none h] at hl; simp at hl
        rw [Array.getD_eq_getD_getElem?] at h3 ⊢
        rw [Array.getElem?_eq_getElem (by omega)] at h3 ⊢
        simpa using h3
      rw [hr] at this
      cases this
theorem wpAnyIn_J (hb : backB md ops = true) {J : Array Bool → Act → World → Prop}
    (hJ : ∀ listed a w i, J listed a w → i ∈ Region.ready md ops listed → wpOpIn F n P ops Q i (J (listed.setIfInBounds i true)) a w)
    (hE : ∀ listed a w, J listed a w → (∀ i, i < ops.size → listed.getD i false = true) → Q .normal a w) :
    ∀ (fuel : Nat) (listed : Array Bool) (a : Act) (w : World) (u : List Nat), listed.size = ops.size → J listed a w → u.length ≤ fuel → (∀ i, i < ops.size → listed.getD i true = false → i ∈ u) → wpAnyIn F n P md ops Q fuel listed a w := by
  have conv : ∀ listed : Array Bool, listed.size = ops.size → (∀ i, i < ops.size → listed.getD i true = true) → ∀ i, i < ops.size → listed.getD i false = true := by
    intro listed hs h i hi
    have := h i hi
    rw [Array.getD_eq_getD_getElem?] at this ⊢
    rw [Array.getElem?_eq_getElem (by omega)] at this ⊢
    simpa using this
  intro fuel
  induction fuel with
  | zero =>
    intro listed a w u hs hj hu hc
    have hall : ∀ i, i < ops.size → listed.getD i true = true := fun i hi => by
      cases h : listed.getD i true with
      | true => rfl
      | false => have := hc i hi h; have := List.length_pos_of_mem this; omega
    refine ⟨?_, hE _ _ _ hj (conv _ hs hall)⟩
    cases hr : Region.ready md ops listed with
    | nil => rfl
    | cons i l =>
      have h1 := mem_ready.1 (hr ▸ List.mem_cons_self .. : i ∈ Region.ready md ops listed)
      obtain ⟨h2, o, h3, _⟩ := h1
      rw [hall i (Array.getElem?_eq_some_iff.1 h3).1] at h2
      cases h2
  | succ fuel ih =>
    intro listed a w u hs hj hu hc
    refine ⟨fun hr => hE _ _ _ hj (conv _ hs (ready_nil hb hr)), fun i hi => ?_⟩
    have h1 := mem_ready.1 hi
    obtain ⟨h2, o, h3, _⟩ := h1
    have hlt := (Array.getElem?_eq_some_iff.1 h3).1
    have hm := hc i hlt h2
    refine wpOpIn_mono (fun a' w' hj' => ih _ _ _ (u.erase i) (by simpa using hs) hj' ?_ fun k hk hlk => ?_) (hJ _ _ _ _ hj hi)
    · rw [List.length_erase_of_mem hm]; omega
    · by_cases e : i = k
      · subst e
        have hsz : i < listed.size := by
          rcases Nat.lt_or_ge i listed.size with h | h
          · exact h
          · rw [Array.getD_eq_getD_getElem?, Array.getElem?_eq_none h] at h2; simp at h2
        rw [Array.getD_eq_getD_getElem?] at hlk
        simp [hsz] at hlk
      · rw [getD_set_ne _ e] at hlk
        exact (List.mem_erase_of_ne (fun h => e h.symm)).2 (hc k hk hlk)
theorem wpIn_region_J {id : Nat} {a : Act} {w : World} (hm : P.follows .mixedOrders = true) (hb : backB .any ops = true) {J : Array Bool → Act → World → Prop}
    (h0 : J (Array.replicate ops.size false) a { w with drawn := w.drawn + 1 })
    (hJ : ∀ listed a w i, J listed a w → i ∈ Region.ready .any ops listed → wpOpIn F n P ops Q i (J (listed.setIfInBounds i true)) a w)
    (hE : ∀ listed a w, J listed a w → (∀ i, i < ops.size → listed.getD i false = true) → Q .normal a w) : (Code.region id ops true).wpIn F n P Q a w :=
  wpIn_region_any hm (wpAnyIn_J hb hJ hE ops.size _ _ _ (List.range ops.size) (by simp) h0 (by simp) fun i hi _ => List.mem_range.2 hi)
end
def depB (ops : Array Oper) (i j : Nat) : Bool := match ops[i]? with
  | some o => o.after.toList.any fun e => e.on == j && Region.binds .any e
  | none => false
theorem dep {ops : Array Oper} {listed : Array Bool} {i j : Nat} (hi : i ∈ Region.ready .any ops listed) (hB : depB ops i j = true) : listed.getD j false = true := by
  obtain ⟨_, o, h2, h3⟩ := mem_ready.1 hi
  unfold depB at hB
  rw [h2] at hB
  obtain ⟨e, he, hb⟩ := List.any_eq_true.1 hB
  simp only [Bool.and_eq_true, beq_iff_eq] at hb
  rw [← hb.1]
  exact h3 e (by simpa using he) hb.2
theorem gset {l : Array Bool} {i j : Nat} (h : i ≠ j) : (l.setIfInBounds i true).getD j false = l.getD j false := getD_set_ne false h
theorem in_size {ops : Array Oper} {listed : Array Bool} {i : Nat} (hi : i ∈ Region.ready .any ops listed) : i < listed.size := by
  have h := (mem_ready.1 hi).1
  rcases Nat.lt_or_ge i listed.size with h' | h'
  · exact h'
  · rw [Array.getD_eq_getD_getElem?, Array.getElem?_eq_none h'] at h; simp at h
theorem not_yet {ops : Array Oper} {listed : Array Bool} {i : Nat} (hi : i ∈ Region.ready .any ops listed) : listed.getD i false = false := by
  have h := (mem_ready.1 hi).1
  have hs := in_size hi
  rw [Array.getD_eq_getD_getElem?] at h ⊢
  simp [hs] at h ⊢
  exact h
theorem set_self {ops : Array Oper} {listed : Array Bool} {i : Nat} (hi : i ∈ Region.ready .any ops listed) : (listed.setIfInBounds i true).getD i false = true := by
  have hs := in_size hi
  rw [Array.getD_eq_getD_getElem?]
  simp [hs]
theorem SpanAt.frozen {w : World} {p : Nat} {a b : Int} (h : SpanAt w p a b) (j : Nat) : w.frozen? ⟨p, j, none⟩ = false := by
  unfold SpanAt at h; simp [World.frozen?, h]
theorem SpanAt.set {w : World} {p : Nat} {a b : Int} (h : SpanAt w p a b) (x y : Int) : SpanAt ((w.setCell ⟨p, 0, none⟩ (.int .i64 x)).setCell ⟨p, 1, none⟩ (.int .i64 y)) p x y := by
  unfold SpanAt at h ⊢
  simp [World.setCell, Array.getElem?_modify, h]
theorem SpanAt.far {w : World} {p q : Nat} {a b : Int} (h : SpanAt w p a b) (hne : q ≠ p) (j : Nat) (x : Value) : SpanAt (w.setCell ⟨q, j, none⟩ x) p a b := by
  unfold SpanAt at h ⊢
  simp [World.setCell, Array.getElem?_modify, hne, h]
theorem SpanAt.below {w w' : World} {p : Nat} {a b : Int} (h : SpanAt w p a b) (hb : Below w.heap.size w w') : SpanAt w' p a b := h.grown (below_grown hb) (fun g e => by cases e)
section
variable {F : Fence} {n : Nat} {P : Program} {ops : Array Oper} {Q : Exit → Act → World → Prop}
def dstAt (ops : Array Oper) (j : Nat) : Option Nat := (ops[j]?).bind (·.dst)
def supB (ops : Array Oper) (sup : Nat → List Nat) : Bool :=
  (List.range ops.size).all fun i => (sup i).all fun d => (List.range ops.size).all fun j => j == i || !(dstAt ops j == some d) || depB ops i j
theorem supB_use {sup : Nat → List Nat} (h : supB ops sup = true) {i j d : Nat} (hi : i < ops.size) (hj : j < ops.size) (hd : d ∈ sup i) (hji : j ≠ i) (e : dstAt ops j = some d) : depB ops i j = true := by
  unfold supB at h
  have h1 := List.all_eq_true.1 h i (List.mem_range.2 hi)
  have h2 := List.all_eq_true.1 h1 d hd
  have h3 := List.all_eq_true.1 h2 j (List.mem_range.2 hj)
  simpa [hji, e] using h3
abbrev vals (a : Act) (l : List Nat) : List Value := l.map fun s => a.eval (.tmp s)
structure RF (ops : Array Oper) (sup : Nat → List Nat) (Ψ : Nat → List Value → World → Prop) (I : World → Prop) (z : Nat) (a0 : Act) (listed : Array Bool) (a : Act) (w : World) : Prop where
  defers : a.defers = []
  size : a.tmps.size = z
  old : ∀ s, (∀ j, j < ops.size → dstAt ops j ≠ some s) → a.eval (.tmp s) = a0.eval (.tmp s)
  inv : I w
  fact : ∀ i, i < ops.size → listed.getD i false = true → Ψ i (vals a (sup i)) w
  closed : ∀ i, i < ops.size → listed.getD i false = true → ∀ j, depB ops i j = true → listed.getD j false = true
structure RFNext (ops : Array Oper) (sup : Nat → List Nat) (Ψ : Nat → List Value → World → Prop) (I : World → Prop) (listed : Array Bool) (j : Nat) (a : Act) (w : World) (a' : Act) (w' : World) : Prop where
  put : ∃ v, a' = a.put (dstAt ops j) v
  inv : I w'
  keep : ∀ i, i < ops.size → i ≠ j → listed.getD i false = true → Ψ i (vals a (sup i)) w → Ψ i (vals a (sup i)) w'
  own : Ψ j (vals a' (sup j)) w'
variable {sup : Nat → List Nat} {Ψ : Nat → List Value → World → Prop} {I : World → Prop} {z : Nat} {a0 : Act}
theorem RF.next (hs : supB ops sup = true) {listed : Array Bool} {a a' : Act} {w w' : World} {j : Nat} (h : RF ops sup Ψ I z a0 listed a w) (hj : j ∈ Region.ready .any ops listed) (hn : RFNext ops sup Ψ I listed j a w a' w') :
    RF ops sup Ψ I z a0 (listed.setIfInBounds j true) a' w' := by
  obtain ⟨v, rfl⟩ := hn.put
  have hjs : j < ops.size := by
    obtain ⟨_, o, h3, _⟩ := mem_ready.1 hj
    exact (Array.getElem?_eq_some_iff.1 h3).1
  refine ⟨by rw [show (a.put (dstAt ops j) v).defers = a.defers by unfold Act.put; split <;> rfl]; exact h.defers, by rw [Act.size_put]; exact h.size, fun s hs' => ?_, hn.inv, fun i hi hl => ?_, fun i hi hl k hk => ?_⟩
  · cases e : dstAt ops j with
    | none => exact h.old s hs'
    | some d =>
      rw [Act.eval_put_ne _ _ _ _ (fun e' => hs' j hjs (by rw [e, e']))]
      exact h.old s hs'
  · by_cases e : i = j
    · subst e; exact hn.own
    · rw [gset (fun e' => e e'.symm)] at hl
      have h1 := hn.keep i hi e hl (h.fact i hi hl)
      have h2 : vals (a.put (dstAt ops j) v) (sup i) = vals a (sup i) := by
        apply List.map_congr_left
        intro d hd
        cases e2 : dstAt ops j with
        | none => rfl
        | some d' =>
          refine Act.eval_put_ne _ _ _ _ fun e3 => ?_
          subst e3
          have h4 := h.closed i hi hl j (supB_use hs hi hjs hd (fun e' => e e'.symm) e2)
          rw [not_yet hj] at h4
          cases h4
      rw [h2]; exact h1
  · by_cases e : i = j
    · subst e
      by_cases e2 : i = k
      · subst e2; exact set_self hj
      · rw [gset e2]; exact dep hj hk
    · rw [gset (fun e' => e e'.symm)] at hl
      have h1 := h.closed i hi hl k hk
      by_cases e2 : j = k
      · subst e2; exact set_self hj
      · rw [gset e2]; exact h1
theorem wpIn_region_F {id : Nat} {w : World} (hm : P.follows .mixedOrders = true) (hb : backB .any ops = true) (hs : supB ops sup = true) (hd : a0.defers = []) (hz : a0.tmps.size = z)
    (h0 : I { w with drawn := w.drawn + 1 })
    (hJ : ∀ listed a w j, RF ops sup Ψ I z a0 listed a w → j ∈ Region.ready .any ops listed → wpOpIn F n P ops Q j (RFNext ops sup Ψ I listed j a w) a w)
    (hE : ∀ listed a w, RF ops sup Ψ I z a0 listed a w → (∀ i, i < ops.size → Ψ i (vals a (sup i)) w) → Q .normal a w) : (Code.region id ops true).wpIn F n P Q a0 w := by
  refine wpIn_region_J (J := RF ops sup Ψ I z a0) hm hb ⟨hd, hz, fun _ _ => rfl, h0, fun i hi hl => ?_, fun i hi hl => ?_⟩ (fun listed a w j hj hr => wpOpIn_mono (fun a' w' h => hj.next hs hr h) (hJ listed a w j hj hr)) fun listed a w hj hall => hE listed a w hj fun i hi => hj.fact i hi (hall i hi)
  · rw [Array.getD_eq_getD_getElem?] at hl; simp [hi] at hl
  · rw [Array.getD_eq_getD_getElem?] at hl; simp [hi] at hl
theorem RFNext.pure {listed : Array Bool} {j d : Nat} {a : Act} {w : World} {v : Value} (hd : dstAt ops j = some d) (hI : I w) (hz : d < a.tmps.size) (hsup : sup j = [d]) (hv : Ψ j [v] w) : RFNext ops sup Ψ I listed j a w (a.put (some d) v) w where
  put := ⟨v, by rw [hd]⟩
  inv := hI
  keep := fun _ _ _ _ h => h
  own := by
    rw [hsup]
    show Ψ j [(a.put (some d) v).eval (.tmp d)] w
    rw [Act.eval_put_same _ _ _ hz]
    exact hv
theorem RFNext.grow {listed : Array Bool} {j d : Nat} {a : Act} {w w' : World} {v : Value} (hg : ∀ i vs, Ψ i vs w → Ψ i vs w') (hd : dstAt ops j = some d) (hI : I w') (hz : d < a.tmps.size) (hsup : sup j = [d]) (hv : Ψ j [v] w') : RFNext ops sup Ψ I listed j a w (a.put (some d) v) w' where
  put := ⟨v, by rw [hd]⟩
  inv := hI
  keep := fun i _ _ _ h => hg i _ h
  own := by
    rw [hsup]
    show Ψ j [(a.put (some d) v).eval (.tmp d)] w'
    rw [Act.eval_put_same _ _ _ hz]
    exact hv
end
section
variable {F : Fence} {n : Nat} {P : Program} {ops : Array Oper} {Q : Exit → Act → World → Prop} {I : World → Prop} {z : Nat} {a0 : Act}
theorem wpIn_region_V (V : Nat → Value) {id : Nat} {w : World} (hm : P.follows .mixedOrders = true) (hb : backB .any ops = true) (hs : supB ops (fun j => match dstAt ops j with | some d => [d] | none => []) = true) (hd : a0.defers = []) (hz : a0.tmps.size = z) (hdst : ∀ j, j < ops.size → ∃ d, dstAt ops j = some d ∧ d < z)
    (h0 : I { w with drawn := w.drawn + 1 })
    (hJ : ∀ j a w, j < ops.size → a.defers = [] → a.tmps.size = z → (∀ s, (∀ j, j < ops.size → dstAt ops j ≠ some s) → a.eval (.tmp s) = a0.eval (.tmp s)) → (∀ k d, depB ops j k = true → k < ops.size → dstAt ops k = some d → a.eval (.tmp d) = V k) → I w →
      wpOpIn F n P ops Q j (fun a' w' => ∃ d, dstAt ops j = some d ∧ a'.defers = [] ∧ a'.tmps = a.tmps.setIfInBounds d (V j) ∧ I w') a w)
    (hE : ∀ a w, a.defers = [] → a.tmps.size = z → (∀ s, (∀ j, j < ops.size → dstAt ops j ≠ some s) → a.eval (.tmp s) = a0.eval (.tmp s)) → (∀ k d, k < ops.size → dstAt ops k = some d → a.eval (.tmp d) = V k) → I w → Q .normal a w) : (Code.region id ops true).wpIn F n P Q a0 w := by
  refine wpIn_region_F (sup := fun j => match dstAt ops j with | some d => [d] | none => []) (Ψ := fun j vs _ => vs = [V j]) (I := I) hm hb hs hd hz h0 (fun listed a w j hj hr => ?_) fun listed a w hj hall => ?_
  · have hjs : j < ops.size := by
      obtain ⟨_, o, h3, _⟩ := mem_ready.1 hr
      exact (Array.getElem?_eq_some_iff.1 h3).1
    refine wpOpIn_mono (fun a' w' h => ?_) (hJ j a w hjs hj.defers hj.size hj.old (fun k d hk hks hd => ?_) hj.inv)
    · obtain ⟨d, hd', e1, e2, hI⟩ := h
      obtain ⟨d', e3, hdz⟩ := hdst j hjs
      rw [hd'] at e3
      cases e3
      obtain rfl : a' = a.put (dstAt ops j) (V j) := by
        obtain ⟨t, df⟩ := a'
        simp only at e1 e2
        rw [e1, e2, hd']
        show _ = Act.mk _ _
        rw [hj.defers]
      refine ⟨⟨_, rfl⟩, hI, fun _ _ _ _ h => h, ?_⟩
      simp only [hd', vals, List.map_cons, List.map_nil]
      rw [Act.eval_put_same _ _ _ (by rw [hj.size]; exact hdz)]
    · have h1 := hj.fact k hks (dep hr hk)
      simpa [hd, vals] using h1
  · refine hE a w hj.defers hj.size hj.old (fun k d hk hd' => ?_) hj.inv
    have h1 := hall k hk
    simpa [hd', vals] using h1
end
def oldB (ops : Array Oper) (s : Nat) : Bool := (List.range ops.size).all fun j => !(dstAt ops j == some s)
theorem oldB_use {ops : Array Oper} {s : Nat} (h : oldB ops s = true) : ∀ j, j < ops.size → dstAt ops j ≠ some s := fun j hj e => by
  have h1 := List.all_eq_true.1 h j (List.mem_range.2 hj)
  simp [e] at h1
theorem at_slot {a : Act} {z d : Nat} {V : Value} (hz : a.tmps.size = z) (h : a.eval (.tmp d) = V) (hd : d < z) : a.tmps[d]'(by omega) = V := by
  rw [← h]
  simp [Act.eval, show d < a.tmps.size by omega]
section
variable {F : Fence} {n : Nat} {P : Program} {ops : Array Oper} {Q : Exit → Act → World → Prop} {I : World → Prop} {z : Nat} {a0 : Act}
def dstsB (ops : Array Oper) (D : List Nat) : Bool := decide (D.length = ops.size) && (List.range ops.size).all fun j => dstAt ops j == D[j]?
theorem fold_set (a : Act) : ∀ (l : List (Nat × Value)) (t : Array Value), t.size = a.tmps.size → (∀ x ∈ l, a.eval (.tmp x.1) = x.2) → (∀ s, (∀ x ∈ l, x.1 ≠ s) → t.getD s undef = a.eval (.tmp s)) → l.foldl (fun t x => t.setIfInBounds x.1 x.2) t = a.tmps
  | [], t, hz, _, h => by
    apply Array.ext hz
    intro i h1 h2
    have := h i (fun x hx => by cases hx)
    simpa [Act.eval, h1, h2] using this
  | x :: l, t, hz, hv, h => by
    rw [List.foldl_cons]
    refine fold_set a l _ (by simpa using hz) (fun y hy => hv y (List.mem_cons_of_mem _ hy)) fun s hs => ?_
    by_cases e : x.1 = s
    · subst e
      rw [hv x (List.mem_cons_self ..)]
      have hx := hv x (List.mem_cons_self ..)
      rcases Nat.lt_or_ge x.1 t.size with h1 | h1
      · simp [h1]
      · have h2 : a.eval (.tmp x.1) = undef := by simp [Act.eval, show ¬ x.1 < a.tmps.size by omega]
        rw [← hx, h2]
        simp [show ¬ x.1 < t.size by omega]
    · have h1 := h s fun y hy => by
        rcases List.mem_cons.1 hy with rfl | hy
        · exact e
        · exact hs y hy
      rw [← h1]
      simp [e]
theorem wpIn_region_D (D : List (Nat × Value)) {id : Nat} {w : World} (hm : P.follows .mixedOrders = true) (hb : backB .any ops = true) (hs : supB ops (fun j => match dstAt ops j with | some d => [d] | none => []) = true) (hD : dstsB ops (D.map (·.1)) = true) (hDz : (D.map (·.1)).all (fun d => decide (d < z)) = true) (hd : a0.defers = []) (hz : a0.tmps.size = z)
    (h0 : I { w with drawn := w.drawn + 1 })
    (hJ : ∀ j a w, j < ops.size → a.defers = [] → a.tmps.size = z → (∀ s, oldB ops s = true → a.eval (.tmp s) = a0.eval (.tmp s)) → (∀ k d v, depB ops j k = true → D[k]? = some (d, v) → a.eval (.tmp d) = v) → I w →
      wpOpIn F n P ops Q j (fun a' w' => ∃ d v, D[j]? = some (d, v) ∧ a'.defers = [] ∧ a'.tmps = a.tmps.setIfInBounds d v ∧ I w') a w)
    (hE : ∀ w, I w → Q .normal { tmps := D.foldl (fun t x => t.setIfInBounds x.1 x.2) a0.tmps, defers := [] } w) : (Code.region id ops true).wpIn F n P Q a0 w := by
  unfold dstsB at hD
  simp only [Bool.and_eq_true, decide_eq_true_eq] at hD
  obtain ⟨hlen, hdst⟩ := hD
  rw [List.length_map] at hlen
  have hat : ∀ j, j < ops.size → dstAt ops j = (D[j]?).map (·.1) := fun j hj => by
    have h1 := List.all_eq_true.1 hdst j (List.mem_range.2 hj)
    rw [List.getElem?_map] at h1
    simpa using h1
  have hin : ∀ j, j < ops.size → ∃ d v, D[j]? = some (d, v) ∧ dstAt ops j = some d ∧ d < z := fun j hj => by
    have hj' : j < D.length := by omega
    refine ⟨D[j].1, D[j].2, by simp [hj'], by rw [hat j hj]; simp [hj'], ?_⟩
    exact of_decide_eq_true (List.all_eq_true.1 hDz D[j].1 (List.mem_map.2 ⟨D[j], List.getElem_mem hj', rfl⟩))
  refine wpIn_region_V (V := fun j => ((D[j]?).map (·.2)).getD undef) (I := I) hm hb hs hd hz (fun j hj => by obtain ⟨d, v, _, h1, h2⟩ := hin j hj; exact ⟨d, h1, h2⟩) h0 (fun j a w hj hd hz hold hf hI => ?_) fun a w hd hz' hold hf hI => ?_
  · refine wpOpIn_mono (fun a' w' h => ?_) (hJ j a w hj hd hz (fun s hs => hold s (oldB_use hs)) (fun k d v hk e => ?_) hI)
    · obtain ⟨d, v, e, h1, h2, h3⟩ := h
      obtain ⟨d', v', e', h4, _⟩ := hin j hj
      rw [e] at e'
      cases e'
      exact ⟨d, h4, h1, by rw [h2, e]; rfl, h3⟩
    · have hk' : k < ops.size := by rw [← hlen]; exact (List.getElem?_eq_some_iff.1 e).1
      have := hf k d hk hk' (by rw [hat k hk', e]; rfl)
      rw [this, e]; rfl
  · have e : D.foldl (fun t x => t.setIfInBounds x.1 x.2) a0.tmps = a.tmps := by
      refine fold_set a D a0.tmps (by rw [hz, hz']) (fun x hx => ?_) fun s hs => ?_
      · obtain ⟨j, hj, rfl⟩ := List.mem_iff_getElem.1 hx
        have hj' : j < ops.size := by omega
        have := hf j D[j].1 hj' (by rw [hat j hj']; simp [hj])
        rw [this]; simp [hj]
      · refine (hold s fun j hj e => ?_).symm
        obtain ⟨d, v, e1, e2, _⟩ := hin j hj
        rw [e2] at e
        cases e
        exact hs _ (List.mem_iff_getElem?.2 ⟨j, e1⟩) rfl
    have h1 := hE w hI
    rw [e] at h1
    obtain ⟨t, df⟩ := a
    simp only at hd
    subst hd
    exact h1
end
section
variable {F : Fence} {n : Nat} {P : Program} {ops : Array Oper} {Q : Exit → Act → World → Prop}
def depsOf (ops : Array Oper) (i : Nat) : List Nat := (List.range i).filter fun j => depB ops i j
def clos (ops : Array Oper) : Nat → List Nat → List Nat
  | 0, S => S
  | i + 1, S => clos ops i (if S.contains i then S ++ depsOf ops i else S)
theorem clos_listed {listed : Array Bool} {k : Nat} (hc : ∀ i, listed.getD i false = true → ∀ j, depB ops i j = true → listed.getD j false = true) (hk : ∀ j, depB ops k j = true → listed.getD j false = true) :
    ∀ (i : Nat) (S : List Nat), (∀ s ∈ S, s = k ∨ listed.getD s false = true) → ∀ s ∈ clos ops i S, s = k ∨ listed.getD s false = true
  | 0, S, h => h
  | i + 1, S, h => by
    unfold clos
    refine clos_listed hc hk i _ ?_
    split
    · next hi =>
      intro s hs
      rcases List.mem_append.1 hs with hs | hs
      · exact h s hs
      · have hd : depB ops i s = true := (List.mem_filter.1 hs).2
        rcases h i (by simpa using hi) with e | e
        · subst e; exact .inr (hk s hd)
        · exact .inr (hc i e s hd)
    · exact h
structure RD (ops : Array Oper) (k : Nat) (D : List (Nat × Value)) (I : World → Prop) (z : Nat) (a0 : Act) (listed : Array Bool) (a : Act) (w : World) : Prop where
  defers : a.defers = []
  size : a.tmps.size = z
  old : ∀ s, (∀ x ∈ D, x.1 ≠ s) → a.eval (.tmp s) = a0.eval (.tmp s)
  inv : I w
  fact : ∀ (j d : Nat) (v : Value), D[j]? = some (d, v) → listed.getD j false = true → a.eval (.tmp d) = v
  closed : ∀ i, listed.getD i false = true → ∀ j, depB ops i j = true → listed.getD j false = true
  none : ∀ i, k ≤ i → listed.getD i false = false
structure RL (F : Fence) (n : Nat) (P : Program) (ops : Array Oper) (Q : Exit → Act → World → Prop) (t : Nat) (listed : Array Bool) (a : Act) (w : World) : Prop where
  yes : ∀ i, i < t → listed.getD i false = true
  no : ∀ i, t ≤ i → listed.getD i false = false
  go : wpListIn F n P ops Q (ops.toList.drop t) a w
def nodupB (D : List Nat) : Bool := decide D.Nodup
end
section
variable {F : Fence} {n : Nat} {P : Program} {ops : Array Oper} {Q : Exit → Act → World → Prop}
structure RB2 (ops : Array Oper) (k : Nat) (D : List (Option (Nat × Value))) (I : World → Prop) (lo z sa sb : Nat) (u1 v1 u2 v2 : Int) (a0 : Act) (listed : Array Bool) (a : Act) (w : World) : Prop where
  defers : a.defers = []
  size : a.tmps.size = z
  old : ∀ s, (∀ x ∈ D.filterMap (fun x => x), x.1 ≠ s) → s ≠ sa → s ≠ sb → a.eval (.tmp s) = a0.eval (.tmp s)
  inv : I w
  fact : ∀ (j d : Nat) (v : Value), D[j]? = some (some (d, v)) → listed.getD j false = true → a.eval (.tmp d) = v
  closed : ∀ i, listed.getD i false = true → ∀ j, depB ops i j = true → listed.getD j false = true
  ga : listed.getD k false = true → ∃ (p : Nat) (u v : Int), a.eval (.tmp sa) = .pointer (some ⟨p, 0, none⟩) ∧ lo ≤ p ∧ SpanAt w p u v ∧ (listed.getD (k + 2) false = true → u = u1 ∧ v = v1)
  gb : listed.getD (k + 1) false = true → ∃ (p : Nat) (u v : Int), a.eval (.tmp sb) = .pointer (some ⟨p, 0, none⟩) ∧ lo ≤ p ∧ SpanAt w p u v ∧ (listed.getD (k + 3) false = true → u = u2 ∧ v = v2)
  ne : listed.getD k false = true → listed.getD (k + 1) false = true → a.eval (.tmp sa) ≠ a.eval (.tmp sb)
def rowDst (K : List (Option Nat)) (sa sb z : Nat) : Bool := (List.range K.length).all fun i => match K[i]? with
  | some (some d) => d != sa && d != sb && decide (d < z) && (List.range K.length).all fun j => i == j || !(K[j]? == some (some d))
  | _ => true
theorem rowDst_use {K : List (Option Nat)} {sa sb z : Nat} (h : rowDst K sa sb z = true) {i d : Nat} (hi : K[i]? = some (some d)) : d ≠ sa ∧ d ≠ sb ∧ d < z ∧ ∀ j, j ≠ i → K[j]? ≠ some (some d) := by
  have hil := (List.getElem?_eq_some_iff.1 hi).1
  have h1 := List.all_eq_true.1 h i (List.mem_range.2 hil)
  rw [hi] at h1
  simp only [Bool.and_eq_true, bne_iff_ne, decide_eq_true_eq] at h1
  refine ⟨h1.1.1.1, h1.1.1.2, h1.1.2, fun j hj e => ?_⟩
  have hjl := (List.getElem?_eq_some_iff.1 e).1
  have h2 := List.all_eq_true.1 h1.2 j (List.mem_range.2 hjl)
  simp only [e, Bool.or_eq_true, beq_iff_eq, Bool.not_eq_true', beq_self_eq_true] at h2
  rcases h2 with h2 | h2
  · exact hj h2.symm
  · cases h2
end
section
variable {F : Fence} {n : Nat} {P : Program} {ops : Array Oper} {Q : Exit → Act → World → Prop}
structure RE (ops : Array Oper) (k e : Nat) (D : List (Nat × Value)) (I : Bool → World → Prop) (z : Nat) (a0 : Act) (listed : Array Bool) (a : Act) (w : World) : Prop where
  defers : a.defers = []
  size : a.tmps.size = z
  old : ∀ s, (∀ x ∈ D, x.1 ≠ s) → a.eval (.tmp s) = a0.eval (.tmp s)
  inv : I (listed.getD e false) w
  fact : ∀ (j d : Nat) (v : Value), D[j]? = some (d, v) → listed.getD j false = true → a.eval (.tmp d) = v
  closed : ∀ i, listed.getD i false = true → ∀ j, depB ops i j = true → listed.getD j false = true
  none : ∀ i, k ≤ i → listed.getD i false = false
end
theorem wrap_small (k : Nat) (h : k ≤ 100) : IntKind.wrap .i64 ((k : Int) + 1) = (k : Int) + 1 := by
  simp [IntKind.wrap, IntKind.signed, IntKind.bits]
  omega
theorem cells_new (w : World) (cs : List Value) (e : TypeId) : ∀ (j : Nat) (u : Value), cs[j]? = some u → (w.alloc (.cells cs.toArray e)).cell? (Addr.add ⟨w.heap.size, 0, none⟩ j) = some u := by
  intro j u h
  have e1 : Addr.add ⟨w.heap.size, 0, none⟩ j = ⟨w.heap.size, j, none⟩ := by unfold Addr.add; split <;> simp_all
  rw [e1]
  simp [h]
abbrev spanV (u v : Int) : Value := .agg #[.int .i64 u, .int .i64 v]
def SaysSpan (u v : Int) (w : World) (e : Ending) (w' : World) : Prop := e = .returned (.agg #[.int .i64 u, .int .i64 v]) ∧ Below w.heap.size w w'
theorem u52 : (match Tryz.prog.underlying 29 with | some (.struct _) => true | _ => false) = true := by kernel_rfl
theorem i52 : (Tryz.prog.info? 29).map (·.size) = some 2 := by kernel_rfl
theorem span_new (w : World) (u v : Int) : SpanAt (w.alloc (.cells #[.int .i64 u, .int .i64 v] 29)) w.heap.size u v := by
  unfold SpanAt; exact heap_alloc_new _ _
theorem span_mid (w : World) (A C : Obj) (u v : Int) : SpanAt (((w.alloc A).alloc (.cells #[.int .i64 u, .int .i64 v] 29)).alloc C) (w.heap.size + 1) u v := by
  have h := (span_new (w.alloc A) u v).below ((Below.refl _ _).alloc (Nat.le_refl _) C)
  simpa using h
def outZ (a b l m : Int) : Int := if l ≤ a ∧ a ≤ b ∧ b ≤ m then 0 else 1
theorem spanLimits1_any (a b l m : Int) (p q r : Nat) (w : World) (hp : w.cell? ⟨p, 0, none⟩ = some (.int .i64 a)) (hp1 : w.cell? ⟨p, 1, none⟩ = some (.int .i64 b)) (hq : w.cell? ⟨q, 0, none⟩ = some (.int .i64 l)) (hr : w.cell? ⟨r, 0, none⟩ = some (.int .i64 m)) :
    CallsIn Fc 0 Tryz.prog 131 #[ptr p, ptr q, ptr r] w (SaysInt (outZ a b l m) w) := by
  unfold outZ
  gi_enter Tryz.func131, Tryz.ntmps131
  by_cases h1 : a < l
  · rw [if_neg (by omega)]
    gi_wp2
    go_ret
    exact ⟨rfl, Below.refl _ _⟩
  · by_cases h2 : a > b
    · rw [if_neg (by omega)]
      gi_wp2
      go_ret
      exact ⟨rfl, Below.refl _ _⟩
    · by_cases h3 : b > m
      · rw [if_neg (by omega)]
        gi_wp2
        go_ret
        exact ⟨rfl, Below.refl _ _⟩
      · rw [if_pos (by omega)]
        gi_wp2
        go_ret
        exact ⟨rfl, Below.refl _ _⟩
def firstZ (F : Nat → Int) : Nat → Int
  | 0 => 0
  | k + 1 => if firstZ F k = 0 then F k else firstZ F k
theorem firstZ_zero {F : Nat → Int} : ∀ {n : Nat}, firstZ F n = 0 ↔ ∀ k, k < n → F k = 0
  | 0 => by simp [firstZ]
  | n + 1 => by
    simp only [firstZ]
    constructor
    · intro h k hk
      split at h
      · next h0 =>
        rcases Nat.lt_succ_iff_lt_or_eq.1 hk with hk | rfl
        · exact firstZ_zero.1 h0 k hk
        · exact h
      · next h0 => exact absurd h h0
    · intro h
      rw [if_pos (firstZ_zero.2 fun k hk => h k (by omega))]
      exact h n (by omega)
theorem firstZ_at {F : Nat → Int} {k : Nat} (hz : ∀ j, j < k → F j = 0) (h0 : F k ≠ 0) : ∀ {n : Nat}, k < n → firstZ F n = F k
  | 0, h => by omega
  | n + 1, h => by
    simp only [firstZ]
    by_cases e : k = n
    · subst e
      rw [if_pos (firstZ_zero.2 hz)]
    · have h1 := firstZ_at hz h0 (n := n) (by omega)
      rw [h1, if_neg h0]
theorem results_common {fn : Func} {tmps : Array Value} {w : World} {g : Nat} {u v : Int} {t : Value} (h : fn.results = #[.cell 4 29, .tmp 5]) (ht : tmps.getD 4 undef = .pointer (some ⟨g, 0, none⟩)) (h5 : tmps.getD 5 undef = t) (hb : SpanAt w g u v) :
    (results fn tmps).run Tryz.prog w = .ok (.tuple #[spanV u v, t]) w := by
  obtain ⟨c0, c1⟩ := hb.cell
  have ht' : tmps[4]?.getD undef = .pointer (some ⟨g, 0, none⟩) := by rw [← ht, Array.getD_eq_getD_getElem?]
  have h5' : tmps[5]?.getD undef = t := by rw [← h5, Array.getD_eq_getD_getElem?]
  unfold results
  rw [h]
  simp [ht', h5', asAddr]
  go_simp
theorem span_last (w : World) (A C : Obj) (u v : Int) : SpanAt (((w.alloc A).alloc C).alloc (.cells #[.int .i64 u, .int .i64 v] 29)) (w.heap.size + 1 + 1) u v := by
  have h := span_new ((w.alloc A).alloc C) u v
  simpa using h
def SaysCommon (a b x y : Int) (w : World) (e : Ending) (w' : World) : Prop :=
  Below w.heap.size w w' ∧ ((max a x ≤ min b y ∧ e = .returned (.tuple #[spanV (max a x) (min b y), .bool true])) ∨ (¬ max a x ≤ min b y ∧ e = .returned (.tuple #[spanV 0 0, .bool false])))
theorem common_any (a b x y : Int) (w : World) : CallsIn Fc 0 Tryz.prog 82 #[spanV a b, spanV x y] w (SaysCommon a b x y w) := by
  have e1 : max a x = if a < x then x else a := by rw [Int.max_def]; split <;> split <;> omega
  have e2 : min b y = if y < b then y else b := by rw [Int.min_def]; split <;> split <;> omega
  gi_enter Tryz.func82, Tryz.ntmps82
  by_cases hcm : max a x ≤ min b y
  · have H := Lib.hid hcm
    gi_wp2
    all_goals
      refine bodyPost_ret (v := .tuple #[spanV (max a x) (min b y), .bool true]) (results_common rfl rfl rfl ?_) rfl ?_
      · rw [e1, e2]
        repeat' split
        all_goals first | omega | exact span_last _ _ _ _ _
      · exact ⟨(((Below.refl _ _).alloc (Nat.le_refl _) _).alloc (by simp) _).alloc (by simp; omega) _, .inl ⟨H.out, rfl⟩⟩
  · have H := Lib.hid hcm
    gi_wp2
    all_goals
      refine bodyPost_ret (v := .tuple #[spanV 0 0, .bool false]) (results_common rfl rfl rfl ?_) rfl ?_
      · exact span_last _ _ _ _ _
      · exact ⟨(((Below.refl _ _).alloc (Nat.le_refl _) _).alloc (by simp) _).alloc (by simp; omega) _, .inr ⟨Int.not_le.2 H.out, rfl⟩⟩
def limZ (n l m : Int) : Int := if l ≤ n ∧ n ≤ m then 0 else 1
theorem limits1_any (n l m : Int) (p q r : Nat) (w : World) (hp : w.cell? ⟨p, 0, none⟩ = some (.int .i64 n)) (hq : w.cell? ⟨q, 0, none⟩ = some (.int .i64 l)) (hr : w.cell? ⟨r, 0, none⟩ = some (.int .i64 m)) :
    CallsIn Fc 0 Tryz.prog 84 #[ptr p, ptr q, ptr r] w (SaysInt (limZ n l m) w) := by
  unfold limZ
  gi_enter Tryz.func84, Tryz.ntmps84
  by_cases h1 : n < l
  · rw [if_neg (by omega)]
    gi_wp2
    go_ret
    exact ⟨rfl, Below.refl _ _⟩
  · by_cases h3 : n > m
    · rw [if_neg (by omega)]
      gi_wp2
      go_ret
      exact ⟨rfl, Below.refl _ _⟩
    · rw [if_pos (by omega)]
      gi_wp2
      go_ret
      exact ⟨rfl, Below.refl _ _⟩
theorem limZ_zero {n l m : Int} : limZ n l m = 0 ↔ l ≤ n ∧ n ≤ m := by
  unfold limZ
  split
  · next h => exact ⟨fun _ => h, fun _ => rfl⟩
  · next h => exact ⟨fun h' => absurd h' (by decide), fun h' => absurd h' h⟩
def PicksAt (w : World) (A : Option Addr) (n : Nat) (p : Nat → Int) : Prop := ∀ k, k < n → ∃ b o, A = some ⟨b, o, none⟩ ∧ w.cell? ⟨b, o + k, none⟩ = some (.int .u16 (p k)) ∧ 0 ≤ p k ∧ p k ≤ 65535
def choiceZ (n : Nat) (p : Nat → Int) (k : Nat) : Int := if k < n then p k else 0
theorem choice_le {w : World} {A : Option Addr} {n : Nat} {p : Nat → Int} (h : PicksAt w A n p) (k : Nat) : 0 ≤ choiceZ n p k ∧ choiceZ n p k ≤ 65535 := by
  unfold choiceZ
  split
  · next h1 => obtain ⟨_, _, _, _, h2, h3⟩ := h k h1; exact ⟨h2, h3⟩
  · omega
theorem PicksAt.below {W w : World} (h : Below W.heap.size W w) {A : Option Addr} {n : Nat} {p : Nat → Int} (hx : PicksAt W A n p) : PicksAt w A n p := fun k hk => by
  obtain ⟨b, o, rfl, h1, h2⟩ := hx k hk
  exact ⟨b, o, rfl, Below.old h h1, h2⟩
end Go.Proofs.YtlabfeofejemjaaGreat
end
section
namespace Go.Proofs.YtlabfeofejemjaaGreat
open Go.RowKit
structure Sh where
  d : Int
  u : Int
  v : Int
  wd : Int
  lt : Int
structure Rl where
  ls : Int
  ms : Int
  wd : Int
  lt : Int
abbrev cardV (r : Rl) (A : Option Addr) (n c : Nat) : Value := .agg #[.int .i64 r.ls, .int .i64 r.ms, .int .i64 r.wd, .int .i64 r.lt, .slice A n c]
abbrev shV (x : Sh) : Value := .agg #[.int .i64 x.d, .int .i64 x.u, .int .i64 x.v, .int .i64 x.wd, .int .i64 x.lt]
structure ShotAt (w : World) (b p : Nat) (x : Sh) : Prop where
  h0 : w.cell? ⟨b, p, none⟩ = some (.int .i64 x.d)
  h1 : w.cell? ⟨b, p + 1, none⟩ = some (.int .i64 x.u)
  h2 : w.cell? ⟨b, p + 2, none⟩ = some (.int .i64 x.v)
  h3 : w.cell? ⟨b, p + 3, none⟩ = some (.int .i64 x.wd)
  h4 : w.cell? ⟨b, p + 4, none⟩ = some (.int .i64 x.lt)
def ShotsAt (w : World) (A : Option Addr) (n : Nat) (sh : Nat → Sh) : Prop := ∀ k, k < n → ∃ b o, A = some ⟨b, o, none⟩ ∧ ShotAt w b (o + k * 5) (sh k)
theorem ShotAt.below {W w : World} (h : Below W.heap.size W w) {b p : Nat} {x : Sh} (hx : ShotAt W b p x) : ShotAt w b p x :=
  ⟨Below.old h hx.h0, Below.old h hx.h1, Below.old h hx.h2, Below.old h hx.h3, Below.old h hx.h4⟩
theorem ShotsAt.below {W w : World} (h : Below W.heap.size W w) {A : Option Addr} {n : Nat} {sh : Nat → Sh} (hx : ShotsAt W A n sh) : ShotsAt w A n sh := fun k hk => by
  obtain ⟨b, o, rfl, h1⟩ := hx k hk
  exact ⟨b, o, rfl, h1.below h⟩
theorem ShotAt.lt {w : World} {b p : Nat} {x : Sh} (h : ShotAt w b p x) : b < w.heap.size := World.block_lt_of_cell? w _ h.h0
structure RlOk (r : Rl) : Prop where
  l0 : 0 ≤ r.ls
  l1 : r.ls ≤ r.ms
  m1 : r.ms ≤ 999
  w0 : 0 ≤ r.wd
  w1 : r.wd ≤ 999
  t0 : 0 ≤ r.lt
  t1 : r.lt ≤ 999
structure ShOk (x : Sh) : Prop where
  d0 : 0 ≤ x.d
  d1 : x.d ≤ 90
  u0 : 0 ≤ x.u
  u1 : x.u ≤ x.v
  v1 : x.v ≤ 99999
  w0 : 0 ≤ x.wd
  w1 : x.wd ≤ 9
  t0 : 0 ≤ x.lt
  t1 : x.lt ≤ 9
def wideN (r : Rl) (x : Sh) : Int := x.wd * r.wd + x.lt * r.lt
def wideU (r : Rl) (x : Sh) : Int := x.u - wideN r x
def wideV (r : Rl) (x : Sh) : Int := x.v + wideN r x
theorem mul_bound {a b p q : Int} (h0 : 0 ≤ a) (h1 : a ≤ p) (h2 : 0 ≤ b) (h3 : b ≤ q) : 0 ≤ a * b ∧ a * b ≤ p * q :=
  ⟨Int.mul_nonneg h0 h2, Int.mul_le_mul h1 h3 h2 (Int.le_trans h0 h1)⟩
theorem wide_parts {r : Rl} {x : Sh} (hr : RlOk r) (hx : ShOk x) : (0 ≤ x.wd * r.wd ∧ x.wd * r.wd ≤ 8991) ∧ (0 ≤ x.lt * r.lt ∧ x.lt * r.lt ≤ 8991) :=
  ⟨mul_bound (p := 9) (q := 999) hx.w0 hx.w1 hr.w0 hr.w1, mul_bound (p := 9) (q := 999) hx.t0 hx.t1 hr.t0 hr.t1⟩
theorem wide_bounds {r : Rl} {x : Sh} (hr : RlOk r) (hx : ShOk x) : -17982 ≤ wideU r x ∧ wideU r x ≤ wideV r x ∧ wideV r x ≤ 117981 := by
  have := wide_parts hr hx
  have := hx.u0; have := hx.u1; have := hx.v1
  unfold wideU wideV wideN
  omega
def reachU (r : Rl) (x : Sh) (d : Int) : Int := if d - x.d < 0 then wideU r x + (d - x.d) * r.ms else wideU r x + (d - x.d) * r.ls
def reachV (r : Rl) (x : Sh) (d : Int) : Int := if d - x.d < 0 then wideV r x + (d - x.d) * r.ls else wideV r x + (d - x.d) * r.ms
theorem far_bound {r : Rl} (hr : RlOk r) {f : Int} (h0 : -90 ≤ f) (h1 : f ≤ 90) : (-89910 ≤ f * r.ls ∧ f * r.ls ≤ 89910) ∧ (-89910 ≤ f * r.ms ∧ f * r.ms ≤ 89910) := by
  have l0 := hr.l0
  have l1 := hr.l1
  have m1 := hr.m1
  rcases Int.le_total 0 f with h | h
  · have a := mul_bound (p := 90) (q := 999) h h1 l0 (by omega)
    have b := mul_bound (p := 90) (q := 999) h h1 (show 0 ≤ r.ms by omega) m1
    omega
  · have a := mul_bound (a := -f) (p := 90) (q := 999) (by omega) (by omega) l0 (by omega)
    have b := mul_bound (a := -f) (p := 90) (q := 999) (by omega) (by omega) (show 0 ≤ r.ms by omega) m1
    rw [Int.neg_mul] at a b
    omega
theorem reach_bounds {r : Rl} {x : Sh} (hr : RlOk r) (hx : ShOk x) {d : Int} (h0 : 0 ≤ d) (h1 : d ≤ 90) : -107892 ≤ reachU r x d ∧ reachU r x d ≤ reachV r x d ∧ reachV r x d ≤ 207891 := by
  have hw := wide_bounds hr hx
  have d0 := hx.d0
  have d1 := hx.d1
  have hf := far_bound hr (f := d - x.d) (by omega) (by omega)
  have hm : 0 ≤ d - x.d → (d - x.d) * r.ls ≤ (d - x.d) * r.ms := fun h => Int.mul_le_mul_of_nonneg_left hr.l1 h
  have hm' : d - x.d < 0 → (d - x.d) * r.ms ≤ (d - x.d) * r.ls := fun h => Int.mul_le_mul_of_nonpos_left (by omega) hr.l1
  unfold reachU reachV
  split
  · next h => have := hm' h; omega
  · next h => have := hm (by omega); omega
theorem results_spanI {fn : Func} {tmps : Array Value} {w : World} {g s : Nat} {u v : Int} (h : fn.results = #[.cell s 29]) (ht : tmps.getD s undef = .pointer (some ⟨g, 0, none⟩)) (hb : SpanAt w g u v) : (results fn tmps).run Tryz.prog w = .ok (spanV u v) w := by
  have e := u52
  split at e
  · next fs hu => exact results_cell_row h tmps w g 29 _ (0, 0) (.struct fs) ht hb hu rfl i52
  · cases e
theorem wrap_of {n : Int} (h0 : -1000000000 ≤ n) (h1 : n ≤ 1000000000) : IntKind.wrap .i64 n = n := by simp [IntKind.wrap, IntKind.signed, IntKind.bits]; omega
theorem wide_any (r : Rl) (A : Option Addr) (n c k : Nat) (sh : Nat → Sh) (W : World) (hk : k < n) (hn : n ≤ 8) (hr : Hid (RlOk r)) (hx : Hid (ShOk (sh k))) (hsh : Hid (ShotsAt W A n sh)) :
    CallsIn Fc 0 Tryz.prog 48 #[cardV r A n c, .int .i64 k] W (SaysSpan (wideU r (sh k)) (wideV r (sh k)) W) := by
  obtain ⟨b, o, rfl, hy⟩ := hsh.out k hk
  have hlb := hy.lt
  obtain ⟨y0, y1, y2, y3, y4⟩ := hy
  have hp := wide_parts hr.out hx.out
  have hu0 := hx.out.u0
  have hu1 := hx.out.u1
  have hv1 := hx.out.v1
  obtain ⟨U, hU⟩ : ∃ U, wideU r (sh k) = U := ⟨_, rfl⟩
  obtain ⟨V, hV⟩ : ∃ V, wideV r (sh k) = V := ⟨_, rfl⟩
  rw [hU, hV]
  unfold wideU wideN at hU
  unfold wideV wideN at hV
  clear hsh hx hr
  generalize sh k = x at *
  obtain ⟨d, u, v, wd, lt⟩ := x
  simp only at *
  have w1 : IntKind.wrap .i64 (wd * r.wd) = wd * r.wd := wrap_of (by omega) (by omega)
  have w2 : IntKind.wrap .i64 (lt * r.lt) = lt * r.lt := wrap_of (by omega) (by omega)
  have w3 : IntKind.wrap .i64 (wd * r.wd + lt * r.lt) = wd * r.wd + lt * r.lt := wrap_of (by omega) (by omega)
  have w4 : IntKind.wrap .i64 (u - (wd * r.wd + lt * r.lt)) = U := by rw [← hU]; exact wrap_of (by omega) (by omega)
  have w5 : IntKind.wrap .i64 (v + (wd * r.wd + lt * r.lt)) = V := by rw [← hV]; exact wrap_of (by omega) (by omega)
  clear hU hV hp
  gi_enter Tryz.func48, Tryz.ntmps48
  gi_wp2
  refine bodyPost_ret (v := spanV U V) (results_spanI rfl rfl ?_) rfl ⟨rfl, ?_⟩
  · exact span_mid _ _ _ _ _
  · repeat first
      | exact Below.refl _ _
      | refine Below.setCell ?_ (by simp <;> omega) _
      | refine Below.alloc ?_ (by simp <;> omega) _
theorem reach_any (r : Rl) (A : Option Addr) (n c k : Nat) (sh : Nat → Sh) (d : Int) (W : World) (hk : k < n) (hn : n ≤ 8) (h0 : 0 ≤ d) (h1 : d ≤ 90) (hr : Hid (RlOk r)) (hx : Hid (ShOk (sh k))) (hsh : Hid (ShotsAt W A n sh)) :
    CallsIn Fc 0 Tryz.prog 83 #[cardV r A n c, .int .i64 k, .int .i64 d] W (SaysSpan (reachU r (sh k) d) (reachV r (sh k) d) W) := by
  have hB : ∀ x y, Below W.heap.size W ((W.alloc x).alloc y) := fun x y => ((Below.refl _ _).alloc (Nat.le_refl _) _).alloc (by simp) _
  have HBB := Lib.hid hB
  have hcall := fun w (hb : Below W.heap.size W w) => wide_any r A n c k sh w hk hn hr hx (Lib.hid (hsh.out.below hb))
  have HC := Lib.hid hcall
  clear hB hcall
  obtain ⟨b, o, rfl, hy⟩ := hsh.out k hk
  have HY := Lib.hid hy
  clear hy
  have hw := wide_bounds hr.out hx.out
  have d0 := hx.out.d0
  have d1 := hx.out.d1
  have hf := far_bound hr.out (f := d - (sh k).d) (by omega) (by omega)
  have hrb := reach_bounds hr.out hx.out h0 h1
  obtain ⟨U, hU⟩ : ∃ U, reachU r (sh k) d = U := ⟨_, rfl⟩
  obtain ⟨V, hV⟩ : ∃ V, reachV r (sh k) d = V := ⟨_, rfl⟩
  rw [hU, hV] at hrb
  rw [hU, hV]
  unfold reachU at hU
  unfold reachV at hV
  generalize hWU : wideU r (sh k) = wu at *
  generalize hWV : wideV r (sh k) = wv at *
  have w1 : IntKind.wrap .i64 (d - (sh k).d) = d - (sh k).d := wrap_of (by omega) (by omega)
  have w2 : IntKind.wrap .i64 ((d - (sh k).d) * r.ls) = (d - (sh k).d) * r.ls := wrap_of (by omega) (by omega)
  have w3 : IntKind.wrap .i64 ((d - (sh k).d) * r.ms) = (d - (sh k).d) * r.ms := wrap_of (by omega) (by omega)
  by_cases hlt : d - (sh k).d < 0
  · rw [if_pos hlt] at hU hV
    have w4 : IntKind.wrap .i64 (wu + (d - (sh k).d) * r.ms) = U := by rw [← hU]; exact wrap_of (by omega) (by omega)
    have w5 : IntKind.wrap .i64 (wv + (d - (sh k).d) * r.ls) = V := by rw [← hV]; exact wrap_of (by omega) (by omega)
    clear hU hV hf hw hrb hWU hWV d0 d1 h0 h1
    gi_enter Tryz.func83, Tryz.ntmps83
    gi_wp2_with (gi_at_call 48; refine (HC.out _ (HBB.out _ _)).mono ?_; rintro e w2 ⟨rfl, hb2⟩
                 have e0 : w2.cell? ⟨W.heap.size, 0, none⟩ = some (.int .i64 r.ls) := Below.old hb2 (by go_simp)
                 have e1 : w2.cell? ⟨W.heap.size, 1, none⟩ = some (.int .i64 r.ms) := Below.old hb2 (by go_simp)
                 have e2 : w2.cell? ⟨W.heap.size, 2, none⟩ = some (.int .i64 r.wd) := Below.old hb2 (by go_simp)
                 have e3 : w2.cell? ⟨W.heap.size, 3, none⟩ = some (.int .i64 r.lt) := Below.old hb2 (by go_simp)
                 have e4 : w2.cell? ⟨W.heap.size, 4, none⟩ = some (.slice (some ⟨b, o, none⟩) n c) := Below.old hb2 (by go_simp)
                 have hs : SpanAt w2 (W.heap.size + 1) 0 0 := SpanAt.below (by simpa using span_new (W.alloc _) 0 0) hb2
                 have z0 := hs.frozen 0
                 have z1 := hs.frozen 1
                 obtain ⟨s0, s1⟩ := hs.cell
                 have lb := hs.lt
                 have lb0 : W.heap.size < w2.heap.size := by omega
                 have hbw := (HBB.out _ _).trans (hb2.mono (HBB.out _ _).size)
                 have lbb := (HY.out.below hbw).lt
                 obtain ⟨y0, y1, y2, y3, y4⟩ := HY.out.below hbw
                 have HS := Lib.hid hs
                 have HB2 := Lib.hid hbw
                 clear hb2 hs hbw)
    refine bodyPost_ret (v := spanV U V) (results_spanI rfl rfl ?_) rfl ⟨rfl, ?_⟩
    · exact (HS.out.set _ _).below ((Below.refl _ _).alloc (Nat.le_refl _) _)
    · exact ((HB2.out.setCell (by simp) _).setCell (by simp) _).alloc (by simpa using HB2.out.size) _
  · rw [if_neg hlt] at hU hV
    have w4 : IntKind.wrap .i64 (wu + (d - (sh k).d) * r.ls) = U := by rw [← hU]; exact wrap_of (by omega) (by omega)
    have w5 : IntKind.wrap .i64 (wv + (d - (sh k).d) * r.ms) = V := by rw [← hV]; exact wrap_of (by omega) (by omega)
    clear hU hV hf hw hrb hWU hWV d0 d1 h0 h1
    gi_enter Tryz.func83, Tryz.ntmps83
    gi_wp2_with (gi_at_call 48; refine (HC.out _ (HBB.out _ _)).mono ?_; rintro e w2 ⟨rfl, hb2⟩
                 have e0 : w2.cell? ⟨W.heap.size, 0, none⟩ = some (.int .i64 r.ls) := Below.old hb2 (by go_simp)
                 have e1 : w2.cell? ⟨W.heap.size, 1, none⟩ = some (.int .i64 r.ms) := Below.old hb2 (by go_simp)
                 have e2 : w2.cell? ⟨W.heap.size, 2, none⟩ = some (.int .i64 r.wd) := Below.old hb2 (by go_simp)
                 have e3 : w2.cell? ⟨W.heap.size, 3, none⟩ = some (.int .i64 r.lt) := Below.old hb2 (by go_simp)
                 have e4 : w2.cell? ⟨W.heap.size, 4, none⟩ = some (.slice (some ⟨b, o, none⟩) n c) := Below.old hb2 (by go_simp)
                 have hs : SpanAt w2 (W.heap.size + 1) 0 0 := SpanAt.below (by simpa using span_new (W.alloc _) 0 0) hb2
                 have z0 := hs.frozen 0
                 have z1 := hs.frozen 1
                 obtain ⟨s0, s1⟩ := hs.cell
                 have lb := hs.lt
                 have lb0 : W.heap.size < w2.heap.size := by omega
                 have hbw := (HBB.out _ _).trans (hb2.mono (HBB.out _ _).size)
                 have lbb := (HY.out.below hbw).lt
                 obtain ⟨y0, y1, y2, y3, y4⟩ := HY.out.below hbw
                 have HS := Lib.hid hs
                 have HB2 := Lib.hid hbw
                 clear hb2 hs hbw)
    refine bodyPost_ret (v := spanV U V) (results_spanI rfl rfl ?_) rfl ⟨rfl, ?_⟩
    · exact (HS.out.set _ _).below ((Below.refl _ _).alloc (Nat.le_refl _) _)
    · exact ((HB2.out.setCell (by simp) _).setCell (by simp) _).alloc (by simpa using HB2.out.size) _
end Go.Proofs.YtlabfeofejemjaaGreat
end
section
namespace Go.Proofs.YtlabfeofejemjaaGreat
open Go.RowKit
section
variable {F : Fence} {n : Nat} {P : Program} {ops : Array Oper} {Q : Exit → Act → World → Prop}
structure RS (ops : Array Oper) (e : Nat) (D : List (Option (Nat × Value))) (I : Bool → World → Prop) (z : Nat) (a0 : Act) (listed : Array Bool) (a : Act) (w : World) : Prop where
  defers : a.defers = []
  size : a.tmps.size = z
  old : ∀ s, (∀ x ∈ D.filterMap (fun x => x), x.1 ≠ s) → a.eval (.tmp s) = a0.eval (.tmp s)
  inv : I (listed.getD e false) w
  fact : ∀ (j d : Nat) (v : Value), D[j]? = some (some (d, v)) → listed.getD j false = true → a.eval (.tmp d) = v
  closed : ∀ i, listed.getD i false = true → ∀ j, depB ops i j = true → listed.getD j false = true
theorem wpIn_region_S (e : Nat) (pre : List Nat) (D : List (Option (Nat × Value))) {I : Bool → World → Prop} {z : Nat} {a0 : Act} {id : Nat} {w : World} (hm : P.follows .mixedOrders = true) (hb : backB .any ops = true) (hes : e < ops.size) (hlen : D.length = ops.size) (hrow : D[e]? = some none)
    (hall : (List.range ops.size).all (fun j => decide (j = e) || (D[j]?.map (·.isSome)) == some true) = true) (hnd : rowDst (D.map (·.map (·.1))) z z z = true) (hpre : pre.all (fun j => (clos ops (e + 1) [e]).contains j && decide (j ≠ e)) = true)
    (hd : a0.defers = []) (hz : a0.tmps.size = z) (h0 : I false { w with drawn := w.drawn + 1 })
    (hJ : ∀ b j a w, j < ops.size → j ≠ e → (pre.contains j = true → b = false) → a.defers = [] → a.tmps.size = z → (∀ s, (D.filterMap (fun x => x)).all (fun x => x.1 != s) = true → a.eval (.tmp s) = a0.eval (.tmp s)) → (∀ k d v, depB ops j k = true → D[k]? = some (some (d, v)) → a.eval (.tmp d) = v) → I b w →
      wpOpIn F n P ops Q j (fun a' w' => ∃ d v, D[j]? = some (some (d, v)) ∧ a'.defers = [] ∧ a'.tmps = a.tmps.setIfInBounds d v ∧ I b w') a w)
    (hJe : ∀ a w, a.defers = [] → a.tmps.size = z → (∀ s, (D.filterMap (fun x => x)).all (fun x => x.1 != s) = true → a.eval (.tmp s) = a0.eval (.tmp s)) → (∀ k d v, depB ops e k = true → D[k]? = some (some (d, v)) → a.eval (.tmp d) = v) → I false w →
      wpOpIn F n P ops Q e (fun a' w' => a'.defers = [] ∧ a'.tmps = a.tmps ∧ I true w') a w)
    (hE : ∀ w, I true w → Q .normal { tmps := (D.filterMap (fun x => x)).foldl (fun t x => t.setIfInBounds x.1 x.2) a0.tmps, defers := [] } w) : (Code.region id ops true).wpIn F n P Q a0 w := by
  have hK : ∀ {j d : Nat} {v : Value}, D[j]? = some (some (d, v)) → (D.map (·.map (·.1)))[j]? = some (some d) := fun h => by rw [List.getElem?_map, h]; rfl
  have hkey : ∀ {j d : Nat} {v : Value}, D[j]? = some (some (d, v)) → d < z ∧ ∀ i d' v', i ≠ j → D[i]? = some (some (d', v')) → d' ≠ d := fun h => by
    obtain ⟨_, _, q3, q4⟩ := rowDst_use hnd (hK h)
    exact ⟨q3, fun i d' v' hi h' e => q4 i hi (by rw [hK h', e])⟩
  have hne : ∀ {j d : Nat} {v : Value}, D[j]? = some (some (d, v)) → j ≠ e := fun h he => by subst he; rw [hrow] at h; cases h
  have hmemD : ∀ {j d : Nat} {v : Value}, D[j]? = some (some (d, v)) → (d, v) ∈ D.filterMap (fun x => x) := fun {j d v} h => List.mem_filterMap.2 ⟨some (d, v), List.mem_iff_getElem?.2 ⟨j, h⟩, rfl⟩
  have hDmem : ∀ x ∈ D.filterMap (fun x => x), ∃ j, D[j]? = some (some x) := fun x hx => by
    obtain ⟨o, ho, e⟩ := List.mem_filterMap.1 hx
    subst e
    exact List.mem_iff_getElem?.1 ho
  have evs : ∀ (a a' : Act) (d : Nat) (v : Value), a'.tmps = a.tmps.setIfInBounds d v → (∀ s, s ≠ d → a'.eval (.tmp s) = a.eval (.tmp s)) ∧ (d < a.tmps.size → a'.eval (.tmp d) = v) := fun a a' d v h => by
    constructor
    · intro s hs
      simp only [Act.eval, h]
      simp [Ne.symm hs]
    · intro hd
      simp only [Act.eval, h]
      simp [hd]
  have clo : ∀ (listed : Array Bool) (i : Nat), i ∈ Region.ready .any ops listed → (∀ i, listed.getD i false = true → ∀ j, depB ops i j = true → listed.getD j false = true) → ∀ m, (listed.setIfInBounds i true).getD m false = true → ∀ m', depB ops m m' = true → (listed.setIfInBounds i true).getD m' false = true := fun listed i hi hc m hm m' hm' => by
    have key : listed.getD m' false = true := by
      by_cases e : m = i
      · subst e; exact dep hi hm'
      · rw [gset (fun e' => e e'.symm)] at hm
        exact hc m hm m' hm'
    by_cases e2 : i = m'
    · subst e2; exact set_self hi
    · rw [gset e2]; exact key
  refine wpIn_region_J (J := RS ops e D I z a0) hm hb ?_ (fun listed a w i hj hi => ?_) fun listed a w hj hall' => ?_
  · have hno : ∀ i, (Array.replicate ops.size false).getD i false = true → False := fun i hl => by
      rw [Array.getD_eq_getD_getElem?] at hl
      rcases Nat.lt_or_ge i ops.size with h | h <;> simp [h] at hl
    refine ⟨hd, hz, fun _ _ => rfl, ?_, fun j d v _ hl => (hno j hl).elim, fun i hl => (hno i hl).elim⟩
    cases h : (Array.replicate ops.size false).getD e false with
    | false => exact h0
    | true => exact (hno e h).elim
  · have his : i < ops.size := by
      obtain ⟨_, o, h3, _⟩ := mem_ready.1 hi
      exact (Array.getElem?_eq_some_iff.1 h3).1
    have hcl := clo listed i hi hj.closed
    have hold := fun (s : Nat) (hs : (D.filterMap (fun x => x)).all (fun x => x.1 != s) = true) => hj.old s fun x hx => by simpa using List.all_eq_true.1 hs x hx
    by_cases hie : i = e
    · subst hie
      have hinv := hj.inv
      rw [not_yet hi] at hinv
      refine wpOpIn_mono (fun a' w' h => ?_) (hJe a w hj.defers hj.size hold (fun m d v hdep e => hj.fact m d v e (dep hi hdep)) hinv)
      obtain ⟨h1, h2, h3⟩ := h
      have e1 : ∀ s, a'.eval (.tmp s) = a.eval (.tmp s) := fun s => by simp only [Act.eval, h2]
      refine ⟨h1, by rw [h2]; exact hj.size, fun s hs => by rw [e1]; exact hj.old s hs, by rw [set_self hi]; exact h3, fun j d v hjd hl => ?_, hcl⟩
      rw [gset (fun e' => hne hjd e'.symm)] at hl
      rw [e1]
      exact hj.fact j d v hjd hl
    · refine wpOpIn_mono (fun a' w' h => ?_) (hJ _ i a w his hie (fun hp => ?_) hj.defers hj.size hold (fun m d v hdep e => hj.fact m d v e (dep hi hdep)) hj.inv)
      · obtain ⟨d, v, hD, h1, h2, h3⟩ := h
        obtain ⟨e1, e2⟩ := evs a a' d v h2
        obtain ⟨hdz, hne1⟩ := hkey hD
        refine ⟨h1, by rw [h2]; simpa using hj.size, fun s hs => ?_, by rw [gset hie]; exact h3, fun j d' v' hjd hl => ?_, hcl⟩
        · rw [e1 s fun e => hs _ (hmemD hD) e.symm]; exact hj.old s hs
        · by_cases e : j = i
          · subst e
            rw [hD] at hjd
            cases hjd
            exact e2 (by rw [hj.size]; exact hdz)
          · rw [gset (fun e' => e e'.symm)] at hl
            rw [e1 d' (hne1 j d' v' e hjd)]
            exact hj.fact j d' v' hjd hl
      · cases hl : listed.getD e false with
        | false => rfl
        | true =>
          have h1 := List.all_eq_true.1 hpre i (by simpa using hp)
          simp only [Bool.and_eq_true, decide_eq_true_eq] at h1
          have h2 := clos_listed (k := e) hj.closed (fun j h => hj.closed e hl j h) (e + 1) [e] (fun s hs => .inl (by simpa using hs)) i (by simpa using h1.1)
          rcases h2 with h2 | h2
          · exact absurd h2 h1.2
          · rw [not_yet hi] at h2; cases h2
  · have hinv := hj.inv
    rw [hall' e hes] at hinv
    have h1 := hE w hinv
    have e0 : (D.filterMap (fun x => x)).foldl (fun (t : Array Value) (x : Nat × Value) => t.setIfInBounds x.1 x.2) a0.tmps = a.tmps := by
      refine fold_set a _ a0.tmps (by rw [hz, hj.size]) (fun x hx => ?_) fun s hs => (hj.old s hs).symm
      obtain ⟨j, hj'⟩ := hDmem x hx
      exact hj.fact j x.1 x.2 hj' (hall' j (by rw [← hlen]; exact (List.getElem?_eq_some_iff.1 hj').1))
    rw [e0] at h1
    obtain ⟨tm, df⟩ := a
    have hdf := hj.defers
    simp only at hdf
    subst hdf
    exact h1
end
end Go.Proofs.YtlabfeofejemjaaGreat
end
section
namespace Go.Proofs.YtlabfeofejemjaaGreat
open Go.RowKit
section
variable {F : Fence} {n : Nat} {P : Program} {ops : Array Oper} {Q : Exit → Act → World → Prop}
structure RO (ops : Array Oper) (k m : Nat) (D : List (Option (Nat × Value))) (I : World → Prop) (lo z sa : Nat) (u1 v1 : Int) (a0 : Act) (listed : Array Bool) (a : Act) (w : World) : Prop where
  defers : a.defers = []
  size : a.tmps.size = z
  old : ∀ s, (∀ x ∈ D.filterMap (fun x => x), x.1 ≠ s) → s ≠ sa → a.eval (.tmp s) = a0.eval (.tmp s)
  inv : I w
  fact : ∀ (j d : Nat) (v : Value), D[j]? = some (some (d, v)) → listed.getD j false = true → a.eval (.tmp d) = v
  closed : ∀ i, listed.getD i false = true → ∀ j, depB ops i j = true → listed.getD j false = true
  ga : listed.getD k false = true → ∃ (p : Nat) (u v : Int), a.eval (.tmp sa) = .pointer (some ⟨p, 0, none⟩) ∧ lo ≤ p ∧ SpanAt w p u v ∧ (listed.getD m false = true → u = u1 ∧ v = v1)
theorem wpIn_region_O (k m sa : Nat) (D : List (Option (Nat × Value))) {I : World → Prop} {lo z : Nat} {u1 v1 : Int} {a0 : Act} {id : Nat} {w : World} (hm : P.follows .mixedOrders = true) (hb : backB .any ops = true) (hks : k < ops.size) (hms : m < ops.size) (hkm : k ≠ m) (hlen : D.length = ops.size) (hrow : D[k]? = some none) (hrow2 : D[m]? = some none)
    (hall : (List.range ops.size).all (fun j => decide (j = k ∨ j = m) || (D[j]?.map (·.isSome)) == some true) = true) (hnd : rowDst (D.map (·.map (·.1))) sa sa z = true) (hsa : sa < z) (hdm : depB ops m k = true)
    (hd : a0.defers = []) (hz : a0.tmps.size = z) (hlo : ∀ w, I w → lo ≤ w.heap.size) (hIg : ∀ w o, I w → I (w.alloc o)) (hIs : ∀ w p j x, I w → lo ≤ p → I (w.setCell ⟨p, j, none⟩ x)) (h0 : I { w with drawn := w.drawn + 1 })
    (hJ : ∀ j a w, j < ops.size → j ≠ k → j ≠ m → a.defers = [] → a.tmps.size = z → (∀ s, (D.filterMap (fun x => x)).all (fun x => x.1 != s) = true → s ≠ sa → a.eval (.tmp s) = a0.eval (.tmp s)) → (∀ k d v, depB ops j k = true → D[k]? = some (some (d, v)) → a.eval (.tmp d) = v) → I w →
      wpOpIn F n P ops Q j (fun a' w' => ∃ d v, D[j]? = some (some (d, v)) ∧ a'.defers = [] ∧ a'.tmps = a.tmps.setIfInBounds d v ∧ I w' ∧ Below w.heap.size w w') a w)
    (hA : ∀ a w, a.defers = [] → a.tmps.size = z → wpOpIn F n P ops Q k (fun a' w' => a'.defers = [] ∧ a'.tmps = a.tmps.setIfInBounds sa (.pointer (some ⟨w.heap.size, 0, none⟩)) ∧ w' = w.alloc (.cells #[.int .i64 0, .int .i64 0] 29)) a w)
    (hS : ∀ a w p u v, a.defers = [] → a.tmps.size = z → a.eval (.tmp sa) = .pointer (some ⟨p, 0, none⟩) → SpanAt w p u v → (∀ j d v, depB ops m j = true → D[j]? = some (some (d, v)) → a.eval (.tmp d) = v) →
      wpOpIn F n P ops Q m (fun a' w' => a'.defers = [] ∧ a'.tmps = a.tmps ∧ w' = (w.setCell ⟨p, 0, none⟩ (.int .i64 u1)).setCell ⟨p, 1, none⟩ (.int .i64 v1)) a w)
    (hE : ∀ w p, I w → lo ≤ p → SpanAt w p u1 v1 → Q .normal { tmps := ((D.filterMap (fun x => x)).foldl (fun t x => t.setIfInBounds x.1 x.2) a0.tmps).setIfInBounds sa (.pointer (some ⟨p, 0, none⟩)), defers := [] } w) : (Code.region id ops true).wpIn F n P Q a0 w := by
  have hK : ∀ {j d : Nat} {v : Value}, D[j]? = some (some (d, v)) → (D.map (·.map (·.1)))[j]? = some (some d) := fun h => by rw [List.getElem?_map, h]; rfl
  have hkey : ∀ {j d : Nat} {v : Value}, D[j]? = some (some (d, v)) → d ≠ sa ∧ d < z ∧ ∀ i d' v', i ≠ j → D[i]? = some (some (d', v')) → d' ≠ d := fun h => by
    obtain ⟨q1, _, q3, q4⟩ := rowDst_use hnd (hK h)
    exact ⟨q1, q3, fun i d' v' hi h' e => q4 i hi (by rw [hK h', e])⟩
  have hne : ∀ {j d : Nat} {v : Value}, D[j]? = some (some (d, v)) → j ≠ k := fun h he => by subst he; rw [hrow] at h; cases h
  have hne2 : ∀ {j d : Nat} {v : Value}, D[j]? = some (some (d, v)) → j ≠ m := fun h he => by subst he; rw [hrow2] at h; cases h
  have hmemD : ∀ {j d : Nat} {v : Value}, D[j]? = some (some (d, v)) → (d, v) ∈ D.filterMap (fun x => x) := fun {j d v} h => List.mem_filterMap.2 ⟨some (d, v), List.mem_iff_getElem?.2 ⟨j, h⟩, rfl⟩
  have hDmem : ∀ x ∈ D.filterMap (fun x => x), ∃ j, D[j]? = some (some x) := fun x hx => by
    obtain ⟨o, ho, e⟩ := List.mem_filterMap.1 hx
    subst e
    exact List.mem_iff_getElem?.1 ho
  have evs : ∀ (a a' : Act) (d : Nat) (v : Value), a'.tmps = a.tmps.setIfInBounds d v → (∀ s, s ≠ d → a'.eval (.tmp s) = a.eval (.tmp s)) ∧ (d < a.tmps.size → a'.eval (.tmp d) = v) := fun a a' d v h => by
    constructor
    · intro s hs
      simp only [Act.eval, h]
      simp [Ne.symm hs]
    · intro hd
      simp only [Act.eval, h]
      simp [hd]
  have clo : ∀ (listed : Array Bool) (i : Nat), i ∈ Region.ready .any ops listed → (∀ i, listed.getD i false = true → ∀ j, depB ops i j = true → listed.getD j false = true) → ∀ m, (listed.setIfInBounds i true).getD m false = true → ∀ m', depB ops m m' = true → (listed.setIfInBounds i true).getD m' false = true := fun listed i hi hc m hm m' hm' => by
    have key : listed.getD m' false = true := by
      by_cases e : m = i
      · subst e; exact dep hi hm'
      · rw [gset (fun e' => e e'.symm)] at hm
        exact hc m hm m' hm'
    by_cases e2 : i = m'
    · subst e2; exact set_self hi
    · rw [gset e2]; exact key
  refine wpIn_region_J (J := RO ops k m D I lo z sa u1 v1 a0) hm hb ?_ (fun listed a w i hj hi => ?_) fun listed a w hj hall' => ?_
  · have hno : ∀ i, (Array.replicate ops.size false).getD i false = true → False := fun i hl => by
      rw [Array.getD_eq_getD_getElem?] at hl
      rcases Nat.lt_or_ge i ops.size with h | h <;> simp [h] at hl
    exact ⟨hd, hz, fun _ _ _ => rfl, h0, fun j d v _ hl => (hno j hl).elim, fun i hl => (hno i hl).elim, fun hl => (hno _ hl).elim⟩
  · have his : i < ops.size := by
      obtain ⟨_, o, h3, _⟩ := mem_ready.1 hi
      exact (Array.getElem?_eq_some_iff.1 h3).1
    have hcl := clo listed i hi hj.closed
    have hold := fun (s : Nat) (hs : (D.filterMap (fun x => x)).all (fun x => x.1 != s) = true) (h1 : s ≠ sa) => hj.old s (fun x hx => by simpa using List.all_eq_true.1 hs x hx) h1
    by_cases hik : i = k
    · subst hik
      refine wpOpIn_mono (fun a' w' h => ?_) (hA a w hj.defers hj.size)
      obtain ⟨h1, h2, rfl⟩ := h
      obtain ⟨e1, e2⟩ := evs a a' sa _ h2
      have hns : listed.getD m false = false := by
        cases h : listed.getD m false with
        | false => rfl
        | true =>
          have h3 := hj.closed m h i hdm
          rw [not_yet hi] at h3; cases h3
      refine ⟨h1, by rw [h2]; simpa using hj.size, fun s hs h5 => ?_, hIg _ _ hj.inv, fun j d v hjd hl => ?_, hcl, fun h => ?_⟩
      · rw [e1 s h5]; exact hj.old s hs h5
      · rw [gset (fun e' => hne hjd e'.symm)] at hl
        rw [e1 d (hkey hjd).1]
        exact hj.fact j d v hjd hl
      · refine ⟨w.heap.size, 0, 0, e2 (by rw [hj.size]; exact hsa), hlo _ hj.inv, heap_new _ _, fun h => ?_⟩
        rw [gset hkm, hns] at h
        cases h
    · by_cases him : i = m
      · subst him
        obtain ⟨p, u, v, q1, q2, q3, _⟩ := hj.ga (dep hi hdm)
        refine wpOpIn_mono (fun a' w' h => ?_) (hS a w p u v hj.defers hj.size q1 q3 fun j d v hdep e => hj.fact j d v e (dep hi hdep))
        obtain ⟨h1, h2, rfl⟩ := h
        have e1 : ∀ s, a'.eval (.tmp s) = a.eval (.tmp s) := fun s => by simp only [Act.eval, h2]
        refine ⟨h1, by rw [h2]; exact hj.size, fun s hs h5 => by rw [e1]; exact hj.old s hs h5, hIs _ _ _ _ (hIs _ _ _ _ hj.inv q2) q2, fun j d v hjd hl => ?_, hcl, fun h => ?_⟩
        · rw [gset (fun e' => hne2 hjd e'.symm)] at hl
          rw [e1]
          exact hj.fact j d v hjd hl
        · exact ⟨p, u1, v1, by rw [e1]; exact q1, q2, q3.set u1 v1, fun _ => ⟨rfl, rfl⟩⟩
      · refine wpOpIn_mono (fun a' w' h => ?_) (hJ i a w his hik him hj.defers hj.size hold (fun m d v hdep e => hj.fact m d v e (dep hi hdep)) hj.inv)
        obtain ⟨d, v, hD, h1, h2, h3, h4⟩ := h
        obtain ⟨e1, e2⟩ := evs a a' d v h2
        obtain ⟨hda, hdz, hne1⟩ := hkey hD
        refine ⟨h1, by rw [h2]; simpa using hj.size, fun s hs h5 => ?_, h3, fun j d' v' hjd hl => ?_, hcl, fun h => ?_⟩
        · rw [e1 s fun e => hs _ (hmemD hD) e.symm]; exact hj.old s hs h5
        · by_cases e : j = i
          · subst e
            rw [hD] at hjd
            cases hjd
            exact e2 (by rw [hj.size]; exact hdz)
          · rw [gset (fun e' => e e'.symm)] at hl
            rw [e1 d' (hne1 j d' v' e hjd)]
            exact hj.fact j d' v' hjd hl
        · rw [gset hik] at h
          obtain ⟨p, u, v', q1, q2, q3, q4⟩ := hj.ga h
          exact ⟨p, u, v', by rw [e1 sa (Ne.symm hda)]; exact q1, q2, q3.below h4, fun h => q4 (by rwa [gset him] at h)⟩
  · obtain ⟨p, u, v, p1, p2, p3, p4⟩ := hj.ga (hall' k hks)
    obtain ⟨rfl, rfl⟩ := p4 (hall' m hms)
    have h1 := hE w p hj.inv p2 p3
    have e0 : (D.filterMap (fun x => x) ++ [((sa, Value.pointer (some ⟨p, 0, none⟩)) : Nat × Value)]).foldl (fun (t : Array Value) (x : Nat × Value) => t.setIfInBounds x.1 x.2) a0.tmps = a.tmps := by
      refine fold_set a _ a0.tmps (by rw [hz, hj.size]) (fun x hx => ?_) fun s hs => ?_
      · rcases List.mem_append.1 hx with hx | hx
        · obtain ⟨j, hj'⟩ := hDmem x hx
          exact hj.fact j x.1 x.2 hj' (hall' j (by rw [← hlen]; exact (List.getElem?_eq_some_iff.1 hj').1))
        · simp only [List.mem_cons, List.not_mem_nil, or_false] at hx
          subst hx
          exact p1
      · exact (hj.old s (fun x hx => hs x (List.mem_append_left _ hx)) (fun e => hs (sa, .pointer (some ⟨p, 0, none⟩)) (by simp) e.symm)).symm
    rw [List.foldl_append] at e0
    simp only [List.foldl_cons, List.foldl_nil] at e0
    rw [e0] at h1
    obtain ⟨tm, df⟩ := a
    have hdf := hj.defers
    simp only at hdf
    subst hdf
    exact h1
end
end Go.Proofs.YtlabfeofejemjaaGreat
end
section
namespace Go.Proofs.YtlabfeofejemjaaGreat
open Go.RowKit
def bU (r : Rl) (sh : Nat → Sh) (d : Int) : Nat → Int
  | 0 => -1073741824
  | k + 1 => max (bU r sh d k) (reachU r (sh k) d)
def bV (r : Rl) (sh : Nat → Sh) (d : Int) : Nat → Int
  | 0 => 1073741824
  | k + 1 => min (bV r sh d k) (reachV r (sh k) d)
theorem box_cells {W w : World} {r : Rl} {A : Option Addr} {n c : Nat} {t : TypeId} (h : Below (W.heap.size + 1) (W.alloc (.cells #[.int .i64 r.ls, .int .i64 r.ms, .int .i64 r.wd, .int .i64 r.lt, .slice A n c] t)) w) :
    w.cell? ⟨W.heap.size, 0, none⟩ = some (.int .i64 r.ls) ∧ w.cell? ⟨W.heap.size, 1, none⟩ = some (.int .i64 r.ms) ∧ w.cell? ⟨W.heap.size, 2, none⟩ = some (.int .i64 r.wd) ∧ w.cell? ⟨W.heap.size, 3, none⟩ = some (.int .i64 r.lt) ∧ w.cell? ⟨W.heap.size, 4, none⟩ = some (.slice A n c) := by
  refine ⟨?_, ?_, ?_, ?_, ?_⟩ <;> (rw [h.cell (by simp)]; go_simp)
end Go.Proofs.YtlabfeofejemjaaGreat
end
section
namespace Go.Proofs.YtlabfeofejemjaaGreat
open Go.RowKit
def agreeB (r : Rl) (x y : Sh) : Bool := decide (max (reachU r x y.d) (wideU r y) ≤ min (reachV r x y.d) (wideV r y))
theorem common_says (a b x y : Int) : ∃ (cu cv : Int) (g : Bool), g = decide (max a x ≤ min b y) ∧ ∀ w e w', SaysCommon a b x y w e w' → e = .returned (.tuple #[spanV cu cv, .bool g]) ∧ Below w.heap.size w w' := by
  by_cases h : max a x ≤ min b y
  · exact ⟨max a x, min b y, true, by simp [h], fun w e w' h1 => by
      obtain ⟨hb, ⟨_, rfl⟩ | ⟨h2, _⟩⟩ := h1
      · exact ⟨rfl, hb⟩
      · exact absurd h h2⟩
  · exact ⟨0, 0, false, by simp [h], fun w e w' h1 => by
      obtain ⟨hb, ⟨h2, _⟩ | ⟨_, rfl⟩⟩ := h1
      · exact absurd h2 h
      · exact ⟨rfl, hb⟩⟩
def SaysBool (v : Bool) (w : World) (e : Ending) (w' : World) : Prop := e = .returned (.bool v) ∧ Below w.heap.size w w'
theorem agree_any (r : Rl) (A : Option Addr) (n c i1 i2 : Nat) (sh : Nat → Sh) (W : World) (hk1 : i1 < n) (hk2 : i2 < n) (hn : n ≤ 8) (hr : Hid (RlOk r)) (hx : Hid (∀ k, k < n → ShOk (sh k))) (hsh : Hid (ShotsAt W A n sh)) :
    CallsIn Fc 0 Tryz.prog 78 #[cardV r A n c, .int .i64 i1, .int .i64 i2] W (SaysBool (agreeB r (sh i1) (sh i2)) W) := by
  have hd0 := (hx.out i2 hk2).d0
  have hd1 := (hx.out i2 hk2).d1
  have c83 := fun w (hb : Below W.heap.size W w) => reach_any r A n c i1 sh (sh i2).d w hk1 hn hd0 hd1 hr (Lib.hid (hx.out i1 hk1)) (Lib.hid (hsh.out.below hb))
  have c48 := fun w (hb : Below W.heap.size W w) => wide_any r A n c i2 sh w hk2 hn hr (Lib.hid (hx.out i2 hk2)) (Lib.hid (hsh.out.below hb))
  have C83 := Lib.hid c83
  have C48 := Lib.hid c48
  clear c83 c48 hd0 hd1
  obtain ⟨cu, cv, g, hg, hcom⟩ := common_says (reachU r (sh i1) (sh i2).d) (reachV r (sh i1) (sh i2).d) (wideU r (sh i2)) (wideV r (sh i2))
  have HCOM := Lib.hid hcom
  clear hcom
  obtain ⟨g', hg'⟩ : ∃ g', agreeB r (sh i1) (sh i2) = g' := ⟨_, rfl⟩
  rw [hg']
  unfold agreeB at hg'
  obtain rfl : g = g' := hg.trans hg'
  clear hg hg'
  obtain ⟨b, o, rfl, hy⟩ := hsh.out i2 hk2
  have HY := Lib.hid hy
  clear hy
  obtain ⟨B, hB⟩ : ∃ B : Obj, B = .cells #[.int .i64 r.ls, .int .i64 r.ms, .int .i64 r.wd, .int .i64 r.lt, .slice (some ⟨b, o, none⟩) n c] 90 := ⟨_, rfl⟩
  gi_enter Tryz.func78, Tryz.ntmps78
  gi_wp2
  rw [← hB]
  refine wpIn_region_O 17 18 7 [some (10, cardV r (some ⟨b, o, none⟩) n c), some (11, .int .i64 i1), some (12, .pointer (some ⟨W.heap.size, 0, none⟩)), some (13, .pointer (some ⟨W.heap.size, 4, none⟩)), some (14, .slice (some ⟨b, o, none⟩) n c), some (15, .int .i64 i2), some (16, .pointer (some ⟨b, o + i2 * 5, none⟩)), some (17, .pointer (some ⟨b, o + i2 * 5, none⟩)), some (18, .int .i64 (sh i2).d), some (19, spanV (reachU r (sh i1) (sh i2).d) (reachV r (sh i1) (sh i2).d)), some (20, cardV r (some ⟨b, o, none⟩) n c), some (21, .int .i64 i2), some (22, spanV (wideU r (sh i2)) (wideV r (sh i2))), some (23, .tuple #[spanV cu cv, .bool g]), some (9, .tuple #[spanV cu cv, .bool g]), some (24, spanV cu cv), some (25, .bool g), none, none, some (8, .bool g)]
    (I := fun w => Below (W.heap.size + 1) (W.alloc B) w) (lo := W.heap.size + 1) (z := 27) (u1 := cu) (v1 := cv) (by kernel_rfl) (by kernel_rfl) (by decide) (by decide) (by decide) rfl rfl rfl (by kernel_rfl) (by kernel_rfl) (by omega) (by kernel_rfl) rfl rfl
    (fun w h => by have := h.size; simpa using this) (fun w x h => h.alloc (by have := h.size; simpa using this) _) (fun w p j x h hp => h.setCell hp _) (Below.refl _ _).drew ?_ ?_ ?_ ?_
  · intro j a w hj hj1 hj2 hd hz hold hf hI
    rw [hB] at hI
    obtain ⟨c0, c1, c2, c3, c4⟩ := box_cells hI
    have HIB : Hid (Below (W.heap.size + 1) (W.alloc B) w) := Lib.hid (by rw [hB]; exact hI)
    have HSZ : W.heap.size + 1 ≤ w.heap.size := by have := hI.size; simpa using this
    have hBW : Below W.heap.size W w := ((Below.refl W.heap.size W).alloc (Nat.le_refl _) _).trans (hI.mono (by omega))
    obtain ⟨x0, x1, x2, x3, x4⟩ := HY.out.below hBW
    have HBW := Lib.hid hBW
    clear hI hBW
    have s1 := at_slot hz (hold 1 (by kernel_rfl) (by omega)) (by omega)
    have s2 := at_slot hz (hold 2 (by kernel_rfl) (by omega)) (by omega)
    have s3 := at_slot hz (hold 3 (by kernel_rfl) (by omega)) (by omega)
    clear hold
    have hjs : j = 0 ∨ j = 1 ∨ j = 2 ∨ j = 3 ∨ j = 4 ∨ j = 5 ∨ j = 6 ∨ j = 7 ∨ j = 8 ∨ j = 9 ∨ j = 10 ∨ j = 11 ∨ j = 12 ∨ j = 13 ∨ j = 14 ∨ j = 15 ∨ j = 16 ∨ j = 19 := by have : j < 20 := hj; omega
    rcases hjs with rfl | rfl | rfl | rfl | rfl | rfl | rfl | rfl | rfl | rfl | rfl | rfl | rfl | rfl | rfl | rfl | rfl | rfl
    · refine wpOpIn_step rfl fun K hK => ?_
      go_simp
      exact hK _ _ ⟨_, _, rfl, rfl, rfl, HIB.out, Below.refl _ _⟩
    · refine wpOpIn_step rfl fun K hK => ?_
      go_simp
      exact hK _ _ ⟨_, _, rfl, rfl, rfl, HIB.out, Below.refl _ _⟩
    · refine wpOpIn_step rfl fun K hK => ?_
      go_simp
      exact hK _ _ ⟨_, _, rfl, rfl, rfl, HIB.out, Below.refl _ _⟩
    · have f12 := at_slot hz (hf 2 12 _ (by kernel_rfl) rfl) (by omega)
      refine wpOpIn_step rfl fun K hK => ?_
      go_simp
      exact hK _ _ ⟨_, _, rfl, rfl, rfl, HIB.out, Below.refl _ _⟩
    · have f13 := at_slot hz (hf 3 13 _ (by kernel_rfl) rfl) (by omega)
      refine wpOpIn_step rfl fun K hK => ?_
      go_simp
      exact hK _ _ ⟨_, _, rfl, rfl, rfl, HIB.out, Below.refl _ _⟩
    · refine wpOpIn_step rfl fun K hK => ?_
      go_simp
      exact hK _ _ ⟨_, _, rfl, rfl, rfl, HIB.out, Below.refl _ _⟩
    · have f14 := at_slot hz (hf 4 14 _ (by kernel_rfl) rfl) (by omega)
      have f15 := at_slot hz (hf 5 15 _ (by kernel_rfl) rfl) (by omega)
      refine wpOpIn_step rfl fun K hK => ?_
      go_simp
      exact hK _ _ ⟨_, _, rfl, rfl, rfl, HIB.out, Below.refl _ _⟩
    · have f16 := at_slot hz (hf 6 16 _ (by kernel_rfl) rfl) (by omega)
      refine wpOpIn_step rfl fun K hK => ?_
      go_simp
      exact hK _ _ ⟨_, _, rfl, rfl, rfl, HIB.out, Below.refl _ _⟩
    · have f17 := at_slot hz (hf 7 17 _ (by kernel_rfl) rfl) (by omega)
      refine wpOpIn_step rfl fun K hK => ?_
      go_simp
      exact hK _ _ ⟨_, _, rfl, rfl, rfl, HIB.out, Below.refl _ _⟩
    · have f10 := at_slot hz (hf 0 10 _ (by kernel_rfl) rfl) (by omega)
      have f11 := at_slot hz (hf 1 11 _ (by kernel_rfl) rfl) (by omega)
      have f18 := at_slot hz (hf 8 18 _ (by kernel_rfl) rfl) (by omega)
      refine wpOpIn_step rfl fun K hK => ?_
      go_simp
      refine (C83.out w HBW.out).mono ?_
      rintro e w' ⟨rfl, hb'⟩
      exact hK _ _ ⟨_, _, rfl, rfl, rfl, HIB.out.trans (hb'.mono HSZ), hb'⟩
    · refine wpOpIn_step rfl fun K hK => ?_
      go_simp
      exact hK _ _ ⟨_, _, rfl, rfl, rfl, HIB.out, Below.refl _ _⟩
    · refine wpOpIn_step rfl fun K hK => ?_
      go_simp
      exact hK _ _ ⟨_, _, rfl, rfl, rfl, HIB.out, Below.refl _ _⟩
    · have f20 := at_slot hz (hf 10 20 _ (by kernel_rfl) rfl) (by omega)
      have f21 := at_slot hz (hf 11 21 _ (by kernel_rfl) rfl) (by omega)
      refine wpOpIn_step rfl fun K hK => ?_
      go_simp
      refine (C48.out w HBW.out).mono ?_
      rintro e w' ⟨rfl, hb'⟩
      exact hK _ _ ⟨_, _, rfl, rfl, rfl, HIB.out.trans (hb'.mono HSZ), hb'⟩
    · have f19 := at_slot hz (hf 9 19 _ (by kernel_rfl) rfl) (by omega)
      have f22 := at_slot hz (hf 12 22 _ (by kernel_rfl) rfl) (by omega)
      refine wpOpIn_step rfl fun K hK => ?_
      go_simp
      refine (common_any _ _ _ _ w).mono ?_
      intro e w' he
      obtain ⟨rfl, hb'⟩ := HCOM.out _ _ _ he
      exact hK _ _ ⟨_, _, rfl, rfl, rfl, HIB.out.trans (hb'.mono HSZ), hb'⟩
    · have f23 := at_slot hz (hf 13 23 _ (by kernel_rfl) rfl) (by omega)
      refine wpOpIn_step rfl fun K hK => ?_
      go_simp
      exact hK _ _ ⟨_, _, rfl, rfl, rfl, HIB.out, Below.refl _ _⟩
    · have f9 := at_slot hz (hf 14 9 _ (by kernel_rfl) rfl) (by omega)
      refine wpOpIn_step rfl fun K hK => ?_
      go_simp
      exact hK _ _ ⟨_, _, rfl, rfl, rfl, HIB.out, Below.refl _ _⟩
    · have f9 := at_slot hz (hf 14 9 _ (by kernel_rfl) rfl) (by omega)
      refine wpOpIn_step rfl fun K hK => ?_
      go_simp
      exact hK _ _ ⟨_, _, rfl, rfl, rfl, HIB.out, Below.refl _ _⟩
    · have f25 := at_slot hz (hf 16 25 _ (by kernel_rfl) rfl) (by omega)
      refine wpOpIn_step rfl fun K hK => ?_
      go_simp
      exact hK _ _ ⟨_, _, rfl, rfl, rfl, HIB.out, Below.refl _ _⟩
  · intro a w hd hz
    refine wpOpIn_step rfl fun K hK => ?_
    go_simp
    exact hK _ _ ⟨rfl, rfl, rfl⟩
  · intro a w p u v hd hz hp hs hf
    have f7 := at_slot hz hp (by omega)
    have f24 := at_slot hz (hf 15 24 _ (by kernel_rfl) rfl) (by omega)
    have z0 := hs.frozen 0
    have z1 := hs.frozen 1
    obtain ⟨y0, y1⟩ := hs.cell
    refine wpOpIn_step rfl fun K hK => ?_
    go_simp
    exact hK _ _ ⟨hd, rfl, rfl⟩
  · intro w p hI hp hs
    have HBW : Hid (Below W.heap.size W w) := Lib.hid (((Below.refl W.heap.size W).alloc (Nat.le_refl _) _).trans (hI.mono (by omega)))
    clear hI hs
    simp only [List.filterMap_cons, List.filterMap_nil, List.foldl_cons, List.foldl_nil, List.setIfInBounds_toArray, List.set_cons_succ, List.set_cons_zero]
    gi_wp2
    go_ret
    exact ⟨rfl, HBW.out⟩
def AllAgree (r : Rl) (sh : Nat → Sh) (n : Nat) : Prop := ∀ i j, i < j → j < n → agreeB r (sh i) (sh j) = true
structure FirstClash (r : Rl) (sh : Nat → Sh) (n i j : Nat) : Prop where
  lt : i < j
  lt' : j < n
  no : agreeB r (sh i) (sh j) = false
  row : ∀ k, i < k → k < j → agreeB r (sh i) (sh k) = true
  rows : ∀ l k, l < i → l < k → k < n → agreeB r (sh l) (sh k) = true
def SaysClash (r : Rl) (sh : Nat → Sh) (n : Nat) (W : World) (e : Ending) (w' : World) : Prop := Below W.heap.size W w' ∧ ((AllAgree r sh n ∧ e = .returned (.slice none 0 0)) ∨
  ∃ i j g, FirstClash r sh n i j ∧ e = .returned (.slice (some ⟨g, 0, none⟩) 2 2) ∧ W.heap.size ≤ g ∧ w'.cell? ⟨g, 0, none⟩ = some (.int .i64 (i : Nat)) ∧ w'.cell? ⟨g, 1, none⟩ = some (.int .i64 (j : Nat)))
theorem clash_any (r : Rl) (A : Option Addr) (n c : Nat) (sh : Nat → Sh) (W : World) (hn : n ≤ 8) (hc : n ≤ c) (hr : Hid (RlOk r)) (hx : Hid (∀ k, k < n → ShOk (sh k))) (hsh : Hid (ShotsAt W A n sh)) :
    CallsIn Fc 0 Tryz.prog 53 #[cardV r A n c] W (SaysClash r sh n W) := by
  have c78 := fun i j (hi : i < n) (hj : j < n) w (hb : Below W.heap.size W w) => agree_any r A n c i j sh w hi hj hn hr hx (Lib.hid (hsh.out.below hb))
  have C78 := Lib.hid c78
  clear c78
  obtain ⟨B, hB⟩ : ∃ B : Obj, B = .cells #[.int .i64 r.ls, .int .i64 r.ms, .int .i64 r.wd, .int .i64 r.lt, .slice A n c] 90 := ⟨_, rfl⟩
  gi_enter Tryz.func53, Tryz.ntmps53
  gi_wp2
  rw [← hB]
  gi_loopw [9] (fun iv wr => ∃ i : Nat, i ≤ n ∧ iv = .int .i64 i ∧ Below (W.heap.size + 1) (W.alloc B) wr ∧ ∀ l k, l < i → l < k → k < n → agreeB r (sh l) (sh k) = true) (fun iv _ => n - (intOf iv).toNat)
  case atStart => exact ⟨0, Nat.zero_le _, rfl, Below.refl _ _, fun l k h => by omega⟩
  case round =>
    obtain ⟨i, hi, rfl, hb, hrows⟩ := hrel
    have HB := Lib.hid hb
    have HROWS := Lib.hid hrows
    clear hb hrows
    by_cases hlt : i < n
    · have hw := wrap_small i (by omega)
      gi_wp2
      gi_loopw [4] (fun jv wr => ∃ j : Nat, i < j ∧ j ≤ n ∧ jv = .int .i64 j ∧ Below (W.heap.size + 1) (W.alloc B) wr ∧ ∀ k, i < k → k < j → agreeB r (sh i) (sh k) = true) (fun jv _ => n - (intOf jv).toNat)
      case atStart => exact ⟨i + 1, by omega, by omega, by first | rfl | go_num, HB.out, fun k h1 h2 => by omega⟩
      case round =>
        obtain ⟨j, hij, hj, rfl, hb, hrow⟩ := hrel
        have hb' := hb
        rw [hB] at hb'
        obtain ⟨c0, c1, c2, c3, c4⟩ := box_cells hb'
        have HBW : Hid (Below W.heap.size W wr) := Lib.hid (((Below.refl W.heap.size W).alloc (Nat.le_refl _) _).trans (hb.mono (by omega)))
        have HB := Lib.hid hb
        have HROW := Lib.hid hrow
        have hsz : W.heap.size + 1 ≤ wr.heap.size := by have := hb.size; simpa using this
        clear hb hb' hrow
        by_cases hjn : j < n
        · cases hag : agreeB r (sh i) (sh j) with
          | true =>
            have HAG := Lib.hid hag
            gi_wp2_with (gi_at_call 78; refine (C78.out i j hlt hjn _ HBW.out).mono ?_; rintro e w' ⟨rfl, hb1⟩; rw [HAG.out])
            go_roundw
            case rel => exact ⟨j + 1, by omega, by omega, by go_num, HB.out.trans (hb1.mono hsz), fun k h1 h2 => by
              rcases Nat.lt_succ_iff_lt_or_eq.1 h2 with h | rfl
              · exact HROW.out k h1 h
              · exact HAG.out⟩
            case measure => simp [intOf]; omega
          | false =>
            have HAG := Lib.hid hag
            gi_wp2_with (gi_at_call 78; refine (C78.out i j hlt hjn _ HBW.out).mono ?_; rintro e w' ⟨rfl, hb1⟩; rw [HAG.out]; have HB1 := Lib.hid (HBW.out.trans (hb1.mono HBW.out.size)); clear hb1)
            go_ret
            exact ⟨HB1.out.alloc HB1.out.size _, .inr ⟨i, j, w'.heap.size, ⟨hij, hjn, HAG.out, HROW.out, HROWS.out⟩, rfl, HB1.out.size, by simp, by simp⟩⟩
        · gi_wp2
          obtain rfl : j = n := by omega
          go_roundw
          case rel => exact ⟨i + 1, by omega, by go_num, HB.out, fun l k h1 h2 h3 => by
            rcases Nat.lt_succ_iff_lt_or_eq.1 h1 with h | rfl
            · exact HROWS.out l k h h2 h3
            · exact HROW.out k h2 h3⟩
          case measure => simp [intOf]; omega
    · gi_wp2
      obtain rfl : i = n := by omega
      go_ret
      exact ⟨((Below.refl W.heap.size W).alloc (Nat.le_refl _) _).trans (HB.out.mono (by omega)), .inl ⟨fun l k h1 h2 => HROWS.out l k (by omega) h1 h2, rfl⟩⟩
end Go.Proofs.YtlabfeofejemjaaGreat
end
