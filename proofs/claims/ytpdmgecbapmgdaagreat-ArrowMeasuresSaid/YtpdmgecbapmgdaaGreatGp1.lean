/- A part of the proof that ArrowMeasures returns true for every input: no further condition. -/
import Derived.Test.YtpdmgecbapmgdaaGreatGp0
import Derived.Laws.EntriesVeiled
set_option linter.unusedVariables false
set_option maxHeartbeats 1000000
set_option maxRecDepth 100000
section
namespace Go.Proofs.YtpdmgecbapmgdaaGreat
open Go.RowKit
def depB (ops : Array Oper) (i j : Nat) : Bool := match ops[i]? with
  | some o => o.after.toList.any fun e => e.on == j && Region.binds .any e
  | none => false
theorem dep {ops : Array Oper} {listed : Array Bool} {i j : Nat} (hi : i ∈ Region.ready .any ops listed) (hB : depB ops i j = true) : listed.getD j false = true := by
  obtain ⟨_, o, h2, h3⟩ := mem_ready.1 hi
  unfold depB at hB
  rw [h2] at hB
  obtain ⟨e, he, hb⟩ := List.any_eq_true.1 hB
  simp only [Bool.and_eq_true, beq_iff_eq] at hb
  rw [← hb.1]
  exact h3 e (by simpa using he) hb.2
theorem gset {l : Array Bool} {i j : Nat} (h : i ≠ j) : (l.setIfInBounds i true).getD j false = l.getD j false := getD_set_ne false h
theorem in_size {ops : Array Oper} {listed : Array Bool} {i : Nat} (hi : i ∈ Region.ready .any ops listed) : i < listed.size := by
  have h := (mem_ready.1 hi).1
  rcases Nat.lt_or_ge i listed.size with h' | h'
  · exact h'
  · rw [Array.getD_eq_getD_getElem?, Array.getElem?_eq_none h'] at h; simp at h
theorem not_yet {ops : Array Oper} {listed : Array Bool} {i : Nat} (hi : i ∈ Region.ready .any ops listed) : listed.getD i false = false := by
  have h := (mem_ready.1 hi).1
  have hs := in_size hi
  rw [Array.getD_eq_getD_getElem?] at h ⊢
  simp [hs] at h ⊢
  exact h
theorem set_self {ops : Array Oper} {listed : Array Bool} {i : Nat} (hi : i ∈ Region.ready .any ops listed) : (listed.setIfInBounds i true).getD i false = true := by
  have hs := in_size hi
  rw [Array.getD_eq_getD_getElem?]
  simp [hs]
theorem SpanAt.frozen {w : World} {p : Nat} {a b : Int} (h : SpanAt w p a b) (j : Nat) : w.frozen? ⟨p, j, none⟩ = false := by
  unfold SpanAt at h; simp [World.frozen?, h]
theorem SpanAt.set {w : World} {p : Nat} {a b : Int} (h : SpanAt w p a b) (x y : Int) : SpanAt ((w.setCell ⟨p, 0, none⟩ (.int .i64 x)).setCell ⟨p, 1, none⟩ (.int .i64 y)) p x y := by
  unfold SpanAt at h ⊢
  simp [World.setCell, Array.getElem?_modify, h]
theorem SpanAt.far {w : World} {p q : Nat} {a b : Int} (h : SpanAt w p a b) (hne : q ≠ p) (j : Nat) (x : Value) : SpanAt (w.setCell ⟨q, j, none⟩ x) p a b := by
  unfold SpanAt at h ⊢
  simp [World.setCell, Array.getElem?_modify, hne, h]
theorem SpanAt.below {w w' : World} {p : Nat} {a b : Int} (h : SpanAt w p a b) (hb : Below w.heap.size w w') : SpanAt w' p a b := h.grown (below_grown hb) (fun g e => by cases e)
structure NearR (w : World) (bs bb b o n c i1 i2 fS of : Nat) (u1 v1 u2 v2 : Int) : Prop where
  lb : bs < w.heap.size
  lbb : bb < w.heap.size
  lb0 : b < w.heap.size
  f : w.cell? ⟨bb, 0, none⟩ = some (.func (.func fS) #[] #[])
  s : w.cell? ⟨bs, 4, none⟩ = some (.slice (some ⟨b, o, none⟩) n c)
  p1 : w.cell? ⟨b, o + i1 * 7 + of, none⟩ = some (.int .i64 u1)
  q1 : w.cell? ⟨b, o + i1 * 7 + of + 1, none⟩ = some (.int .i64 v1)
  p2 : w.cell? ⟨b, o + i2 * 7 + of, none⟩ = some (.int .i64 u2)
  q2 : w.cell? ⟨b, o + i2 * 7 + of + 1, none⟩ = some (.int .i64 v2)
theorem NearR.below {w w' : World} {bs bb b o n c i1 i2 fS of : Nat} {u1 v1 u2 v2 : Int} (h : NearR w bs bb b o n c i1 i2 fS of u1 v1 u2 v2) (hb : Below w.heap.size w w') : NearR w' bs bb b o n c i1 i2 fS of u1 v1 u2 v2 :=
  ⟨Nat.lt_of_lt_of_le h.lb hb.size, Nat.lt_of_lt_of_le h.lbb hb.size, Nat.lt_of_lt_of_le h.lb0 hb.size, Below.old hb h.f, Below.old hb h.s, Below.old hb h.p1, Below.old hb h.q1, Below.old hb h.p2, Below.old hb h.q2⟩
def NearJ (W1 : World) (t0 t3 : Value) (bs bb b o n c i1 i2 fS of : Nat) (u1 v1 u2 v2 : Int) (listed : Array Bool) (a : Act) (w : World) : Prop :=
  ∃ x9 x10 x12 x13 x14 x15 x16 x17 x18 x19 x20 x21 x22 x23 x24 x25 x26 x27 x28 x29 x30 x31 : Value, a = { tmps := #[t0, .int .i64 i1, .int .i64 i2, t3, .pointer (some ⟨bs, 0, none⟩), undef, undef, .pointer (some ⟨bb, 0, none⟩), .int .i64 0, x9, x10, undef, x12, x13, x14, x15, x16, x17, x18, x19, x20, x21, x22, x23, x24, x25, x26, x27, x28, x29, x30, x31, undef, undef, undef, undef, undef, undef, undef, undef, undef, undef, undef, undef, undef, undef, undef, undef, undef, undef, undef, undef, undef, undef, undef, undef, undef, undef, undef, undef, undef, undef, undef, undef, undef, undef], defers := [] } ∧ Below W1.heap.size W1 w ∧
  (listed.getD 0 false = true → x12 = .pointer (some ⟨bb, 0, none⟩)) ∧
  (listed.getD 1 false = true → x13 = .func (.func fS) #[] #[]) ∧
  (listed.getD 2 false = true → x14 = .pointer (some ⟨bs, 0, none⟩)) ∧
  (listed.getD 3 false = true → x15 = .pointer (some ⟨bs, 4, none⟩)) ∧
  (listed.getD 4 false = true → x16 = .slice (some ⟨b, o, none⟩) n c) ∧
  (listed.getD 5 false = true → x17 = .int .i64 i1) ∧
  (listed.getD 6 false = true → x18 = .pointer (some ⟨b, o + i1 * 7, none⟩)) ∧
  (listed.getD 7 false = true → x19 = .pointer (some ⟨b, o + i1 * 7 + of, none⟩)) ∧
  (listed.getD 8 false = true → x20 = .pointer (some ⟨b, o + i1 * 7 + of, none⟩)) ∧
  (listed.getD 9 false = true → x21 = .agg #[.int .i64 u1, .int .i64 v1]) ∧
  (listed.getD 10 false = true → x22 = .pointer (some ⟨bb, 0, none⟩)) ∧
  (listed.getD 11 false = true → x23 = .func (.func fS) #[] #[]) ∧
  (listed.getD 12 false = true → x24 = .pointer (some ⟨bs, 0, none⟩)) ∧
  (listed.getD 13 false = true → x25 = .pointer (some ⟨bs, 4, none⟩)) ∧
  (listed.getD 14 false = true → x26 = .slice (some ⟨b, o, none⟩) n c) ∧
  (listed.getD 15 false = true → x27 = .int .i64 i2) ∧
  (listed.getD 16 false = true → x28 = .pointer (some ⟨b, o + i2 * 7, none⟩)) ∧
  (listed.getD 17 false = true → x29 = .pointer (some ⟨b, o + i2 * 7 + of, none⟩)) ∧
  (listed.getD 18 false = true → x30 = .pointer (some ⟨b, o + i2 * 7 + of, none⟩)) ∧
  (listed.getD 19 false = true → x31 = .agg #[.int .i64 u2, .int .i64 v2]) ∧
  (listed.getD 20 false = true → ∃ (p : Nat) (u v : Int), x9 = .pointer (some ⟨p, 0, none⟩) ∧ W1.heap.size ≤ p ∧ SpanAt w p u v ∧ (listed.getD 22 false = true → u = u1 ∧ v = v1)) ∧
  (listed.getD 21 false = true → ∃ (p : Nat) (u v : Int), x10 = .pointer (some ⟨p, 0, none⟩) ∧ W1.heap.size ≤ p ∧ SpanAt w p u v ∧ (listed.getD 23 false = true → u = u2 ∧ v = v2)) ∧
  (listed.getD 20 false = true → listed.getD 21 false = true → x9 ≠ x10) ∧
  (listed.getD 22 false = true → listed.getD 20 false = true) ∧
  (listed.getD 23 false = true → listed.getD 21 false = true)
theorem gk {l : Array Bool} {i j : Nat} {P : Prop} (f : l.getD j false = true → P) (hne : Nat.beq i j = false) : (l.setIfInBounds i true).getD j false = true → P := fun h => f (by rwa [gset (Nat.ne_of_beq_eq_false hne)] at h)
section
variable {q : String} {W1 : World} {t0 t3 : Value} {bs bb b o n c i1 i2 fS of : Nat} {u1 v1 u2 v2 : Int} {Q : Exit → Act → World → Prop} {listed : Array Bool} {a : Act} {w : World}
structure NearC (W1 : World) (t0 t3 : Value) (bs bb b o n c i1 i2 fS of : Nat) (u1 v1 u2 v2 : Int) (listed : Array Bool) (a : Act) (w : World) : Prop where
  hR : Hid (NearR W1 bs bb b o n c i1 i2 fS of u1 v1 u2 v2)
  hn : n ≤ 9
  hn1 : i1 < n
  hn2 : i2 < n
  hfS : (fS = 105 ∧ of = 1) ∨ (fS = 107 ∧ of = 3) ∨ (fS = 109 ∧ of = 5)
  hJ : NearJ W1 t0 t3 bs bb b o n c i1 i2 fS of u1 v1 u2 v2 listed a w
end
end Go.Proofs.YtpdmgecbapmgdaaGreat
end
