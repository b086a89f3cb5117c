/- A part of the proof that ArrowKnown returns true for every input: no further condition. -/
import Derived.Test.YtpdmgecbapmgdaaGreatGp0
import Derived.Laws.EntriesVeiled
set_option linter.unusedVariables false
set_option maxHeartbeats 1000000
set_option maxRecDepth 100000
section
namespace Go.Proofs.YtpdmgecbapmgdaaGreat
open Go.RowKit
def depB (ops : Array Oper) (i j : Nat) : Bool := match ops[i]? with
  | some o => o.after.toList.any fun e => e.on == j && Region.binds .any e
  | none => false
theorem dep {ops : Array Oper} {listed : Array Bool} {i j : Nat} (hi : i ∈ Region.ready .any ops listed) (hB : depB ops i j = true) : listed.getD j false = true := by
  obtain ⟨_, o, h2, h3⟩ := mem_ready.1 hi
  unfold depB at hB
  rw [h2] at hB
  obtain ⟨e, he, hb⟩ := List.any_eq_true.1 hB
  simp only [Bool.and_eq_true, beq_iff_eq] at hb
  rw [← hb.1]
  exact h3 e (by simpa using he) hb.2
theorem gset {l : Array Bool} {i j : Nat} (h : i ≠ j) : (l.setIfInBounds i true).getD j false = l.getD j false := getD_set_ne false h
theorem in_size {ops : Array Oper} {listed : Array Bool} {i : Nat} (hi : i ∈ Region.ready .any ops listed) : i < listed.size := by
  have h := (mem_ready.1 hi).1
  rcases Nat.lt_or_ge i listed.size with h' | h'
  · exact h'
  · rw [Array.getD_eq_getD_getElem?, Array.getElem?_eq_none h'] at h; simp at h
theorem not_yet {ops : Array Oper} {listed : Array Bool} {i : Nat} (hi : i ∈ Region.ready .any ops listed) : listed.getD i false = false := by
  have h := (mem_ready.1 hi).1
  have hs := in_size hi
  rw [Array.getD_eq_getD_getElem?] at h ⊢
  simp [hs] at h ⊢
  exact h
theorem set_self {ops : Array Oper} {listed : Array Bool} {i : Nat} (hi : i ∈ Region.ready .any ops listed) : (listed.setIfInBounds i true).getD i false = true := by
  have hs := in_size hi
  rw [Array.getD_eq_getD_getElem?]
  simp [hs]
theorem SpanAt.frozen {w : World} {p : Nat} {a b : Int} (h : SpanAt w p a b) (j : Nat) : w.frozen? ⟨p, j, none⟩ = false := by
  unfold SpanAt at h; simp [World.frozen?, h]
theorem SpanAt.set {w : World} {p : Nat} {a b : Int} (h : SpanAt w p a b) (x y : Int) : SpanAt ((w.setCell ⟨p, 0, none⟩ (.int .i64 x)).setCell ⟨p, 1, none⟩ (.int .i64 y)) p x y := by
  unfold SpanAt at h ⊢
  simp [World.setCell, Array.getElem?_modify, h]
theorem SpanAt.far {w : World} {p q : Nat} {a b : Int} (h : SpanAt w p a b) (hne : q ≠ p) (j : Nat) (x : Value) : SpanAt (w.setCell ⟨q, j, none⟩ x) p a b := by
  unfold SpanAt at h ⊢
  simp [World.setCell, Array.getElem?_modify, hne, h]
theorem SpanAt.below {w w' : World} {p : Nat} {a b : Int} (h : SpanAt w p a b) (hb : Below w.heap.size w w') : SpanAt w' p a b := h.grown (below_grown hb) (fun g e => by cases e)
abbrev nearOp0 (q : String) : Oper := { dst := some 12, op := Op.fieldAddr 119 (Operand.tmp 7) 0, type := 0, pos := q, after := #[], guard := none }
abbrev nearOp1 (q : String) : Oper := { dst := some 13, op := Op.load 116 (Operand.tmp 12), type := 116, pos := q, after := #[{ on := 0, ground := Ground.data }], guard := none }
abbrev nearOp2 (q : String) : Oper := { dst := some 14, op := Op.fieldAddr 99 (Operand.tmp 4) 0, type := 0, pos := q, after := #[], guard := none }
abbrev nearOp3 (q : String) : Oper := { dst := some 15, op := Op.fieldAddr 26 (Operand.tmp 14) 1, type := 0, pos := q, after := #[{ on := 2, ground := Ground.data }], guard := none }
abbrev nearOp4 (q : String) : Oper := { dst := some 16, op := Op.load 24 (Operand.tmp 15), type := 24, pos := q, after := #[{ on := 3, ground := Ground.data }], guard := none }
abbrev nearOp5 (q : String) : Oper := { dst := some 17, op := Op.move (Operand.tmp 1), type := 3, pos := q, after := #[], guard := none }
abbrev nearOp6 (q : String) : Oper := { dst := some 18, op := Op.indexAddr 24 (Operand.tmp 16) (Operand.tmp 17), type := 0, pos := q, after := #[{ on := 4, ground := Ground.data }, { on := 5, ground := Ground.data }], guard := none }
abbrev nearOp7 (q : String) : Oper := { dst := some 19, op := Op.call { callee := Callee.value (Operand.tmp 13), args := #[Operand.tmp 18], argTypes := #[136] }, type := 135, pos := q, after := #[{ on := 1, ground := Ground.data }, { on := 6, ground := Ground.data }], guard := none }
abbrev nearOp8 (q : String) : Oper := { dst := some 20, op := Op.nilCheck (Operand.tmp 19), type := 0, pos := q, after := #[{ on := 7, ground := Ground.data }], guard := none }
abbrev nearOp9 (q : String) : Oper := { dst := some 21, op := Op.load 52 (Operand.tmp 20), type := 52, pos := q, after := #[{ on := 8, ground := Ground.data }], guard := none }
abbrev nearOp10 (q : String) : Oper := { dst := some 22, op := Op.fieldAddr 119 (Operand.tmp 7) 0, type := 0, pos := q, after := #[], guard := none }
abbrev nearOp11 (q : String) : Oper := { dst := some 23, op := Op.load 116 (Operand.tmp 22), type := 116, pos := q, after := #[{ on := 10, ground := Ground.data }], guard := none }
abbrev nearOp12 (q : String) : Oper := { dst := some 24, op := Op.fieldAddr 99 (Operand.tmp 4) 0, type := 0, pos := q, after := #[], guard := none }
abbrev nearOp13 (q : String) : Oper := { dst := some 25, op := Op.fieldAddr 26 (Operand.tmp 24) 1, type := 0, pos := q, after := #[{ on := 12, ground := Ground.data }], guard := none }
abbrev nearOp14 (q : String) : Oper := { dst := some 26, op := Op.load 24 (Operand.tmp 25), type := 24, pos := q, after := #[{ on := 13, ground := Ground.data }], guard := none }
abbrev nearOp15 (q : String) : Oper := { dst := some 27, op := Op.move (Operand.tmp 2), type := 3, pos := q, after := #[], guard := none }
abbrev nearOp16 (q : String) : Oper := { dst := some 28, op := Op.indexAddr 24 (Operand.tmp 26) (Operand.tmp 27), type := 0, pos := q, after := #[{ on := 14, ground := Ground.data }, { on := 15, ground := Ground.data }], guard := none }
abbrev nearOp17 (q : String) : Oper := { dst := some 29, op := Op.call { callee := Callee.value (Operand.tmp 23), args := #[Operand.tmp 28], argTypes := #[136] }, type := 135, pos := q, after := #[{ on := 11, ground := Ground.data }, { on := 16, ground := Ground.data }, { on := 7, ground := Ground.chain }], guard := none }
abbrev nearOp18 (q : String) : Oper := { dst := some 30, op := Op.nilCheck (Operand.tmp 29), type := 0, pos := q, after := #[{ on := 17, ground := Ground.data }, { on := 22, ground := Ground.gcOnly Departure.lateStores }], guard := none }
abbrev nearOp19 (q : String) : Oper := { dst := some 31, op := Op.load 52 (Operand.tmp 30), type := 52, pos := q, after := #[{ on := 18, ground := Ground.data }, { on := 22, ground := Ground.gcOnly Departure.lateStores }], guard := none }
abbrev nearOp20 (q : String) : Oper := { dst := some 9, op := Op.alloc 52, type := 0, pos := q, after := #[], guard := none }
abbrev nearOp21 (q : String) : Oper := { dst := some 10, op := Op.alloc 52, type := 0, pos := q, after := #[], guard := none }
abbrev nearOp22 (q : String) : Oper := { dst := none, op := Op.store 52 (Operand.tmp 9) (Operand.tmp 21), type := 0, pos := q, after := #[{ on := 20, ground := Ground.data }, { on := 9, ground := Ground.data }, { on := 17, ground := Ground.chain }, { on := 0, ground := Ground.phase }, { on := 1, ground := Ground.phase }, { on := 2, ground := Ground.phase }, { on := 3, ground := Ground.phase }, { on := 4, ground := Ground.phase }, { on := 5, ground := Ground.phase }, { on := 6, ground := Ground.phase }, { on := 7, ground := Ground.phase }, { on := 8, ground := Ground.phase }, { on := 9, ground := Ground.phase }, { on := 10, ground := Ground.textOnly Departure.lateStores }, { on := 11, ground := Ground.textOnly Departure.lateStores }, { on := 12, ground := Ground.textOnly Departure.lateStores }, { on := 13, ground := Ground.textOnly Departure.lateStores }, { on := 14, ground := Ground.textOnly Departure.lateStores }, { on := 15, ground := Ground.textOnly Departure.lateStores }, { on := 16, ground := Ground.textOnly Departure.lateStores }, { on := 17, ground := Ground.textOnly Departure.lateStoresUnsure }, { on := 18, ground := Ground.textOnly Departure.lateStores }, { on := 19, ground := Ground.textOnly Departure.lateStores }, { on := 20, ground := Ground.phase }, { on := 21, ground := Ground.phase }], guard := none }
abbrev nearOp23 (q : String) : Oper := { dst := none, op := Op.store 52 (Operand.tmp 10) (Operand.tmp 31), type := 0, pos := q, after := #[{ on := 21, ground := Ground.data }, { on := 19, ground := Ground.data }, { on := 22, ground := Ground.chain }, { on := 0, ground := Ground.phase }, { on := 1, ground := Ground.phase }, { on := 2, ground := Ground.phase }, { on := 3, ground := Ground.phase }, { on := 4, ground := Ground.phase }, { on := 5, ground := Ground.phase }, { on := 6, ground := Ground.phase }, { on := 7, ground := Ground.phase }, { on := 8, ground := Ground.phase }, { on := 9, ground := Ground.phase }, { on := 10, ground := Ground.phase }, { on := 11, ground := Ground.phase }, { on := 12, ground := Ground.phase }, { on := 13, ground := Ground.phase }, { on := 14, ground := Ground.phase }, { on := 15, ground := Ground.phase }, { on := 16, ground := Ground.phase }, { on := 17, ground := Ground.phase }, { on := 18, ground := Ground.phase }, { on := 19, ground := Ground.phase }, { on := 20, ground := Ground.phase }, { on := 21, ground := Ground.phase }, { on := 22, ground := Ground.phase }], guard := none }
abbrev nearOps (q : String) : Array Oper := #[nearOp0 q, nearOp1 q, nearOp2 q, nearOp3 q, nearOp4 q, nearOp5 q, nearOp6 q, nearOp7 q, nearOp8 q, nearOp9 q, nearOp10 q, nearOp11 q, nearOp12 q, nearOp13 q, nearOp14 q, nearOp15 q, nearOp16 q, nearOp17 q, nearOp18 q, nearOp19 q, nearOp20 q, nearOp21 q, nearOp22 q, nearOp23 q]
theorem near_back {q : String} : backB .any (nearOps q) = true := by kernel_rfl
structure NearR (w : World) (bs bb b o n c i1 i2 fS of : Nat) (u1 v1 u2 v2 : Int) : Prop where
  lb : bs < w.heap.size
  lbb : bb < w.heap.size
  lb0 : b < w.heap.size
  f : w.cell? ⟨bb, 0, none⟩ = some (.func (.func fS) #[] #[])
  s : w.cell? ⟨bs, 4, none⟩ = some (.slice (some ⟨b, o, none⟩) n c)
  p1 : w.cell? ⟨b, o + i1 * 7 + of, none⟩ = some (.int .i64 u1)
  q1 : w.cell? ⟨b, o + i1 * 7 + of + 1, none⟩ = some (.int .i64 v1)
  p2 : w.cell? ⟨b, o + i2 * 7 + of, none⟩ = some (.int .i64 u2)
  q2 : w.cell? ⟨b, o + i2 * 7 + of + 1, none⟩ = some (.int .i64 v2)
theorem NearR.below {w w' : World} {bs bb b o n c i1 i2 fS of : Nat} {u1 v1 u2 v2 : Int} (h : NearR w bs bb b o n c i1 i2 fS of u1 v1 u2 v2) (hb : Below w.heap.size w w') : NearR w' bs bb b o n c i1 i2 fS of u1 v1 u2 v2 :=
  ⟨Nat.lt_of_lt_of_le h.lb hb.size, Nat.lt_of_lt_of_le h.lbb hb.size, Nat.lt_of_lt_of_le h.lb0 hb.size, Below.old hb h.f, Below.old hb h.s, Below.old hb h.p1, Below.old hb h.q1, Below.old hb h.p2, Below.old hb h.q2⟩
def NearJ (W1 : World) (t0 t3 : Value) (bs bb b o n c i1 i2 fS of : Nat) (u1 v1 u2 v2 : Int) (listed : Array Bool) (a : Act) (w : World) : Prop :=
  ∃ x9 x10 x12 x13 x14 x15 x16 x17 x18 x19 x20 x21 x22 x23 x24 x25 x26 x27 x28 x29 x30 x31 : Value, a = { tmps := #[t0, .int .i64 i1, .int .i64 i2, t3, .pointer (some ⟨bs, 0, none⟩), undef, undef, .pointer (some ⟨bb, 0, none⟩), .int .i64 0, x9, x10, undef, x12, x13, x14, x15, x16, x17, x18, x19, x20, x21, x22, x23, x24, x25, x26, x27, x28, x29, x30, x31, undef, undef, undef, undef, undef, undef, undef, undef, undef, undef, undef, undef, undef, undef, undef, undef, undef, undef, undef, undef, undef, undef, undef, undef, undef, undef, undef, undef, undef, undef, undef, undef, undef, undef], defers := [] } ∧ Below W1.heap.size W1 w ∧
  (listed.getD 0 false = true → x12 = .pointer (some ⟨bb, 0, none⟩)) ∧
  (listed.getD 1 false = true → x13 = .func (.func fS) #[] #[]) ∧
  (listed.getD 2 false = true → x14 = .pointer (some ⟨bs, 0, none⟩)) ∧
  (listed.getD 3 false = true → x15 = .pointer (some ⟨bs, 4, none⟩)) ∧
  (listed.getD 4 false = true → x16 = .slice (some ⟨b, o, none⟩) n c) ∧
  (listed.getD 5 false = true → x17 = .int .i64 i1) ∧
  (listed.getD 6 false = true → x18 = .pointer (some ⟨b, o + i1 * 7, none⟩)) ∧
  (listed.getD 7 false = true → x19 = .pointer (some ⟨b, o + i1 * 7 + of, none⟩)) ∧
  (listed.getD 8 false = true → x20 = .pointer (some ⟨b, o + i1 * 7 + of, none⟩)) ∧
  (listed.getD 9 false = true → x21 = .agg #[.int .i64 u1, .int .i64 v1]) ∧
  (listed.getD 10 false = true → x22 = .pointer (some ⟨bb, 0, none⟩)) ∧
  (listed.getD 11 false = true → x23 = .func (.func fS) #[] #[]) ∧
  (listed.getD 12 false = true → x24 = .pointer (some ⟨bs, 0, none⟩)) ∧
  (listed.getD 13 false = true → x25 = .pointer (some ⟨bs, 4, none⟩)) ∧
  (listed.getD 14 false = true → x26 = .slice (some ⟨b, o, none⟩) n c) ∧
  (listed.getD 15 false = true → x27 = .int .i64 i2) ∧
  (listed.getD 16 false = true → x28 = .pointer (some ⟨b, o + i2 * 7, none⟩)) ∧
  (listed.getD 17 false = true → x29 = .pointer (some ⟨b, o + i2 * 7 + of, none⟩)) ∧
  (listed.getD 18 false = true → x30 = .pointer (some ⟨b, o + i2 * 7 + of, none⟩)) ∧
  (listed.getD 19 false = true → x31 = .agg #[.int .i64 u2, .int .i64 v2]) ∧
  (listed.getD 20 false = true → ∃ (p : Nat) (u v : Int), x9 = .pointer (some ⟨p, 0, none⟩) ∧ W1.heap.size ≤ p ∧ SpanAt w p u v ∧ (listed.getD 22 false = true → u = u1 ∧ v = v1)) ∧
  (listed.getD 21 false = true → ∃ (p : Nat) (u v : Int), x10 = .pointer (some ⟨p, 0, none⟩) ∧ W1.heap.size ≤ p ∧ SpanAt w p u v ∧ (listed.getD 23 false = true → u = u2 ∧ v = v2)) ∧
  (listed.getD 20 false = true → listed.getD 21 false = true → x9 ≠ x10) ∧
  (listed.getD 22 false = true → listed.getD 20 false = true) ∧
  (listed.getD 23 false = true → listed.getD 21 false = true)
theorem gk {l : Array Bool} {i j : Nat} {P : Prop} (f : l.getD j false = true → P) (hne : Nat.beq i j = false) : (l.setIfInBounds i true).getD j false = true → P := fun h => f (by rwa [gset (Nat.ne_of_beq_eq_false hne)] at h)
section
variable {q : String} {W1 : World} {t0 t3 : Value} {bs bb b o n c i1 i2 fS of : Nat} {u1 v1 u2 v2 : Int} {Q : Exit → Act → World → Prop} {listed : Array Bool} {a : Act} {w : World}
structure NearC (W1 : World) (t0 t3 : Value) (bs bb b o n c i1 i2 fS of : Nat) (u1 v1 u2 v2 : Int) (listed : Array Bool) (a : Act) (w : World) : Prop where
  hR : Hid (NearR W1 bs bb b o n c i1 i2 fS of u1 v1 u2 v2)
  hn : n ≤ 9
  hn1 : i1 < n
  hn2 : i2 < n
  hfS : (fS = 105 ∧ of = 1) ∨ (fS = 107 ∧ of = 3) ∨ (fS = 109 ∧ of = 5)
  hJ : NearJ W1 t0 t3 bs bb b o n c i1 i2 fS of u1 v1 u2 v2 listed a w
abbrev NearSo (q : String) (W1 : World) (t0 t3 : Value) (bs bb b o n c i1 i2 fS of : Nat) (u1 v1 u2 v2 : Int) (Q : Exit → Act → World → Prop) (listed : Array Bool) (a : Act) (w : World) (i : Nat) : Prop := NearC W1 t0 t3 bs bb b o n c i1 i2 fS of u1 v1 u2 v2 listed a w → i ∈ Region.ready .any (nearOps q) listed → wpOpIn Fc 0 Tryz.prog (nearOps q) Q i (NearJ W1 t0 t3 bs bb b o n c i1 i2 fS of u1 v1 u2 v2 (listed.setIfInBounds i true)) a w
theorem near_op0 : NearSo q W1 t0 t3 bs bb b o n c i1 i2 fS of u1 v1 u2 v2 Q listed a w 0 := by
  rintro ⟨hR, hn, hn1, hn2, hfS, x9, x10, x12, x13, x14, x15, x16, x17, x18, x19, x20, x21, x22, x23, x24, x25, x26, x27, x28, x29, x30, x31, rfl, hb, f0, f1, f2, f3, f4, f5, f6, f7, f8, f9, f10, f11, f12, f13, f14, f15, f16, f17, f18, f19, g20, g21, g2, g22, g23⟩ hi
  have hb0 := Lib.hid hb
  have hR1 := hR.out.below hb
  obtain ⟨lb, lbb, lb0, cf, cs, cp1, cq1, cp2, cq2⟩ := hR1
  clear hb
  refine wpOpIn_step (o := nearOp0 q) rfl fun K hK => ?_
  go_simp
  exact hK _ _ ⟨x9, x10, _, x13, x14, x15, x16, x17, x18, x19, x20, x21, x22, x23, x24, x25, x26, x27, x28, x29, x30, x31, rfl, hb0, (fun _ => rfl), (gk f1 rfl), (gk f2 rfl), (gk f3 rfl), (gk f4 rfl), (gk f5 rfl), (gk f6 rfl), (gk f7 rfl), (gk f8 rfl), (gk f9 rfl), (gk f10 rfl), (gk f11 rfl), (gk f12 rfl), (gk f13 rfl), (gk f14 rfl), (gk f15 rfl), (gk f16 rfl), (gk f17 rfl), (gk f18 rfl), (gk f19 rfl), (fun h => by rw [gset (by decide)] at h; obtain ⟨p, u, v, h1, h2, h3, h4⟩ := g20 h; exact ⟨p, u, v, h1, h2, h3, fun h => h4 (by rw [gset (by decide)] at h; exact h)⟩), (fun h => by rw [gset (by decide)] at h; obtain ⟨p, u, v, h1, h2, h3, h4⟩ := g21 h; exact ⟨p, u, v, h1, h2, h3, fun h => h4 (by rw [gset (by decide)] at h; exact h)⟩), (fun h h2 => g2 (by rw [gset (by decide)] at h; exact h) (by rw [gset (by decide)] at h2; exact h2)), (fun h => by rw [gset (by decide)] at h ⊢; exact g22 h), (fun h => by rw [gset (by decide)] at h ⊢; exact g23 h)⟩
theorem near_op1 : NearSo q W1 t0 t3 bs bb b o n c i1 i2 fS of u1 v1 u2 v2 Q listed a w 1 := by
  rintro ⟨hR, hn, hn1, hn2, hfS, x9, x10, x12, x13, x14, x15, x16, x17, x18, x19, x20, x21, x22, x23, x24, x25, x26, x27, x28, x29, x30, x31, rfl, hb, f0, f1, f2, f3, f4, f5, f6, f7, f8, f9, f10, f11, f12, f13, f14, f15, f16, f17, f18, f19, g20, g21, g2, g22, g23⟩ hi
  have d0 := dep hi (j := 0) (by kernel_rfl)
  have e0 := f0 d0
  subst e0
  have hb0 := Lib.hid hb
  have hR1 := hR.out.below hb
  obtain ⟨lb, lbb, lb0, cf, cs, cp1, cq1, cp2, cq2⟩ := hR1
  clear hb
  refine wpOpIn_step (o := nearOp1 q) rfl fun K hK => ?_
  go_simp
  exact hK _ _ ⟨x9, x10, _, _, x14, x15, x16, x17, x18, x19, x20, x21, x22, x23, x24, x25, x26, x27, x28, x29, x30, x31, rfl, hb0, (fun _ => rfl), (fun _ => rfl), (gk f2 rfl), (gk f3 rfl), (gk f4 rfl), (gk f5 rfl), (gk f6 rfl), (gk f7 rfl), (gk f8 rfl), (gk f9 rfl), (gk f10 rfl), (gk f11 rfl), (gk f12 rfl), (gk f13 rfl), (gk f14 rfl), (gk f15 rfl), (gk f16 rfl), (gk f17 rfl), (gk f18 rfl), (gk f19 rfl), (fun h => by rw [gset (by decide)] at h; obtain ⟨p, u, v, h1, h2, h3, h4⟩ := g20 h; exact ⟨p, u, v, h1, h2, h3, fun h => h4 (by rw [gset (by decide)] at h; exact h)⟩), (fun h => by rw [gset (by decide)] at h; obtain ⟨p, u, v, h1, h2, h3, h4⟩ := g21 h; exact ⟨p, u, v, h1, h2, h3, fun h => h4 (by rw [gset (by decide)] at h; exact h)⟩), (fun h h2 => g2 (by rw [gset (by decide)] at h; exact h) (by rw [gset (by decide)] at h2; exact h2)), (fun h => by rw [gset (by decide)] at h ⊢; exact g22 h), (fun h => by rw [gset (by decide)] at h ⊢; exact g23 h)⟩
theorem near_op2 : NearSo q W1 t0 t3 bs bb b o n c i1 i2 fS of u1 v1 u2 v2 Q listed a w 2 := by
  rintro ⟨hR, hn, hn1, hn2, hfS, x9, x10, x12, x13, x14, x15, x16, x17, x18, x19, x20, x21, x22, x23, x24, x25, x26, x27, x28, x29, x30, x31, rfl, hb, f0, f1, f2, f3, f4, f5, f6, f7, f8, f9, f10, f11, f12, f13, f14, f15, f16, f17, f18, f19, g20, g21, g2, g22, g23⟩ hi
  have hb0 := Lib.hid hb
  have hR1 := hR.out.below hb
  obtain ⟨lb, lbb, lb0, cf, cs, cp1, cq1, cp2, cq2⟩ := hR1
  clear hb
  refine wpOpIn_step (o := nearOp2 q) rfl fun K hK => ?_
  go_simp
  exact hK _ _ ⟨x9, x10, x12, x13, _, x15, x16, x17, x18, x19, x20, x21, x22, x23, x24, x25, x26, x27, x28, x29, x30, x31, rfl, hb0, (gk f0 rfl), (gk f1 rfl), (fun _ => rfl), (gk f3 rfl), (gk f4 rfl), (gk f5 rfl), (gk f6 rfl), (gk f7 rfl), (gk f8 rfl), (gk f9 rfl), (gk f10 rfl), (gk f11 rfl), (gk f12 rfl), (gk f13 rfl), (gk f14 rfl), (gk f15 rfl), (gk f16 rfl), (gk f17 rfl), (gk f18 rfl), (gk f19 rfl), (fun h => by rw [gset (by decide)] at h; obtain ⟨p, u, v, h1, h2, h3, h4⟩ := g20 h; exact ⟨p, u, v, h1, h2, h3, fun h => h4 (by rw [gset (by decide)] at h; exact h)⟩), (fun h => by rw [gset (by decide)] at h; obtain ⟨p, u, v, h1, h2, h3, h4⟩ := g21 h; exact ⟨p, u, v, h1, h2, h3, fun h => h4 (by rw [gset (by decide)] at h; exact h)⟩), (fun h h2 => g2 (by rw [gset (by decide)] at h; exact h) (by rw [gset (by decide)] at h2; exact h2)), (fun h => by rw [gset (by decide)] at h ⊢; exact g22 h), (fun h => by rw [gset (by decide)] at h ⊢; exact g23 h)⟩
theorem near_op3 : NearSo q W1 t0 t3 bs bb b o n c i1 i2 fS of u1 v1 u2 v2 Q listed a w 3 := by
  rintro ⟨hR, hn, hn1, hn2, hfS, x9, x10, x12, x13, x14, x15, x16, x17, x18, x19, x20, x21, x22, x23, x24, x25, x26, x27, x28, x29, x30, x31, rfl, hb, f0, f1, f2, f3, f4, f5, f6, f7, f8, f9, f10, f11, f12, f13, f14, f15, f16, f17, f18, f19, g20, g21, g2, g22, g23⟩ hi
  have d2 := dep hi (j := 2) (by kernel_rfl)
  have e2 := f2 d2
  subst e2
  have hb0 := Lib.hid hb
  have hR1 := hR.out.below hb
  obtain ⟨lb, lbb, lb0, cf, cs, cp1, cq1, cp2, cq2⟩ := hR1
  clear hb
  refine wpOpIn_step (o := nearOp3 q) rfl fun K hK => ?_
  go_simp
  exact hK _ _ ⟨x9, x10, x12, x13, _, _, x16, x17, x18, x19, x20, x21, x22, x23, x24, x25, x26, x27, x28, x29, x30, x31, rfl, hb0, (gk f0 rfl), (gk f1 rfl), (fun _ => rfl), (fun _ => rfl), (gk f4 rfl), (gk f5 rfl), (gk f6 rfl), (gk f7 rfl), (gk f8 rfl), (gk f9 rfl), (gk f10 rfl), (gk f11 rfl), (gk f12 rfl), (gk f13 rfl), (gk f14 rfl), (gk f15 rfl), (gk f16 rfl), (gk f17 rfl), (gk f18 rfl), (gk f19 rfl), (fun h => by rw [gset (by decide)] at h; obtain ⟨p, u, v, h1, h2, h3, h4⟩ := g20 h; exact ⟨p, u, v, h1, h2, h3, fun h => h4 (by rw [gset (by decide)] at h; exact h)⟩), (fun h => by rw [gset (by decide)] at h; obtain ⟨p, u, v, h1, h2, h3, h4⟩ := g21 h; exact ⟨p, u, v, h1, h2, h3, fun h => h4 (by rw [gset (by decide)] at h; exact h)⟩), (fun h h2 => g2 (by rw [gset (by decide)] at h; exact h) (by rw [gset (by decide)] at h2; exact h2)), (fun h => by rw [gset (by decide)] at h ⊢; exact g22 h), (fun h => by rw [gset (by decide)] at h ⊢; exact g23 h)⟩
theorem near_op4 : NearSo q W1 t0 t3 bs bb b o n c i1 i2 fS of u1 v1 u2 v2 Q listed a w 4 := by
  rintro ⟨hR, hn, hn1, hn2, hfS, x9, x10, x12, x13, x14, x15, x16, x17, x18, x19, x20, x21, x22, x23, x24, x25, x26, x27, x28, x29, x30, x31, rfl, hb, f0, f1, f2, f3, f4, f5, f6, f7, f8, f9, f10, f11, f12, f13, f14, f15, f16, f17, f18, f19, g20, g21, g2, g22, g23⟩ hi
  have d3 := dep hi (j := 3) (by kernel_rfl)
  have e3 := f3 d3
  subst e3
  have hb0 := Lib.hid hb
  have hR1 := hR.out.below hb
  obtain ⟨lb, lbb, lb0, cf, cs, cp1, cq1, cp2, cq2⟩ := hR1
  clear hb
  refine wpOpIn_step (o := nearOp4 q) rfl fun K hK => ?_
  go_simp
  exact hK _ _ ⟨x9, x10, x12, x13, x14, _, _, x17, x18, x19, x20, x21, x22, x23, x24, x25, x26, x27, x28, x29, x30, x31, rfl, hb0, (gk f0 rfl), (gk f1 rfl), (gk f2 rfl), (fun _ => rfl), (fun _ => rfl), (gk f5 rfl), (gk f6 rfl), (gk f7 rfl), (gk f8 rfl), (gk f9 rfl), (gk f10 rfl), (gk f11 rfl), (gk f12 rfl), (gk f13 rfl), (gk f14 rfl), (gk f15 rfl), (gk f16 rfl), (gk f17 rfl), (gk f18 rfl), (gk f19 rfl), (fun h => by rw [gset (by decide)] at h; obtain ⟨p, u, v, h1, h2, h3, h4⟩ := g20 h; exact ⟨p, u, v, h1, h2, h3, fun h => h4 (by rw [gset (by decide)] at h; exact h)⟩), (fun h => by rw [gset (by decide)] at h; obtain ⟨p, u, v, h1, h2, h3, h4⟩ := g21 h; exact ⟨p, u, v, h1, h2, h3, fun h => h4 (by rw [gset (by decide)] at h; exact h)⟩), (fun h h2 => g2 (by rw [gset (by decide)] at h; exact h) (by rw [gset (by decide)] at h2; exact h2)), (fun h => by rw [gset (by decide)] at h ⊢; exact g22 h), (fun h => by rw [gset (by decide)] at h ⊢; exact g23 h)⟩
theorem near_op5 : NearSo q W1 t0 t3 bs bb b o n c i1 i2 fS of u1 v1 u2 v2 Q listed a w 5 := by
  rintro ⟨hR, hn, hn1, hn2, hfS, x9, x10, x12, x13, x14, x15, x16, x17, x18, x19, x20, x21, x22, x23, x24, x25, x26, x27, x28, x29, x30, x31, rfl, hb, f0, f1, f2, f3, f4, f5, f6, f7, f8, f9, f10, f11, f12, f13, f14, f15, f16, f17, f18, f19, g20, g21, g2, g22, g23⟩ hi
  have hb0 := Lib.hid hb
  have hR1 := hR.out.below hb
  obtain ⟨lb, lbb, lb0, cf, cs, cp1, cq1, cp2, cq2⟩ := hR1
  clear hb
  refine wpOpIn_step (o := nearOp5 q) rfl fun K hK => ?_
  go_simp
  exact hK _ _ ⟨x9, x10, x12, x13, x14, x15, x16, _, x18, x19, x20, x21, x22, x23, x24, x25, x26, x27, x28, x29, x30, x31, rfl, hb0, (gk f0 rfl), (gk f1 rfl), (gk f2 rfl), (gk f3 rfl), (gk f4 rfl), (fun _ => rfl), (gk f6 rfl), (gk f7 rfl), (gk f8 rfl), (gk f9 rfl), (gk f10 rfl), (gk f11 rfl), (gk f12 rfl), (gk f13 rfl), (gk f14 rfl), (gk f15 rfl), (gk f16 rfl), (gk f17 rfl), (gk f18 rfl), (gk f19 rfl), (fun h => by rw [gset (by decide)] at h; obtain ⟨p, u, v, h1, h2, h3, h4⟩ := g20 h; exact ⟨p, u, v, h1, h2, h3, fun h => h4 (by rw [gset (by decide)] at h; exact h)⟩), (fun h => by rw [gset (by decide)] at h; obtain ⟨p, u, v, h1, h2, h3, h4⟩ := g21 h; exact ⟨p, u, v, h1, h2, h3, fun h => h4 (by rw [gset (by decide)] at h; exact h)⟩), (fun h h2 => g2 (by rw [gset (by decide)] at h; exact h) (by rw [gset (by decide)] at h2; exact h2)), (fun h => by rw [gset (by decide)] at h ⊢; exact g22 h), (fun h => by rw [gset (by decide)] at h ⊢; exact g23 h)⟩
theorem near_op6 : NearSo q W1 t0 t3 bs bb b o n c i1 i2 fS of u1 v1 u2 v2 Q listed a w 6 := by
  rintro ⟨hR, hn, hn1, hn2, hfS, x9, x10, x12, x13, x14, x15, x16, x17, x18, x19, x20, x21, x22, x23, x24, x25, x26, x27, x28, x29, x30, x31, rfl, hb, f0, f1, f2, f3, f4, f5, f6, f7, f8, f9, f10, f11, f12, f13, f14, f15, f16, f17, f18, f19, g20, g21, g2, g22, g23⟩ hi
  have d4 := dep hi (j := 4) (by kernel_rfl)
  have d5 := dep hi (j := 5) (by kernel_rfl)
  have e4 := f4 d4
  subst e4
  have e5 := f5 d5
  subst e5
  have hb0 := Lib.hid hb
  have hR1 := hR.out.below hb
  obtain ⟨lb, lbb, lb0, cf, cs, cp1, cq1, cp2, cq2⟩ := hR1
  clear hb
  refine wpOpIn_step (o := nearOp6 q) rfl fun K hK => ?_
  go_simp
  exact hK _ _ ⟨x9, x10, x12, x13, x14, x15, _, _, _, x19, x20, x21, x22, x23, x24, x25, x26, x27, x28, x29, x30, x31, rfl, hb0, (gk f0 rfl), (gk f1 rfl), (gk f2 rfl), (gk f3 rfl), (fun _ => rfl), (fun _ => rfl), (fun _ => rfl), (gk f7 rfl), (gk f8 rfl), (gk f9 rfl), (gk f10 rfl), (gk f11 rfl), (gk f12 rfl), (gk f13 rfl), (gk f14 rfl), (gk f15 rfl), (gk f16 rfl), (gk f17 rfl), (gk f18 rfl), (gk f19 rfl), (fun h => by rw [gset (by decide)] at h; obtain ⟨p, u, v, h1, h2, h3, h4⟩ := g20 h; exact ⟨p, u, v, h1, h2, h3, fun h => h4 (by rw [gset (by decide)] at h; exact h)⟩), (fun h => by rw [gset (by decide)] at h; obtain ⟨p, u, v, h1, h2, h3, h4⟩ := g21 h; exact ⟨p, u, v, h1, h2, h3, fun h => h4 (by rw [gset (by decide)] at h; exact h)⟩), (fun h h2 => g2 (by rw [gset (by decide)] at h; exact h) (by rw [gset (by decide)] at h2; exact h2)), (fun h => by rw [gset (by decide)] at h ⊢; exact g22 h), (fun h => by rw [gset (by decide)] at h ⊢; exact g23 h)⟩
theorem near_op7 : NearSo q W1 t0 t3 bs bb b o n c i1 i2 fS of u1 v1 u2 v2 Q listed a w 7 := by
  rintro ⟨hR, hn, hn1, hn2, hfS, x9, x10, x12, x13, x14, x15, x16, x17, x18, x19, x20, x21, x22, x23, x24, x25, x26, x27, x28, x29, x30, x31, rfl, hb, f0, f1, f2, f3, f4, f5, f6, f7, f8, f9, f10, f11, f12, f13, f14, f15, f16, f17, f18, f19, g20, g21, g2, g22, g23⟩ hi
  have d1 := dep hi (j := 1) (by kernel_rfl)
  have d6 := dep hi (j := 6) (by kernel_rfl)
  have e1 := f1 d1
  subst e1
  have e6 := f6 d6
  subst e6
  have hb0 := Lib.hid hb
  have hR1 := hR.out.below hb
  obtain ⟨lb, lbb, lb0, cf, cs, cp1, cq1, cp2, cq2⟩ := hR1
  clear hb
  rcases hfS with ⟨rfl, rfl⟩ | ⟨rfl, rfl⟩ | ⟨rfl, rfl⟩
  · refine wpOpIn_step (o := nearOp7 q) rfl fun K hK => ?_
    go_simp
    refine (span0_any _ _ _).mono ?_
    rintro e w' ⟨rfl, rfl⟩
    exact hK _ _ ⟨x9, x10, x12, _, x14, x15, x16, x17, _, _, x20, x21, x22, x23, x24, x25, x26, x27, x28, x29, x30, x31, rfl, hb0, (gk f0 rfl), (fun _ => rfl), (gk f2 rfl), (gk f3 rfl), (gk f4 rfl), (gk f5 rfl), (fun _ => rfl), (fun _ => rfl), (gk f8 rfl), (gk f9 rfl), (gk f10 rfl), (gk f11 rfl), (gk f12 rfl), (gk f13 rfl), (gk f14 rfl), (gk f15 rfl), (gk f16 rfl), (gk f17 rfl), (gk f18 rfl), (gk f19 rfl), (fun h => by rw [gset (by decide)] at h; obtain ⟨p, u, v, h1, h2, h3, h4⟩ := g20 h; exact ⟨p, u, v, h1, h2, h3, fun h => h4 (by rw [gset (by decide)] at h; exact h)⟩), (fun h => by rw [gset (by decide)] at h; obtain ⟨p, u, v, h1, h2, h3, h4⟩ := g21 h; exact ⟨p, u, v, h1, h2, h3, fun h => h4 (by rw [gset (by decide)] at h; exact h)⟩), (fun h h2 => g2 (by rw [gset (by decide)] at h; exact h) (by rw [gset (by decide)] at h2; exact h2)), (fun h => by rw [gset (by decide)] at h ⊢; exact g22 h), (fun h => by rw [gset (by decide)] at h ⊢; exact g23 h)⟩
  · refine wpOpIn_step (o := nearOp7 q) rfl fun K hK => ?_
    go_simp
    refine (span1_any _ _ _).mono ?_
    rintro e w' ⟨rfl, rfl⟩
    exact hK _ _ ⟨x9, x10, x12, _, x14, x15, x16, x17, _, _, x20, x21, x22, x23, x24, x25, x26, x27, x28, x29, x30, x31, rfl, hb0, (gk f0 rfl), (fun _ => rfl), (gk f2 rfl), (gk f3 rfl), (gk f4 rfl), (gk f5 rfl), (fun _ => rfl), (fun _ => rfl), (gk f8 rfl), (gk f9 rfl), (gk f10 rfl), (gk f11 rfl), (gk f12 rfl), (gk f13 rfl), (gk f14 rfl), (gk f15 rfl), (gk f16 rfl), (gk f17 rfl), (gk f18 rfl), (gk f19 rfl), (fun h => by rw [gset (by decide)] at h; obtain ⟨p, u, v, h1, h2, h3, h4⟩ := g20 h; exact ⟨p, u, v, h1, h2, h3, fun h => h4 (by rw [gset (by decide)] at h; exact h)⟩), (fun h => by rw [gset (by decide)] at h; obtain ⟨p, u, v, h1, h2, h3, h4⟩ := g21 h; exact ⟨p, u, v, h1, h2, h3, fun h => h4 (by rw [gset (by decide)] at h; exact h)⟩), (fun h h2 => g2 (by rw [gset (by decide)] at h; exact h) (by rw [gset (by decide)] at h2; exact h2)), (fun h => by rw [gset (by decide)] at h ⊢; exact g22 h), (fun h => by rw [gset (by decide)] at h ⊢; exact g23 h)⟩
  · refine wpOpIn_step (o := nearOp7 q) rfl fun K hK => ?_
    go_simp
    refine (span2_any _ _ _).mono ?_
    rintro e w' ⟨rfl, rfl⟩
    exact hK _ _ ⟨x9, x10, x12, _, x14, x15, x16, x17, _, _, x20, x21, x22, x23, x24, x25, x26, x27, x28, x29, x30, x31, rfl, hb0, (gk f0 rfl), (fun _ => rfl), (gk f2 rfl), (gk f3 rfl), (gk f4 rfl), (gk f5 rfl), (fun _ => rfl), (fun _ => rfl), (gk f8 rfl), (gk f9 rfl), (gk f10 rfl), (gk f11 rfl), (gk f12 rfl), (gk f13 rfl), (gk f14 rfl), (gk f15 rfl), (gk f16 rfl), (gk f17 rfl), (gk f18 rfl), (gk f19 rfl), (fun h => by rw [gset (by decide)] at h; obtain ⟨p, u, v, h1, h2, h3, h4⟩ := g20 h; exact ⟨p, u, v, h1, h2, h3, fun h => h4 (by rw [gset (by decide)] at h; exact h)⟩), (fun h => by rw [gset (by decide)] at h; obtain ⟨p, u, v, h1, h2, h3, h4⟩ := g21 h; exact ⟨p, u, v, h1, h2, h3, fun h => h4 (by rw [gset (by decide)] at h; exact h)⟩), (fun h h2 => g2 (by rw [gset (by decide)] at h; exact h) (by rw [gset (by decide)] at h2; exact h2)), (fun h => by rw [gset (by decide)] at h ⊢; exact g22 h), (fun h => by rw [gset (by decide)] at h ⊢; exact g23 h)⟩
theorem near_op8 : NearSo q W1 t0 t3 bs bb b o n c i1 i2 fS of u1 v1 u2 v2 Q listed a w 8 := by
  rintro ⟨hR, hn, hn1, hn2, hfS, x9, x10, x12, x13, x14, x15, x16, x17, x18, x19, x20, x21, x22, x23, x24, x25, x26, x27, x28, x29, x30, x31, rfl, hb, f0, f1, f2, f3, f4, f5, f6, f7, f8, f9, f10, f11, f12, f13, f14, f15, f16, f17, f18, f19, g20, g21, g2, g22, g23⟩ hi
  have d7 := dep hi (j := 7) (by kernel_rfl)
  have e7 := f7 d7
  subst e7
  have hb0 := Lib.hid hb
  have hR1 := hR.out.below hb
  obtain ⟨lb, lbb, lb0, cf, cs, cp1, cq1, cp2, cq2⟩ := hR1
  clear hb
  refine wpOpIn_step (o := nearOp8 q) rfl fun K hK => ?_
  go_simp
  exact hK _ _ ⟨x9, x10, x12, x13, x14, x15, x16, x17, x18, _, _, x21, x22, x23, x24, x25, x26, x27, x28, x29, x30, x31, rfl, hb0, (gk f0 rfl), (gk f1 rfl), (gk f2 rfl), (gk f3 rfl), (gk f4 rfl), (gk f5 rfl), (gk f6 rfl), (fun _ => rfl), (fun _ => rfl), (gk f9 rfl), (gk f10 rfl), (gk f11 rfl), (gk f12 rfl), (gk f13 rfl), (gk f14 rfl), (gk f15 rfl), (gk f16 rfl), (gk f17 rfl), (gk f18 rfl), (gk f19 rfl), (fun h => by rw [gset (by decide)] at h; obtain ⟨p, u, v, h1, h2, h3, h4⟩ := g20 h; exact ⟨p, u, v, h1, h2, h3, fun h => h4 (by rw [gset (by decide)] at h; exact h)⟩), (fun h => by rw [gset (by decide)] at h; obtain ⟨p, u, v, h1, h2, h3, h4⟩ := g21 h; exact ⟨p, u, v, h1, h2, h3, fun h => h4 (by rw [gset (by decide)] at h; exact h)⟩), (fun h h2 => g2 (by rw [gset (by decide)] at h; exact h) (by rw [gset (by decide)] at h2; exact h2)), (fun h => by rw [gset (by decide)] at h ⊢; exact g22 h), (fun h => by rw [gset (by decide)] at h ⊢; exact g23 h)⟩
theorem near_op9 : NearSo q W1 t0 t3 bs bb b o n c i1 i2 fS of u1 v1 u2 v2 Q listed a w 9 := by
  rintro ⟨hR, hn, hn1, hn2, hfS, x9, x10, x12, x13, x14, x15, x16, x17, x18, x19, x20, x21, x22, x23, x24, x25, x26, x27, x28, x29, x30, x31, rfl, hb, f0, f1, f2, f3, f4, f5, f6, f7, f8, f9, f10, f11, f12, f13, f14, f15, f16, f17, f18, f19, g20, g21, g2, g22, g23⟩ hi
  have d8 := dep hi (j := 8) (by kernel_rfl)
  have e8 := f8 d8
  subst e8
  have hb0 := Lib.hid hb
  have hR1 := hR.out.below hb
  obtain ⟨lb, lbb, lb0, cf, cs, cp1, cq1, cp2, cq2⟩ := hR1
  clear hb
  refine wpOpIn_step (o := nearOp9 q) rfl fun K hK => ?_
  go_simp
  exact hK _ _ ⟨x9, x10, x12, x13, x14, x15, x16, x17, x18, x19, _, _, x22, x23, x24, x25, x26, x27, x28, x29, x30, x31, rfl, hb0, (gk f0 rfl), (gk f1 rfl), (gk f2 rfl), (gk f3 rfl), (gk f4 rfl), (gk f5 rfl), (gk f6 rfl), (gk f7 rfl), (fun _ => rfl), (fun _ => rfl), (gk f10 rfl), (gk f11 rfl), (gk f12 rfl), (gk f13 rfl), (gk f14 rfl), (gk f15 rfl), (gk f16 rfl), (gk f17 rfl), (gk f18 rfl), (gk f19 rfl), (fun h => by rw [gset (by decide)] at h; obtain ⟨p, u, v, h1, h2, h3, h4⟩ := g20 h; exact ⟨p, u, v, h1, h2, h3, fun h => h4 (by rw [gset (by decide)] at h; exact h)⟩), (fun h => by rw [gset (by decide)] at h; obtain ⟨p, u, v, h1, h2, h3, h4⟩ := g21 h; exact ⟨p, u, v, h1, h2, h3, fun h => h4 (by rw [gset (by decide)] at h; exact h)⟩), (fun h h2 => g2 (by rw [gset (by decide)] at h; exact h) (by rw [gset (by decide)] at h2; exact h2)), (fun h => by rw [gset (by decide)] at h ⊢; exact g22 h), (fun h => by rw [gset (by decide)] at h ⊢; exact g23 h)⟩
theorem near_op10 : NearSo q W1 t0 t3 bs bb b o n c i1 i2 fS of u1 v1 u2 v2 Q listed a w 10 := by
  rintro ⟨hR, hn, hn1, hn2, hfS, x9, x10, x12, x13, x14, x15, x16, x17, x18, x19, x20, x21, x22, x23, x24, x25, x26, x27, x28, x29, x30, x31, rfl, hb, f0, f1, f2, f3, f4, f5, f6, f7, f8, f9, f10, f11, f12, f13, f14, f15, f16, f17, f18, f19, g20, g21, g2, g22, g23⟩ hi
  have hb0 := Lib.hid hb
  have hR1 := hR.out.below hb
  obtain ⟨lb, lbb, lb0, cf, cs, cp1, cq1, cp2, cq2⟩ := hR1
  clear hb
  refine wpOpIn_step (o := nearOp10 q) rfl fun K hK => ?_
  go_simp
  exact hK _ _ ⟨x9, x10, x12, x13, x14, x15, x16, x17, x18, x19, x20, x21, _, x23, x24, x25, x26, x27, x28, x29, x30, x31, rfl, hb0, (gk f0 rfl), (gk f1 rfl), (gk f2 rfl), (gk f3 rfl), (gk f4 rfl), (gk f5 rfl), (gk f6 rfl), (gk f7 rfl), (gk f8 rfl), (gk f9 rfl), (fun _ => rfl), (gk f11 rfl), (gk f12 rfl), (gk f13 rfl), (gk f14 rfl), (gk f15 rfl), (gk f16 rfl), (gk f17 rfl), (gk f18 rfl), (gk f19 rfl), (fun h => by rw [gset (by decide)] at h; obtain ⟨p, u, v, h1, h2, h3, h4⟩ := g20 h; exact ⟨p, u, v, h1, h2, h3, fun h => h4 (by rw [gset (by decide)] at h; exact h)⟩), (fun h => by rw [gset (by decide)] at h; obtain ⟨p, u, v, h1, h2, h3, h4⟩ := g21 h; exact ⟨p, u, v, h1, h2, h3, fun h => h4 (by rw [gset (by decide)] at h; exact h)⟩), (fun h h2 => g2 (by rw [gset (by decide)] at h; exact h) (by rw [gset (by decide)] at h2; exact h2)), (fun h => by rw [gset (by decide)] at h ⊢; exact g22 h), (fun h => by rw [gset (by decide)] at h ⊢; exact g23 h)⟩
theorem near_op11 : NearSo q W1 t0 t3 bs bb b o n c i1 i2 fS of u1 v1 u2 v2 Q listed a w 11 := by
  rintro ⟨hR, hn, hn1, hn2, hfS, x9, x10, x12, x13, x14, x15, x16, x17, x18, x19, x20, x21, x22, x23, x24, x25, x26, x27, x28, x29, x30, x31, rfl, hb, f0, f1, f2, f3, f4, f5, f6, f7, f8, f9, f10, f11, f12, f13, f14, f15, f16, f17, f18, f19, g20, g21, g2, g22, g23⟩ hi
  have d10 := dep hi (j := 10) (by kernel_rfl)
  have e10 := f10 d10
  subst e10
  have hb0 := Lib.hid hb
  have hR1 := hR.out.below hb
  obtain ⟨lb, lbb, lb0, cf, cs, cp1, cq1, cp2, cq2⟩ := hR1
  clear hb
  refine wpOpIn_step (o := nearOp11 q) rfl fun K hK => ?_
  go_simp
  exact hK _ _ ⟨x9, x10, x12, x13, x14, x15, x16, x17, x18, x19, x20, x21, _, _, x24, x25, x26, x27, x28, x29, x30, x31, rfl, hb0, (gk f0 rfl), (gk f1 rfl), (gk f2 rfl), (gk f3 rfl), (gk f4 rfl), (gk f5 rfl), (gk f6 rfl), (gk f7 rfl), (gk f8 rfl), (gk f9 rfl), (fun _ => rfl), (fun _ => rfl), (gk f12 rfl), (gk f13 rfl), (gk f14 rfl), (gk f15 rfl), (gk f16 rfl), (gk f17 rfl), (gk f18 rfl), (gk f19 rfl), (fun h => by rw [gset (by decide)] at h; obtain ⟨p, u, v, h1, h2, h3, h4⟩ := g20 h; exact ⟨p, u, v, h1, h2, h3, fun h => h4 (by rw [gset (by decide)] at h; exact h)⟩), (fun h => by rw [gset (by decide)] at h; obtain ⟨p, u, v, h1, h2, h3, h4⟩ := g21 h; exact ⟨p, u, v, h1, h2, h3, fun h => h4 (by rw [gset (by decide)] at h; exact h)⟩), (fun h h2 => g2 (by rw [gset (by decide)] at h; exact h) (by rw [gset (by decide)] at h2; exact h2)), (fun h => by rw [gset (by decide)] at h ⊢; exact g22 h), (fun h => by rw [gset (by decide)] at h ⊢; exact g23 h)⟩
theorem near_op12 : NearSo q W1 t0 t3 bs bb b o n c i1 i2 fS of u1 v1 u2 v2 Q listed a w 12 := by
  rintro ⟨hR, hn, hn1, hn2, hfS, x9, x10, x12, x13, x14, x15, x16, x17, x18, x19, x20, x21, x22, x23, x24, x25, x26, x27, x28, x29, x30, x31, rfl, hb, f0, f1, f2, f3, f4, f5, f6, f7, f8, f9, f10, f11, f12, f13, f14, f15, f16, f17, f18, f19, g20, g21, g2, g22, g23⟩ hi
  have hb0 := Lib.hid hb
  have hR1 := hR.out.below hb
  obtain ⟨lb, lbb, lb0, cf, cs, cp1, cq1, cp2, cq2⟩ := hR1
  clear hb
  refine wpOpIn_step (o := nearOp12 q) rfl fun K hK => ?_
  go_simp
  exact hK _ _ ⟨x9, x10, x12, x13, x14, x15, x16, x17, x18, x19, x20, x21, x22, x23, _, x25, x26, x27, x28, x29, x30, x31, rfl, hb0, (gk f0 rfl), (gk f1 rfl), (gk f2 rfl), (gk f3 rfl), (gk f4 rfl), (gk f5 rfl), (gk f6 rfl), (gk f7 rfl), (gk f8 rfl), (gk f9 rfl), (gk f10 rfl), (gk f11 rfl), (fun _ => rfl), (gk f13 rfl), (gk f14 rfl), (gk f15 rfl), (gk f16 rfl), (gk f17 rfl), (gk f18 rfl), (gk f19 rfl), (fun h => by rw [gset (by decide)] at h; obtain ⟨p, u, v, h1, h2, h3, h4⟩ := g20 h; exact ⟨p, u, v, h1, h2, h3, fun h => h4 (by rw [gset (by decide)] at h; exact h)⟩), (fun h => by rw [gset (by decide)] at h; obtain ⟨p, u, v, h1, h2, h3, h4⟩ := g21 h; exact ⟨p, u, v, h1, h2, h3, fun h => h4 (by rw [gset (by decide)] at h; exact h)⟩), (fun h h2 => g2 (by rw [gset (by decide)] at h; exact h) (by rw [gset (by decide)] at h2; exact h2)), (fun h => by rw [gset (by decide)] at h ⊢; exact g22 h), (fun h => by rw [gset (by decide)] at h ⊢; exact g23 h)⟩
theorem near_op13 : NearSo q W1 t0 t3 bs bb b o n c i1 i2 fS of u1 v1 u2 v2 Q listed a w 13 := by
  rintro ⟨hR, hn, hn1, hn2, hfS, x9, x10, x12, x13, x14, x15, x16, x17, x18, x19, x20, x21, x22, x23, x24, x25, x26, x27, x28, x29, x30, x31, rfl, hb, f0, f1, f2, f3, f4, f5, f6, f7, f8, f9, f10, f11, f12, f13, f14, f15, f16, f17, f18, f19, g20, g21, g2, g22, g23⟩ hi
  have d12 := dep hi (j := 12) (by kernel_rfl)
  have e12 := f12 d12
  subst e12
  have hb0 := Lib.hid hb
  have hR1 := hR.out.below hb
  obtain ⟨lb, lbb, lb0, cf, cs, cp1, cq1, cp2, cq2⟩ := hR1
  clear hb
  refine wpOpIn_step (o := nearOp13 q) rfl fun K hK => ?_
  go_simp
  exact hK _ _ ⟨x9, x10, x12, x13, x14, x15, x16, x17, x18, x19, x20, x21, x22, x23, _, _, x26, x27, x28, x29, x30, x31, rfl, hb0, (gk f0 rfl), (gk f1 rfl), (gk f2 rfl), (gk f3 rfl), (gk f4 rfl), (gk f5 rfl), (gk f6 rfl), (gk f7 rfl), (gk f8 rfl), (gk f9 rfl), (gk f10 rfl), (gk f11 rfl), (fun _ => rfl), (fun _ => rfl), (gk f14 rfl), (gk f15 rfl), (gk f16 rfl), (gk f17 rfl), (gk f18 rfl), (gk f19 rfl), (fun h => by rw [gset (by decide)] at h; obtain ⟨p, u, v, h1, h2, h3, h4⟩ := g20 h; exact ⟨p, u, v, h1, h2, h3, fun h => h4 (by rw [gset (by decide)] at h; exact h)⟩), (fun h => by rw [gset (by decide)] at h; obtain ⟨p, u, v, h1, h2, h3, h4⟩ := g21 h; exact ⟨p, u, v, h1, h2, h3, fun h => h4 (by rw [gset (by decide)] at h; exact h)⟩), (fun h h2 => g2 (by rw [gset (by decide)] at h; exact h) (by rw [gset (by decide)] at h2; exact h2)), (fun h => by rw [gset (by decide)] at h ⊢; exact g22 h), (fun h => by rw [gset (by decide)] at h ⊢; exact g23 h)⟩
theorem near_op14 : NearSo q W1 t0 t3 bs bb b o n c i1 i2 fS of u1 v1 u2 v2 Q listed a w 14 := by
  rintro ⟨hR, hn, hn1, hn2, hfS, x9, x10, x12, x13, x14, x15, x16, x17, x18, x19, x20, x21, x22, x23, x24, x25, x26, x27, x28, x29, x30, x31, rfl, hb, f0, f1, f2, f3, f4, f5, f6, f7, f8, f9, f10, f11, f12, f13, f14, f15, f16, f17, f18, f19, g20, g21, g2, g22, g23⟩ hi
  have d13 := dep hi (j := 13) (by kernel_rfl)
  have e13 := f13 d13
  subst e13
  have hb0 := Lib.hid hb
  have hR1 := hR.out.below hb
  obtain ⟨lb, lbb, lb0, cf, cs, cp1, cq1, cp2, cq2⟩ := hR1
  clear hb
  refine wpOpIn_step (o := nearOp14 q) rfl fun K hK => ?_
  go_simp
  exact hK _ _ ⟨x9, x10, x12, x13, x14, x15, x16, x17, x18, x19, x20, x21, x22, x23, x24, _, _, x27, x28, x29, x30, x31, rfl, hb0, (gk f0 rfl), (gk f1 rfl), (gk f2 rfl), (gk f3 rfl), (gk f4 rfl), (gk f5 rfl), (gk f6 rfl), (gk f7 rfl), (gk f8 rfl), (gk f9 rfl), (gk f10 rfl), (gk f11 rfl), (gk f12 rfl), (fun _ => rfl), (fun _ => rfl), (gk f15 rfl), (gk f16 rfl), (gk f17 rfl), (gk f18 rfl), (gk f19 rfl), (fun h => by rw [gset (by decide)] at h; obtain ⟨p, u, v, h1, h2, h3, h4⟩ := g20 h; exact ⟨p, u, v, h1, h2, h3, fun h => h4 (by rw [gset (by decide)] at h; exact h)⟩), (fun h => by rw [gset (by decide)] at h; obtain ⟨p, u, v, h1, h2, h3, h4⟩ := g21 h; exact ⟨p, u, v, h1, h2, h3, fun h => h4 (by rw [gset (by decide)] at h; exact h)⟩), (fun h h2 => g2 (by rw [gset (by decide)] at h; exact h) (by rw [gset (by decide)] at h2; exact h2)), (fun h => by rw [gset (by decide)] at h ⊢; exact g22 h), (fun h => by rw [gset (by decide)] at h ⊢; exact g23 h)⟩
theorem near_op15 : NearSo q W1 t0 t3 bs bb b o n c i1 i2 fS of u1 v1 u2 v2 Q listed a w 15 := by
  rintro ⟨hR, hn, hn1, hn2, hfS, x9, x10, x12, x13, x14, x15, x16, x17, x18, x19, x20, x21, x22, x23, x24, x25, x26, x27, x28, x29, x30, x31, rfl, hb, f0, f1, f2, f3, f4, f5, f6, f7, f8, f9, f10, f11, f12, f13, f14, f15, f16, f17, f18, f19, g20, g21, g2, g22, g23⟩ hi
  have hb0 := Lib.hid hb
  have hR1 := hR.out.below hb
  obtain ⟨lb, lbb, lb0, cf, cs, cp1, cq1, cp2, cq2⟩ := hR1
  clear hb
  refine wpOpIn_step (o := nearOp15 q) rfl fun K hK => ?_
  go_simp
  exact hK _ _ ⟨x9, x10, x12, x13, x14, x15, x16, x17, x18, x19, x20, x21, x22, x23, x24, x25, x26, _, x28, x29, x30, x31, rfl, hb0, (gk f0 rfl), (gk f1 rfl), (gk f2 rfl), (gk f3 rfl), (gk f4 rfl), (gk f5 rfl), (gk f6 rfl), (gk f7 rfl), (gk f8 rfl), (gk f9 rfl), (gk f10 rfl), (gk f11 rfl), (gk f12 rfl), (gk f13 rfl), (gk f14 rfl), (fun _ => rfl), (gk f16 rfl), (gk f17 rfl), (gk f18 rfl), (gk f19 rfl), (fun h => by rw [gset (by decide)] at h; obtain ⟨p, u, v, h1, h2, h3, h4⟩ := g20 h; exact ⟨p, u, v, h1, h2, h3, fun h => h4 (by rw [gset (by decide)] at h; exact h)⟩), (fun h => by rw [gset (by decide)] at h; obtain ⟨p, u, v, h1, h2, h3, h4⟩ := g21 h; exact ⟨p, u, v, h1, h2, h3, fun h => h4 (by rw [gset (by decide)] at h; exact h)⟩), (fun h h2 => g2 (by rw [gset (by decide)] at h; exact h) (by rw [gset (by decide)] at h2; exact h2)), (fun h => by rw [gset (by decide)] at h ⊢; exact g22 h), (fun h => by rw [gset (by decide)] at h ⊢; exact g23 h)⟩
theorem near_op16 : NearSo q W1 t0 t3 bs bb b o n c i1 i2 fS of u1 v1 u2 v2 Q listed a w 16 := by
  rintro ⟨hR, hn, hn1, hn2, hfS, x9, x10, x12, x13, x14, x15, x16, x17, x18, x19, x20, x21, x22, x23, x24, x25, x26, x27, x28, x29, x30, x31, rfl, hb, f0, f1, f2, f3, f4, f5, f6, f7, f8, f9, f10, f11, f12, f13, f14, f15, f16, f17, f18, f19, g20, g21, g2, g22, g23⟩ hi
  have d14 := dep hi (j := 14) (by kernel_rfl)
  have d15 := dep hi (j := 15) (by kernel_rfl)
  have e14 := f14 d14
  subst e14
  have e15 := f15 d15
  subst e15
  have hb0 := Lib.hid hb
  have hR1 := hR.out.below hb
  obtain ⟨lb, lbb, lb0, cf, cs, cp1, cq1, cp2, cq2⟩ := hR1
  clear hb
  refine wpOpIn_step (o := nearOp16 q) rfl fun K hK => ?_
  go_simp
  exact hK _ _ ⟨x9, x10, x12, x13, x14, x15, x16, x17, x18, x19, x20, x21, x22, x23, x24, x25, _, _, _, x29, x30, x31, rfl, hb0, (gk f0 rfl), (gk f1 rfl), (gk f2 rfl), (gk f3 rfl), (gk f4 rfl), (gk f5 rfl), (gk f6 rfl), (gk f7 rfl), (gk f8 rfl), (gk f9 rfl), (gk f10 rfl), (gk f11 rfl), (gk f12 rfl), (gk f13 rfl), (fun _ => rfl), (fun _ => rfl), (fun _ => rfl), (gk f17 rfl), (gk f18 rfl), (gk f19 rfl), (fun h => by rw [gset (by decide)] at h; obtain ⟨p, u, v, h1, h2, h3, h4⟩ := g20 h; exact ⟨p, u, v, h1, h2, h3, fun h => h4 (by rw [gset (by decide)] at h; exact h)⟩), (fun h => by rw [gset (by decide)] at h; obtain ⟨p, u, v, h1, h2, h3, h4⟩ := g21 h; exact ⟨p, u, v, h1, h2, h3, fun h => h4 (by rw [gset (by decide)] at h; exact h)⟩), (fun h h2 => g2 (by rw [gset (by decide)] at h; exact h) (by rw [gset (by decide)] at h2; exact h2)), (fun h => by rw [gset (by decide)] at h ⊢; exact g22 h), (fun h => by rw [gset (by decide)] at h ⊢; exact g23 h)⟩
theorem near_op17 : NearSo q W1 t0 t3 bs bb b o n c i1 i2 fS of u1 v1 u2 v2 Q listed a w 17 := by
  rintro ⟨hR, hn, hn1, hn2, hfS, x9, x10, x12, x13, x14, x15, x16, x17, x18, x19, x20, x21, x22, x23, x24, x25, x26, x27, x28, x29, x30, x31, rfl, hb, f0, f1, f2, f3, f4, f5, f6, f7, f8, f9, f10, f11, f12, f13, f14, f15, f16, f17, f18, f19, g20, g21, g2, g22, g23⟩ hi
  have d11 := dep hi (j := 11) (by kernel_rfl)
  have d16 := dep hi (j := 16) (by kernel_rfl)
  have e11 := f11 d11
  subst e11
  have e16 := f16 d16
  subst e16
  have hb0 := Lib.hid hb
  have hR1 := hR.out.below hb
  obtain ⟨lb, lbb, lb0, cf, cs, cp1, cq1, cp2, cq2⟩ := hR1
  clear hb
  rcases hfS with ⟨rfl, rfl⟩ | ⟨rfl, rfl⟩ | ⟨rfl, rfl⟩
  · refine wpOpIn_step (o := nearOp17 q) rfl fun K hK => ?_
    go_simp
    refine (span0_any _ _ _).mono ?_
    rintro e w' ⟨rfl, rfl⟩
    exact hK _ _ ⟨x9, x10, x12, x13, x14, x15, x16, x17, x18, x19, x20, x21, x22, _, x24, x25, x26, x27, _, _, x30, x31, rfl, hb0, (gk f0 rfl), (gk f1 rfl), (gk f2 rfl), (gk f3 rfl), (gk f4 rfl), (gk f5 rfl), (gk f6 rfl), (gk f7 rfl), (gk f8 rfl), (gk f9 rfl), (gk f10 rfl), (fun _ => rfl), (gk f12 rfl), (gk f13 rfl), (gk f14 rfl), (gk f15 rfl), (fun _ => rfl), (fun _ => rfl), (gk f18 rfl), (gk f19 rfl), (fun h => by rw [gset (by decide)] at h; obtain ⟨p, u, v, h1, h2, h3, h4⟩ := g20 h; exact ⟨p, u, v, h1, h2, h3, fun h => h4 (by rw [gset (by decide)] at h; exact h)⟩), (fun h => by rw [gset (by decide)] at h; obtain ⟨p, u, v, h1, h2, h3, h4⟩ := g21 h; exact ⟨p, u, v, h1, h2, h3, fun h => h4 (by rw [gset (by decide)] at h; exact h)⟩), (fun h h2 => g2 (by rw [gset (by decide)] at h; exact h) (by rw [gset (by decide)] at h2; exact h2)), (fun h => by rw [gset (by decide)] at h ⊢; exact g22 h), (fun h => by rw [gset (by decide)] at h ⊢; exact g23 h)⟩
  · refine wpOpIn_step (o := nearOp17 q) rfl fun K hK => ?_
    go_simp
    refine (span1_any _ _ _).mono ?_
    rintro e w' ⟨rfl, rfl⟩
    exact hK _ _ ⟨x9, x10, x12, x13, x14, x15, x16, x17, x18, x19, x20, x21, x22, _, x24, x25, x26, x27, _, _, x30, x31, rfl, hb0, (gk f0 rfl), (gk f1 rfl), (gk f2 rfl), (gk f3 rfl), (gk f4 rfl), (gk f5 rfl), (gk f6 rfl), (gk f7 rfl), (gk f8 rfl), (gk f9 rfl), (gk f10 rfl), (fun _ => rfl), (gk f12 rfl), (gk f13 rfl), (gk f14 rfl), (gk f15 rfl), (fun _ => rfl), (fun _ => rfl), (gk f18 rfl), (gk f19 rfl), (fun h => by rw [gset (by decide)] at h; obtain ⟨p, u, v, h1, h2, h3, h4⟩ := g20 h; exact ⟨p, u, v, h1, h2, h3, fun h => h4 (by rw [gset (by decide)] at h; exact h)⟩), (fun h => by rw [gset (by decide)] at h; obtain ⟨p, u, v, h1, h2, h3, h4⟩ := g21 h; exact ⟨p, u, v, h1, h2, h3, fun h => h4 (by rw [gset (by decide)] at h; exact h)⟩), (fun h h2 => g2 (by rw [gset (by decide)] at h; exact h) (by rw [gset (by decide)] at h2; exact h2)), (fun h => by rw [gset (by decide)] at h ⊢; exact g22 h), (fun h => by rw [gset (by decide)] at h ⊢; exact g23 h)⟩
  · refine wpOpIn_step (o := nearOp17 q) rfl fun K hK => ?_
    go_simp
    refine (span2_any _ _ _).mono ?_
    rintro e w' ⟨rfl, rfl⟩
    exact hK _ _ ⟨x9, x10, x12, x13, x14, x15, x16, x17, x18, x19, x20, x21, x22, _, x24, x25, x26, x27, _, _, x30, x31, rfl, hb0, (gk f0 rfl), (gk f1 rfl), (gk f2 rfl), (gk f3 rfl), (gk f4 rfl), (gk f5 rfl), (gk f6 rfl), (gk f7 rfl), (gk f8 rfl), (gk f9 rfl), (gk f10 rfl), (fun _ => rfl), (gk f12 rfl), (gk f13 rfl), (gk f14 rfl), (gk f15 rfl), (fun _ => rfl), (fun _ => rfl), (gk f18 rfl), (gk f19 rfl), (fun h => by rw [gset (by decide)] at h; obtain ⟨p, u, v, h1, h2, h3, h4⟩ := g20 h; exact ⟨p, u, v, h1, h2, h3, fun h => h4 (by rw [gset (by decide)] at h; exact h)⟩), (fun h => by rw [gset (by decide)] at h; obtain ⟨p, u, v, h1, h2, h3, h4⟩ := g21 h; exact ⟨p, u, v, h1, h2, h3, fun h => h4 (by rw [gset (by decide)] at h; exact h)⟩), (fun h h2 => g2 (by rw [gset (by decide)] at h; exact h) (by rw [gset (by decide)] at h2; exact h2)), (fun h => by rw [gset (by decide)] at h ⊢; exact g22 h), (fun h => by rw [gset (by decide)] at h ⊢; exact g23 h)⟩
theorem near_op18 : NearSo q W1 t0 t3 bs bb b o n c i1 i2 fS of u1 v1 u2 v2 Q listed a w 18 := by
  rintro ⟨hR, hn, hn1, hn2, hfS, x9, x10, x12, x13, x14, x15, x16, x17, x18, x19, x20, x21, x22, x23, x24, x25, x26, x27, x28, x29, x30, x31, rfl, hb, f0, f1, f2, f3, f4, f5, f6, f7, f8, f9, f10, f11, f12, f13, f14, f15, f16, f17, f18, f19, g20, g21, g2, g22, g23⟩ hi
  have d17 := dep hi (j := 17) (by kernel_rfl)
  have e17 := f17 d17
  subst e17
  have hb0 := Lib.hid hb
  have hR1 := hR.out.below hb
  obtain ⟨lb, lbb, lb0, cf, cs, cp1, cq1, cp2, cq2⟩ := hR1
  clear hb
  refine wpOpIn_step (o := nearOp18 q) rfl fun K hK => ?_
  go_simp
  exact hK _ _ ⟨x9, x10, x12, x13, x14, x15, x16, x17, x18, x19, x20, x21, x22, x23, x24, x25, x26, x27, x28, _, _, x31, rfl, hb0, (gk f0 rfl), (gk f1 rfl), (gk f2 rfl), (gk f3 rfl), (gk f4 rfl), (gk f5 rfl), (gk f6 rfl), (gk f7 rfl), (gk f8 rfl), (gk f9 rfl), (gk f10 rfl), (gk f11 rfl), (gk f12 rfl), (gk f13 rfl), (gk f14 rfl), (gk f15 rfl), (gk f16 rfl), (fun _ => rfl), (fun _ => rfl), (gk f19 rfl), (fun h => by rw [gset (by decide)] at h; obtain ⟨p, u, v, h1, h2, h3, h4⟩ := g20 h; exact ⟨p, u, v, h1, h2, h3, fun h => h4 (by rw [gset (by decide)] at h; exact h)⟩), (fun h => by rw [gset (by decide)] at h; obtain ⟨p, u, v, h1, h2, h3, h4⟩ := g21 h; exact ⟨p, u, v, h1, h2, h3, fun h => h4 (by rw [gset (by decide)] at h; exact h)⟩), (fun h h2 => g2 (by rw [gset (by decide)] at h; exact h) (by rw [gset (by decide)] at h2; exact h2)), (fun h => by rw [gset (by decide)] at h ⊢; exact g22 h), (fun h => by rw [gset (by decide)] at h ⊢; exact g23 h)⟩
theorem near_op19 : NearSo q W1 t0 t3 bs bb b o n c i1 i2 fS of u1 v1 u2 v2 Q listed a w 19 := by
  rintro ⟨hR, hn, hn1, hn2, hfS, x9, x10, x12, x13, x14, x15, x16, x17, x18, x19, x20, x21, x22, x23, x24, x25, x26, x27, x28, x29, x30, x31, rfl, hb, f0, f1, f2, f3, f4, f5, f6, f7, f8, f9, f10, f11, f12, f13, f14, f15, f16, f17, f18, f19, g20, g21, g2, g22, g23⟩ hi
  have d18 := dep hi (j := 18) (by kernel_rfl)
  have e18 := f18 d18
  subst e18
  have hb0 := Lib.hid hb
  have hR1 := hR.out.below hb
  obtain ⟨lb, lbb, lb0, cf, cs, cp1, cq1, cp2, cq2⟩ := hR1
  clear hb
  refine wpOpIn_step (o := nearOp19 q) rfl fun K hK => ?_
  go_simp
  exact hK _ _ ⟨x9, x10, x12, x13, x14, x15, x16, x17, x18, x19, x20, x21, x22, x23, x24, x25, x26, x27, x28, x29, _, _, rfl, hb0, (gk f0 rfl), (gk f1 rfl), (gk f2 rfl), (gk f3 rfl), (gk f4 rfl), (gk f5 rfl), (gk f6 rfl), (gk f7 rfl), (gk f8 rfl), (gk f9 rfl), (gk f10 rfl), (gk f11 rfl), (gk f12 rfl), (gk f13 rfl), (gk f14 rfl), (gk f15 rfl), (gk f16 rfl), (gk f17 rfl), (fun _ => rfl), (fun _ => rfl), (fun h => by rw [gset (by decide)] at h; obtain ⟨p, u, v, h1, h2, h3, h4⟩ := g20 h; exact ⟨p, u, v, h1, h2, h3, fun h => h4 (by rw [gset (by decide)] at h; exact h)⟩), (fun h => by rw [gset (by decide)] at h; obtain ⟨p, u, v, h1, h2, h3, h4⟩ := g21 h; exact ⟨p, u, v, h1, h2, h3, fun h => h4 (by rw [gset (by decide)] at h; exact h)⟩), (fun h h2 => g2 (by rw [gset (by decide)] at h; exact h) (by rw [gset (by decide)] at h2; exact h2)), (fun h => by rw [gset (by decide)] at h ⊢; exact g22 h), (fun h => by rw [gset (by decide)] at h ⊢; exact g23 h)⟩
theorem near_op20 : NearSo q W1 t0 t3 bs bb b o n c i1 i2 fS of u1 v1 u2 v2 Q listed a w 20 := by
  rintro ⟨hR, hn, hn1, hn2, hfS, x9, x10, x12, x13, x14, x15, x16, x17, x18, x19, x20, x21, x22, x23, x24, x25, x26, x27, x28, x29, x30, x31, rfl, hb, f0, f1, f2, f3, f4, f5, f6, f7, f8, f9, f10, f11, f12, f13, f14, f15, f16, f17, f18, f19, g20, g21, g2, g22, g23⟩ hi
  have hb0 := Lib.hid hb
  have hR1 := hR.out.below hb
  obtain ⟨lb, lbb, lb0, cf, cs, cp1, cq1, cp2, cq2⟩ := hR1
  clear hb
  refine wpOpIn_step (o := nearOp20 q) rfl fun K hK => ?_
  go_simp
  exact hK _ _ ⟨_, x10, x12, x13, x14, x15, x16, x17, x18, x19, x20, x21, x22, x23, x24, x25, x26, x27, x28, x29, x30, x31, rfl, Below.alloc hb0 hb0.size _, (gk f0 rfl), (gk f1 rfl), (gk f2 rfl), (gk f3 rfl), (gk f4 rfl), (gk f5 rfl), (gk f6 rfl), (gk f7 rfl), (gk f8 rfl), (gk f9 rfl), (gk f10 rfl), (gk f11 rfl), (gk f12 rfl), (gk f13 rfl), (gk f14 rfl), (gk f15 rfl), (gk f16 rfl), (gk f17 rfl), (gk f18 rfl), (gk f19 rfl), (fun _ => ⟨w.heap.size, 0, 0, rfl, hb0.size, heap_new _ _, fun h => by rw [gset (by decide)] at h; have := g22 h; rw [not_yet hi] at this; cases this⟩), (fun h => by rw [gset (by decide)] at h; obtain ⟨p, u, v, h1, h2, h3, h4⟩ := g21 h; exact ⟨p, u, v, h1, h2, heap_old h3, fun h => h4 (by rw [gset (by decide)] at h; exact h)⟩), (fun h h2 => by rw [gset (by decide)] at h2; obtain ⟨p, u, v, h1, _, h3, _⟩ := g21 h2; intro e; subst h1; cases e; exact absurd h3.lt (Nat.lt_irrefl _)), (fun _ => set_self hi), (fun h => by rw [gset (by decide)] at h ⊢; exact g23 h)⟩
theorem near_op21 : NearSo q W1 t0 t3 bs bb b o n c i1 i2 fS of u1 v1 u2 v2 Q listed a w 21 := by
  rintro ⟨hR, hn, hn1, hn2, hfS, x9, x10, x12, x13, x14, x15, x16, x17, x18, x19, x20, x21, x22, x23, x24, x25, x26, x27, x28, x29, x30, x31, rfl, hb, f0, f1, f2, f3, f4, f5, f6, f7, f8, f9, f10, f11, f12, f13, f14, f15, f16, f17, f18, f19, g20, g21, g2, g22, g23⟩ hi
  have hb0 := Lib.hid hb
  have hR1 := hR.out.below hb
  obtain ⟨lb, lbb, lb0, cf, cs, cp1, cq1, cp2, cq2⟩ := hR1
  clear hb
  refine wpOpIn_step (o := nearOp21 q) rfl fun K hK => ?_
  go_simp
  exact hK _ _ ⟨x9, _, x12, x13, x14, x15, x16, x17, x18, x19, x20, x21, x22, x23, x24, x25, x26, x27, x28, x29, x30, x31, rfl, Below.alloc hb0 hb0.size _, (gk f0 rfl), (gk f1 rfl), (gk f2 rfl), (gk f3 rfl), (gk f4 rfl), (gk f5 rfl), (gk f6 rfl), (gk f7 rfl), (gk f8 rfl), (gk f9 rfl), (gk f10 rfl), (gk f11 rfl), (gk f12 rfl), (gk f13 rfl), (gk f14 rfl), (gk f15 rfl), (gk f16 rfl), (gk f17 rfl), (gk f18 rfl), (gk f19 rfl), (fun h => by rw [gset (by decide)] at h; obtain ⟨p, u, v, h1, h2, h3, h4⟩ := g20 h; exact ⟨p, u, v, h1, h2, heap_old h3, fun h => h4 (by rw [gset (by decide)] at h; exact h)⟩), (fun _ => ⟨w.heap.size, 0, 0, rfl, hb0.size, heap_new _ _, fun h => by rw [gset (by decide)] at h; have := g23 h; rw [not_yet hi] at this; cases this⟩), (fun h h2 => by rw [gset (by decide)] at h; obtain ⟨p, u, v, h1, _, h3, _⟩ := g20 h; intro e; subst h1; cases e; exact absurd h3.lt (Nat.lt_irrefl _)), (fun h => by rw [gset (by decide)] at h ⊢; exact g22 h), (fun _ => set_self hi)⟩
theorem near_op22 : NearSo q W1 t0 t3 bs bb b o n c i1 i2 fS of u1 v1 u2 v2 Q listed a w 22 := by
  rintro ⟨hR, hn, hn1, hn2, hfS, x9, x10, x12, x13, x14, x15, x16, x17, x18, x19, x20, x21, x22, x23, x24, x25, x26, x27, x28, x29, x30, x31, rfl, hb, f0, f1, f2, f3, f4, f5, f6, f7, f8, f9, f10, f11, f12, f13, f14, f15, f16, f17, f18, f19, g20, g21, g2, g22, g23⟩ hi
  have d20 := dep hi (j := 20) (by kernel_rfl)
  have d21 := dep hi (j := 21) (by kernel_rfl)
  have d9 := dep hi (j := 9) (by kernel_rfl)
  have e9 := f9 d9
  subst e9
  have hb0 := Lib.hid hb
  have hR1 := hR.out.below hb
  obtain ⟨lb, lbb, lb0, cf, cs, cp1, cq1, cp2, cq2⟩ := hR1
  clear hb
  obtain ⟨p, u, v, e9, hp1, hp2, hp3⟩ := g20 d20
  subst e9
  obtain ⟨cp, cq⟩ := hp2.cell
  have fz0 := hp2.frozen 0
  have fz1 := hp2.frozen 1
  refine wpOpIn_step (o := nearOp22 q) rfl fun K hK => ?_
  go_simp
  exact hK _ _ ⟨_, x10, x12, x13, x14, x15, x16, x17, x18, x19, x20, _, x22, x23, x24, x25, x26, x27, x28, x29, x30, x31, rfl, (hb0.setCell hp1 _).setCell hp1 _, (gk f0 rfl), (gk f1 rfl), (gk f2 rfl), (gk f3 rfl), (gk f4 rfl), (gk f5 rfl), (gk f6 rfl), (gk f7 rfl), (gk f8 rfl), (fun _ => rfl), (gk f10 rfl), (gk f11 rfl), (gk f12 rfl), (gk f13 rfl), (gk f14 rfl), (gk f15 rfl), (gk f16 rfl), (gk f17 rfl), (gk f18 rfl), (gk f19 rfl), (fun h => ⟨p, u1, v1, rfl, hp1, hp2.set _ _, fun _ => ⟨rfl, rfl⟩⟩), (fun h => by rw [gset (by decide)] at h; obtain ⟨q, u, v, h1, h2, h3, h4⟩ := g21 h; have hne : p ≠ q := (fun e => g2 d20 h (by rw [h1, e])); exact ⟨q, u, v, h1, h2, (h3.far hne _ _).far hne _ _, fun h => h4 (by rw [gset (by decide)] at h; exact h)⟩), (fun h h2 => g2 (by rw [gset (by decide)] at h; exact h) (by rw [gset (by decide)] at h2; exact h2)), (fun _ => by rw [gset (by decide)]; exact d20), (fun h => by rw [gset (by decide)] at h ⊢; exact g23 h)⟩
theorem near_op23 : NearSo q W1 t0 t3 bs bb b o n c i1 i2 fS of u1 v1 u2 v2 Q listed a w 23 := by
  rintro ⟨hR, hn, hn1, hn2, hfS, x9, x10, x12, x13, x14, x15, x16, x17, x18, x19, x20, x21, x22, x23, x24, x25, x26, x27, x28, x29, x30, x31, rfl, hb, f0, f1, f2, f3, f4, f5, f6, f7, f8, f9, f10, f11, f12, f13, f14, f15, f16, f17, f18, f19, g20, g21, g2, g22, g23⟩ hi
  have d20 := dep hi (j := 20) (by kernel_rfl)
  have d21 := dep hi (j := 21) (by kernel_rfl)
  have d19 := dep hi (j := 19) (by kernel_rfl)
  have d22 := dep hi (j := 22) (by kernel_rfl)
  have e19 := f19 d19
  subst e19
  have hb0 := Lib.hid hb
  have hR1 := hR.out.below hb
  obtain ⟨lb, lbb, lb0, cf, cs, cp1, cq1, cp2, cq2⟩ := hR1
  clear hb
  obtain ⟨p, u, v, e9, hp1, hp2, hp3⟩ := g21 d21
  subst e9
  obtain ⟨cp, cq⟩ := hp2.cell
  have fz0 := hp2.frozen 0
  have fz1 := hp2.frozen 1
  refine wpOpIn_step (o := nearOp23 q) rfl fun K hK => ?_
  go_simp
  exact hK _ _ ⟨x9, _, x12, x13, x14, x15, x16, x17, x18, x19, x20, x21, x22, x23, x24, x25, x26, x27, x28, x29, x30, _, rfl, (hb0.setCell hp1 _).setCell hp1 _, (gk f0 rfl), (gk f1 rfl), (gk f2 rfl), (gk f3 rfl), (gk f4 rfl), (gk f5 rfl), (gk f6 rfl), (gk f7 rfl), (gk f8 rfl), (gk f9 rfl), (gk f10 rfl), (gk f11 rfl), (gk f12 rfl), (gk f13 rfl), (gk f14 rfl), (gk f15 rfl), (gk f16 rfl), (gk f17 rfl), (gk f18 rfl), (fun _ => rfl), (fun h => by rw [gset (by decide)] at h; obtain ⟨q, u, v, h1, h2, h3, h4⟩ := g20 h; have hne : p ≠ q := (fun e => g2 h d21 (by rw [h1, e])); exact ⟨q, u, v, h1, h2, (h3.far hne _ _).far hne _ _, fun h => h4 (by rw [gset (by decide)] at h; exact h)⟩), (fun h => ⟨p, u2, v2, rfl, hp1, hp2.set _ _, fun _ => ⟨rfl, rfl⟩⟩), (fun h h2 => g2 (by rw [gset (by decide)] at h; exact h) (by rw [gset (by decide)] at h2; exact h2)), (fun h => by rw [gset (by decide)] at h ⊢; exact g22 h), (fun _ => by rw [gset (by decide)]; exact d21)⟩
theorem near_op {i : Nat} : NearSo q W1 t0 t3 bs bb b o n c i1 i2 fS of u1 v1 u2 v2 Q listed a w i := by
  intro H hi
  have hlt : i < 24 := by
    obtain ⟨_, oo, h, _⟩ := mem_ready.1 hi
    exact (Array.getElem?_eq_some_iff.1 h).1
  match i, hlt, hi with
  | 0, _, hi => exact near_op0 H hi
  | 1, _, hi => exact near_op1 H hi
  | 2, _, hi => exact near_op2 H hi
  | 3, _, hi => exact near_op3 H hi
  | 4, _, hi => exact near_op4 H hi
  | 5, _, hi => exact near_op5 H hi
  | 6, _, hi => exact near_op6 H hi
  | 7, _, hi => exact near_op7 H hi
  | 8, _, hi => exact near_op8 H hi
  | 9, _, hi => exact near_op9 H hi
  | 10, _, hi => exact near_op10 H hi
  | 11, _, hi => exact near_op11 H hi
  | 12, _, hi => exact near_op12 H hi
  | 13, _, hi => exact near_op13 H hi
  | 14, _, hi => exact near_op14 H hi
  | 15, _, hi => exact near_op15 H hi
  | 16, _, hi => exact near_op16 H hi
  | 17, _, hi => exact near_op17 H hi
  | 18, _, hi => exact near_op18 H hi
  | 19, _, hi => exact near_op19 H hi
  | 20, _, hi => exact near_op20 H hi
  | 21, _, hi => exact near_op21 H hi
  | 22, _, hi => exact near_op22 H hi
  | 23, _, hi => exact near_op23 H hi
  | k + 24, h, _ => exact absurd h (by omega)
theorem near_last (hJ : NearJ W1 t0 t3 bs bb b o n c i1 i2 fS of u1 v1 u2 v2 listed a w) (hal : ∀ i, i < 24 → listed.getD i false = true) : ∃ p q' : Nat, a = { tmps := #[t0, .int .i64 i1, .int .i64 i2, t3, .pointer (some ⟨bs, 0, none⟩), undef, undef, .pointer (some ⟨bb, 0, none⟩), .int .i64 0, .pointer (some ⟨p, 0, none⟩), .pointer (some ⟨q', 0, none⟩), undef, .pointer (some ⟨bb, 0, none⟩), .func (.func fS) #[] #[], .pointer (some ⟨bs, 0, none⟩), .pointer (some ⟨bs, 4, none⟩), .slice (some ⟨b, o, none⟩) n c, .int .i64 i1, .pointer (some ⟨b, o + i1 * 7, none⟩), .pointer (some ⟨b, o + i1 * 7 + of, none⟩), .pointer (some ⟨b, o + i1 * 7 + of, none⟩), .agg #[.int .i64 u1, .int .i64 v1], .pointer (some ⟨bb, 0, none⟩), .func (.func fS) #[] #[], .pointer (some ⟨bs, 0, none⟩), .pointer (some ⟨bs, 4, none⟩), .slice (some ⟨b, o, none⟩) n c, .int .i64 i2, .pointer (some ⟨b, o + i2 * 7, none⟩), .pointer (some ⟨b, o + i2 * 7 + of, none⟩), .pointer (some ⟨b, o + i2 * 7 + of, none⟩), .agg #[.int .i64 u2, .int .i64 v2], undef, undef, undef, undef, undef, undef, undef, undef, undef, undef, undef, undef, undef, undef, undef, undef, undef, undef, undef, undef, undef, undef, undef, undef, undef, undef, undef, undef, undef, undef, undef, undef, undef, undef], defers := [] } ∧ Below W1.heap.size W1 w ∧ W1.heap.size ≤ p ∧ W1.heap.size ≤ q' ∧ SpanAt w p u1 v1 ∧ SpanAt w q' u2 v2 ∧ p ≠ q' := by
  obtain ⟨x9, x10, x12, x13, x14, x15, x16, x17, x18, x19, x20, x21, x22, x23, x24, x25, x26, x27, x28, x29, x30, x31, rfl, hb, f0, f1, f2, f3, f4, f5, f6, f7, f8, f9, f10, f11, f12, f13, f14, f15, f16, f17, f18, f19, g20, g21, g2, _, _⟩ := hJ
  have e0 := f0 (hal 0 (by decide))
  subst e0
  have e1 := f1 (hal 1 (by decide))
  subst e1
  have e2 := f2 (hal 2 (by decide))
  subst e2
  have e3 := f3 (hal 3 (by decide))
  subst e3
  have e4 := f4 (hal 4 (by decide))
  subst e4
  have e5 := f5 (hal 5 (by decide))
  subst e5
  have e6 := f6 (hal 6 (by decide))
  subst e6
  have e7 := f7 (hal 7 (by decide))
  subst e7
  have e8 := f8 (hal 8 (by decide))
  subst e8
  have e9 := f9 (hal 9 (by decide))
  subst e9
  have e10 := f10 (hal 10 (by decide))
  subst e10
  have e11 := f11 (hal 11 (by decide))
  subst e11
  have e12 := f12 (hal 12 (by decide))
  subst e12
  have e13 := f13 (hal 13 (by decide))
  subst e13
  have e14 := f14 (hal 14 (by decide))
  subst e14
  have e15 := f15 (hal 15 (by decide))
  subst e15
  have e16 := f16 (hal 16 (by decide))
  subst e16
  have e17 := f17 (hal 17 (by decide))
  subst e17
  have e18 := f18 (hal 18 (by decide))
  subst e18
  have e19 := f19 (hal 19 (by decide))
  subst e19
  obtain ⟨p, u, v, e9, hp1, hp2, hp3⟩ := g20 (hal 20 (by decide))
  obtain ⟨q, u', v', e10, hq1, hq2, hq3⟩ := g21 (hal 21 (by decide))
  obtain ⟨rfl, rfl⟩ := hp3 (hal 22 (by decide))
  obtain ⟨rfl, rfl⟩ := hq3 (hal 23 (by decide))
  subst e9
  subst e10
  exact ⟨p, q, rfl, hb, hp1, hq1, hp2, hq2, fun e => g2 (hal 20 (by decide)) (hal 21 (by decide)) (by rw [e])⟩
end
end Go.Proofs.YtpdmgecbapmgdaaGreat
end
