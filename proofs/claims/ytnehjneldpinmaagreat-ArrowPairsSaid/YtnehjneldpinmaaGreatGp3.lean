/- A part of the proof that ArrowPairs returns true for every input: no further condition. -/
import Derived.Test.YtnehjneldpinmaaGreatGp2
section
set_option linter.unusedVariables false
namespace Go.Proofs.YtnehjneldpinmaaGreat
open Go.RowKit
theorem bothZ_two (a b : Int) : bothZ a b = 2 ↔ a = 2 ∨ b = 2 := by
  unfold bothZ
  by_cases h : a = 2 ∨ b = 2
  · simp [h]
  · rw [if_neg h]
    constructor
    · intro h'
      split at h' <;> omega
    · intro h'; exact absurd h' h
theorem bothZ_one (a b : Int) : bothZ a b = 1 ↔ a = 1 ∧ b = 1 := by
  unfold bothZ
  by_cases h : a = 2 ∨ b = 2
  · rw [if_pos h]
    omega
  · rw [if_neg h]
    by_cases h1 : a = 1 ∧ b = 1
    · simp [h1]
    · rw [if_neg h1]
      constructor
      · intro h'; omega
      · intro h'; exact absurd h' h1
theorem bothZ_range (a b : Int) : bothZ a b = 0 ∨ bothZ a b = 1 ∨ bothZ a b = 2 := by
  unfold bothZ
  split
  · exact .inr (.inr rfl)
  · split
    · exact .inr (.inl rfl)
    · exact .inl rfl
theorem rowZ_two (T : Nat → Nat → Int) (l : Nat → Nat) (i : Nat) (s : Int) : ∀ j, rowZ T l i j s = 2 ↔ s = 2 ∨ ∃ k, k < j ∧ T (l k) (l i) = 2
  | 0 => by simp [rowZ]
  | j + 1 => by
    rw [rowZ, bothZ_two, rowZ_two T l i s j]
    constructor
    · rintro ((h | ⟨k, h1, h2⟩) | h)
      · exact .inl h
      · exact .inr ⟨k, by omega, h2⟩
      · exact .inr ⟨j, by omega, h⟩
    · rintro (h | ⟨k, h1, h2⟩)
      · exact .inl (.inl h)
      · rcases Nat.lt_succ_iff_lt_or_eq.1 h1 with h1 | rfl
        · exact .inl (.inr ⟨k, h1, h2⟩)
        · exact .inr h2
theorem rowZ_one (T : Nat → Nat → Int) (l : Nat → Nat) (i : Nat) (s : Int) : ∀ j, rowZ T l i j s = 1 ↔ s = 1 ∧ ∀ k, k < j → T (l k) (l i) = 1
  | 0 => by simp [rowZ]
  | j + 1 => by
    rw [rowZ, bothZ_one, rowZ_one T l i s j]
    constructor
    · rintro ⟨⟨h, h1⟩, h2⟩
      refine ⟨h, fun k hk => ?_⟩
      rcases Nat.lt_succ_iff_lt_or_eq.1 hk with hk | rfl
      · exact h1 k hk
      · exact h2
    · rintro ⟨h, h1⟩
      exact ⟨⟨h, fun k hk => h1 k (by omega)⟩, h1 j (by omega)⟩
theorem rowZ_range (T : Nat → Nat → Int) (l : Nat → Nat) (i : Nat) (s : Int) (hs : s = 0 ∨ s = 1 ∨ s = 2) : ∀ j, rowZ T l i j s = 0 ∨ rowZ T l i j s = 1 ∨ rowZ T l i j s = 2
  | 0 => hs
  | j + 1 => bothZ_range _ _
theorem listZ_range (T : Nat → Nat → Int) (l : Nat → Nat) : ∀ m, listZ T l m = 0 ∨ listZ T l m = 1 ∨ listZ T l m = 2
  | 0 => .inr (.inl rfl)
  | m + 1 => rowZ_range T l m _ (listZ_range T l m) m
theorem listZ_two (T : Nat → Nat → Int) (l : Nat → Nat) : ∀ m, listZ T l m = 2 ↔ ∃ j i, j < i ∧ i < m ∧ T (l j) (l i) = 2
  | 0 => by simp [listZ]
  | m + 1 => by
    rw [listZ, rowZ_two, listZ_two T l m]
    constructor
    · rintro (⟨j, i, h1, h2, h3⟩ | ⟨k, h1, h2⟩)
      · exact ⟨j, i, h1, by omega, h3⟩
      · exact ⟨k, m, h1, by omega, h2⟩
    · rintro ⟨j, i, h1, h2, h3⟩
      rcases Nat.lt_succ_iff_lt_or_eq.1 h2 with h2 | rfl
      · exact .inl ⟨j, i, h1, h2, h3⟩
      · exact .inr ⟨j, h1, h3⟩
theorem listZ_one (T : Nat → Nat → Int) (l : Nat → Nat) : ∀ m, listZ T l m = 1 ↔ ∀ j i, j < i → i < m → T (l j) (l i) = 1
  | 0 => by simp [listZ]
  | m + 1 => by
    rw [listZ, rowZ_one, listZ_one T l m]
    constructor
    · rintro ⟨h1, h2⟩ j i hj hi
      rcases Nat.lt_succ_iff_lt_or_eq.1 hi with hi | rfl
      · exact h1 j i hj hi
      · exact h2 j hj
    · intro h
      exact ⟨fun j i hj hi => h j i hj (by omega), fun k hk => h k m hk (by omega)⟩
theorem listZ_single (T : Nat → Nat → Int) (l : Nat → Nat) : listZ T l 1 = 1 := rfl
structure Gathered (T : Nat → Nat → Int) (l : Nat → Nat) (m i k : Nat) (all none : Bool) : Prop where
  all : all = true ↔ ∀ j t, j < t → t < m → (j < i ∨ (j = i ∧ t < k)) → T (l j) (l t) = 1
  none : none = true ↔ ∃ j t, j < t ∧ t < m ∧ (j < i ∨ (j = i ∧ t < k)) ∧ T (l j) (l t) = 2
theorem Gathered.zero (T : Nat → Nat → Int) (l : Nat → Nat) (m : Nat) : Gathered T l m 0 1 true false where
  all := ⟨fun _ j t h1 h2 h3 => by omega, fun _ => rfl⟩
  none := ⟨fun h => by simp at h, fun ⟨j, t, h1, h2, h3, h4⟩ => by omega⟩
theorem Gathered.round {T : Nat → Nat → Int} {l : Nat → Nat} {m i k : Nat} {all none : Bool} (h : Gathered T l m i k all none) (hk : m ≤ k) : Gathered T l m (i + 1) (i + 2) all none where
  all := h.all.trans ⟨fun h j t h1 h2 h3 => h j t h1 h2 (by omega), fun h j t h1 h2 h3 => h j t h1 h2 (by omega)⟩
  none := h.none.trans ⟨fun ⟨j, t, h1, h2, h3, h4⟩ => ⟨j, t, h1, h2, by omega, h4⟩, fun ⟨j, t, h1, h2, h3, h4⟩ => ⟨j, t, h1, h2, by omega, h4⟩⟩
theorem Gathered.pair {T : Nat → Nat → Int} {l : Nat → Nat} {m i k : Nat} {all none : Bool} (h : Gathered T l m i k all none) (hi : i < k) (hk : k < m) {x : Int} (h1 : x = 1 ↔ T (l i) (l k) = 1) (h2 : x = 2 ↔ T (l i) (l k) = 2) :
    Gathered T l m i (k + 1) (if all then x == 1 else false) (if none then true else x == 2) where
  all := by
    cases all with
    | false =>
      simp only [Bool.false_eq_true, if_false, false_iff]
      intro h3
      exact Bool.noConfusion (h.all.2 fun j t a b c => h3 j t a b (by omega))
    | true =>
      simp only [if_true, beq_iff_eq]
      constructor
      · intro hx j t a b c
        by_cases e : j = i ∧ t = k
        · obtain ⟨rfl, rfl⟩ := e
          exact h1.1 hx
        · exact h.all.1 rfl j t a b (by omega)
      · intro h3
        exact h1.2 (h3 i k hi hk (by omega))
  none := by
    cases none with
    | true =>
      simp only [if_true, true_iff]
      obtain ⟨j, t, a, b, c, d⟩ := h.none.1 rfl
      exact ⟨j, t, a, b, by omega, d⟩
    | false =>
      simp only [Bool.false_eq_true, if_false, beq_iff_eq]
      constructor
      · intro hx
        exact ⟨i, k, hi, hk, by omega, h2.1 hx⟩
      · rintro ⟨j, t, a, b, c, d⟩
        by_cases e : j = i ∧ t = k
        · obtain ⟨rfl, rfl⟩ := e
          exact h2.2 d
        · exact Bool.noConfusion (h.none.2 ⟨j, t, a, b, by omega, d⟩)
theorem Gathered.end {T : Nat → Nat → Int} {l : Nat → Nat} {m k : Nat} {all none : Bool} (h : Gathered T l m m k all none) : (listZ T l m == 1) = all ∧ (listZ T l m == 2) = none := by
  have a1 : listZ T l m = 1 ↔ all = true := (listZ_one T l m).trans ⟨fun h3 => h.all.2 fun j t a b _ => h3 j t a b, fun h3 j t a b => h.all.1 h3 j t a b (by omega)⟩
  have a2 : listZ T l m = 2 ↔ none = true := (listZ_two T l m).trans ⟨fun ⟨j, t, a, b, c⟩ => h.none.2 ⟨j, t, a, b, by omega, c⟩, fun h3 => by
    obtain ⟨j, t, a, b, _, c⟩ := h.none.1 h3
    exact ⟨j, t, a, b, c⟩⟩
  refine ⟨?_, ?_⟩
  · rw [Bool.eq_iff_iff, beq_iff_eq]; exact a1
  · rw [Bool.eq_iff_iff, beq_iff_eq]; exact a2
theorem Gathered.cases {T : Nat → Nat → Int} {l : Nat → Nat} {m k : Nat} {all none : Bool} (h : Gathered T l m m k all none) :
    (listZ T l m = 0 ∧ all = false ∧ none = false) ∨ (listZ T l m = 1 ∧ all = true ∧ none = false) ∨ (listZ T l m = 2 ∧ all = false ∧ none = true) := by
  obtain ⟨h1, h2⟩ := h.end
  rcases listZ_range T l m with h3 | h3 | h3 <;> rw [h3] at h1 h2 <;> simp at h1 h2
  · exact .inl ⟨h3, h1, h2⟩
  · exact .inr (.inl ⟨h3, h1, h2⟩)
  · exact .inr (.inr ⟨h3, h1, h2⟩)
end Go.Proofs.YtnehjneldpinmaaGreat
end
section
set_option linter.unusedVariables false
namespace Go.Proofs.YtnehjneldpinmaaGreat
open Go.RowKit
section
variable {F : Fence} {n : Nat} {P : Program} {Post : Act → World → Prop} {a : Act} {w : World} {b : Frame} {k : List Item} {cs : List Frame}
def Through (Post : Act → World → Prop) : Exit → Act → World → Prop
  | .normal, a, w => Post a w
  | _, _, _ => False
abbrev Comes (F : Fence) (P : Program) (b : Frame) (cs : List Frame) (a : Act) (k : List Item) (w : World) (a' : Act) (k' : List Item) (w' : World) : Prop :=
  StepsIn (Machine.fenced P F) P (lone (b.atR a k) cs w) (lone (b.atR a' k') cs w')
theorem comes_code {c : Code} (h : c.wpIn F n P (Through Post) a w) (hro : b.roundOf = F.round) (hb : F.fn b.fn) (hr : F.room (cs.length + 1 + n)) :
    ∃ a' w', Post a' w' ∧ Comes F P b cs a (.code c :: k) w a' k w' := by
  obtain ⟨e, a', w', hp, harr⟩ := h b k cs hro hb hr
  cases e with
  | normal => exact ⟨a', w', hp, harr⟩
  | _ => exact hp.elim
theorem comes_seq {x y : Code} (hb : F.fn b.fn) (hr : F.room (cs.length + 1 + n)) : Comes F P b cs a (.code (.seq x y) :: k) w a (.code x :: .code y :: k) w :=
  .one (fenced_calm hb hr rfl) stepR_seq
theorem comes_cond {c : Operand} {x y : Code} {t : Bool} (hc : a.eval c = .bool t) (hb : F.fn b.fn) (hr : F.room (cs.length + 1 + n)) : Comes F P b cs a (.code (.cond c x y) :: k) w a (.code (if t then x else y) :: k) w :=
  .one (fenced_calm hb hr rfl) (stepR_cond hc)
theorem comes_region {id : Nat} {ops : Array Oper} (hb : F.fn b.fn) (hr : F.room (cs.length + 1 + n)) : Comes F P b cs a (.code (.region id ops false) :: k) w a (.inRegion ops (List.range ops.size) :: k) w :=
  .one (fenced_calm hb hr rfl) stepR_region
def reckons : Op → Bool
  | .move _ | .assign _ | .pick _ _ _ | .binOp _ _ _ _ _ => true
  | _ => false
theorem reckons_about {o : Oper} (h : reckons o.op = true) (P : Program) (w : World) (ρ : Operand → Value) : o.about P w ρ = none := by
  unfold Oper.about
  cases hop : o.op <;> simp_all [reckons]
theorem run_value {s : Sem Value} {P : Program} {w : World} : (∃ v w', (do let v ← s; pure (Next.value v) : Sem Next).run P w = .ok (.value v) w') ∨ ∃ x w', (do let v ← s; pure (Next.value v) : Sem Next).run P w = .halt x w' := by
  rw [Sem.run_bind]
  cases s.run P w with
  | ok v w' => exact .inl ⟨v, w', rfl⟩
  | halt x w' => exact .inr ⟨x, w', rfl⟩
theorem reckons_run {o : Oper} (h : reckons o.op = true) (P : Program) (w : World) (ρ : Operand → Value) : (∃ v w', (execOp ρ o).run P w = .ok (.value v) w') ∨ ∃ x w', (execOp ρ o).run P w = .halt x w' := by
  cases hop : o.op <;> simp only [hop, reckons] at h <;> try (cases h)
  all_goals unfold execOp; simp only [hop]
  case move x => exact .inl ⟨_, _, rfl⟩
  case assign x => exact .inl ⟨_, _, rfl⟩
  case pick c x y =>
    rw [Sem.run_bind]
    cases (asBool (ρ c)).run P w with
    | ok v w' => exact .inl ⟨_, w', rfl⟩
    | halt x w' => exact .inr ⟨x, w', rfl⟩
  case binOp op t x y u => exact run_value
theorem comes_pre {ops : Array Oper} (l : List Oper) : ∀ (i : Nat) (rest : List Nat) (a : Act) (w : World), (∀ j, j < l.length → ops[i + j]? = l[j]?) → (l.all fun o => reckons o.op) = true →
    wpListIn F n P ops (Through Post) l a w → b.roundOf = F.round → F.fn b.fn → F.room (cs.length + 1 + n) →
    ∃ a' w', Post a' w' ∧ Comes F P b cs a (.inRegion ops (List.range' i l.length ++ rest) :: k) w a' (.inRegion ops rest :: k) w' := by
  induction l with
  | nil => exact fun i rest a w _ _ h _ _ _ => ⟨a, w, h, .refl _⟩
  | cons o l ih =>
    intro i rest a w hops hall h hro hb hr
    have ho : ops[i]? = some o := by simpa using hops 0 (by simp)
    have hops' : ∀ j, j < l.length → ops[i + 1 + j]? = l[j]? := fun j hj => by
      have := hops (j + 1) (by simp; omega)
      simpa [Nat.add_assoc, Nat.add_comm 1 j] using this
    simp only [List.all_cons, Bool.and_eq_true] at hall
    have hab : ∀ f, o.about P w a.eval = some f → F.fn f := fun f hf => by rw [reckons_about hall.1] at hf; cases hf
    have h0 : (lone (b.atR a (.inRegion ops (i :: (List.range' (i + 1) l.length ++ rest)) :: k)) cs w).fenced P F := fenced_oper hb hr ho hab
    have hfin : ∀ v, (b.atR a (.inRegion ops (i :: (List.range' (i + 1) l.length ++ rest)) :: k)).finish v = b.atR (a.put o.dst v) (.inRegion ops (List.range' (i + 1) l.length ++ rest) :: k) := by
      intro v; rw [Frame.finish_atR, ho]; rfl
    simp only [wpListIn] at h
    rw [List.length_cons, List.range'_succ, List.cons_append]
    by_cases hw : Region.wanted o (yielded ops a.tmps) = true
    · rw [if_pos hw] at h
      have h2 := h.2
      have hsem : o.semAt F.round a.eval = execOp a.eval o := by
        refine Oper.semAt_eq _ _ _ fun c hc => ?_
        rw [hc] at hall
        exact absurd hall.1 (by simp [reckons])
      rw [hsem] at h2
      rcases reckons_run hall.1 P w a.eval with ⟨v, w1, hrun⟩ | ⟨x, w1, hrun⟩
      · rw [hrun] at h2
        obtain ⟨a', w', hp, hs⟩ := ih (i + 1) rest _ _ hops' hall.2 h2 hro hb hr
        refine ⟨a', w', hp, .head h0 (step_lone_go ?_) hs⟩
        rw [stepGR_op (P := P) ho hw, hro, hsem, ← hfin]
        simp [stepG.apply, hrun]
      · rw [hrun] at h2
        cases x with
        | panic v => exact h2.elim
        | _ => exact h2.elim
    · rw [if_neg hw] at h
      obtain ⟨a', w', hp, hs⟩ := ih (i + 1) rest _ _ hops' hall.2 h.2 hro hb hr
      have hk := stepR_op_skip (P := P) (b := b) (a := a) (k := k) (cs := cs) (w := w) (ops := ops) (i := i) (rest := List.range' (i + 1) l.length ++ rest) (by simp [ho]; simpa using hw)
      simp only [ho, Option.bind_some] at hk
      exact ⟨a', w', hp, .head h0 hk hs⟩
end
end Go.Proofs.YtnehjneldpinmaaGreat
end
section
set_option linter.unusedVariables false
namespace Go.Proofs.YtnehjneldpinmaaGreat
open Go.RowKit
noncomputable def lft : Code → Code
  | .seq a _ => a
  | _ => .skip
noncomputable def rgt : Code → Code
  | .seq _ b => b
  | _ => .skip
noncomputable def cthen : Code → Code
  | .cond _ a _ => a
  | _ => .skip
noncomputable def rops : Code → Array Oper
  | .region _ ops _ => ops
  | _ => #[]
noncomputable def A3 : Code := match Tryz.f3.body with
  | some c => c
  | none => .skip
noncomputable def A3r0 : Code := lft A3
noncomputable def A3r1 : Code := lft (lft (rgt A3))
noncomputable def A3c1 : Code := rgt (lft (rgt A3))
noncomputable def A3r3 : Code := lft (rgt (rgt A3))
noncomputable def A3r4 : Code := lft (rgt (rgt (rgt A3)))
noncomputable def A3r5 : Code := lft (rgt (rgt (rgt (rgt A3))))
noncomputable def A3lp : Code := lft (rgt (rgt (rgt (rgt (rgt A3)))))
noncomputable def A3r19 : Code := lft (rgt (rgt (rgt (rgt (rgt (rgt A3))))))
noncomputable def A3r2 : Code := lft (cthen A3c1)
noncomputable def ops19 : Array Oper := rops A3r19
noncomputable def ops2 : Array Oper := rops A3r2
theorem A3_eq : A3 = .seq A3r0 (.seq (.seq A3r1 A3c1) (.seq A3r3 (.seq A3r4 (.seq A3r5 (.seq A3lp (.seq A3r19 .ret)))))) := rfl
theorem A3c1_eq : A3c1 = .cond (.tmp 18) (.seq A3r2 .ret) .skip := rfl
theorem A3r19_eq : A3r19 = .region 19 ops19 false := rfl
theorem A3r2_eq : A3r2 = .region 2 ops2 false := rfl
noncomputable def pre19 : List Oper := ops19.toList.take 15
def PG (W : World) (a : Act) (w : World) : Prop := a.defers = [] ∧ a.tmps.size = 102 ∧ a.tmps.getD 99 undef = .bool true ∧ Below W.heap.size W w
def PF (W : World) (a : Act) (w : World) : Prop := wpListIn Fc 0 Tryz.prog ops19 (Through (PG W)) pre19 a w
def PE (W : World) (a : Act) (w : World) : Prop := A3lp.wpIn Fc 0 Tryz.prog (Through (PF W)) a w
def PD (W : World) (a : Act) (w : World) : Prop := A3r5.wpIn Fc 0 Tryz.prog (Through (PE W)) a w
def PC (W : World) (a : Act) (w : World) : Prop := A3r4.wpIn Fc 0 Tryz.prog (Through (PD W)) a w
def PB (W : World) (a : Act) (w : World) : Prop := A3r3.wpIn Fc 0 Tryz.prog (Through (PC W)) a w
def PA (W : World) (a : Act) (w : World) : Prop := A3c1.wpIn Fc 0 Tryz.prog (Through (PB W)) a w
def P1 (W : World) (a : Act) (w : World) : Prop := ∃ fit : Bool, a.eval (.tmp 18) = .bool (!fit) ∧ (fit = true → PA W a w) ∧ a.defers = [] ∧ a.tmps.size = 102 ∧ Below W.heap.size W w
def P0 (W : World) (a : Act) (w : World) : Prop := A3r1.wpIn Fc 0 Tryz.prog (Through (P1 W)) a w
def SaysOne (w : World) (e : Ending) (w' : World) : Prop := e = .returned (.tuple #[.int .i64 1, .int .i64 0]) ∧ Below w.heap.size w w'
theorem Match_one (rs rl rw many : Int) (A : Option Addr) (n c : Nat) (sh : Nat → Shaft) (b p lc x : Nat) (w : World) (hc : n ≤ c) (hst : Hid (StockOk rs rl rw many n sh)) (hsh : Hid (ShaftsAt w A n sh)) (hx : x < n) (hlc : 1 ≤ lc)
    (hp : w.cell? ⟨b, p, none⟩ = some (.int .i64 x)) :
    CallsIn Fc 0 Tryz.prog 7 #[stockV rs rl rw many A n c, .slice (some ⟨b, p, none⟩) 1 lc] w (SaysOne w) := by
  refine (Match_any rs rl rw many A n c sh (some ⟨b, p, none⟩) 1 lc (fun _ => x) w hc hst hsh (by omega) hlc (Lib.hid fun k _ => hx) (Lib.hid fun j k h1 h2 => by omega) (Lib.hid fun k hk => ⟨b, p, rfl, ?_⟩)).mono ?_
  · obtain rfl : k = 0 := by omega
    exact hp
  · rintro e w' ⟨rfl, hb⟩
    exact ⟨rfl, hb⟩
def SaysTwo (t : Int) (w : World) (e : Ending) (w' : World) : Prop := ∃ x : Int, e = .returned (.tuple #[.int .i64 x, .int .i64 0]) ∧ (x = 1 ↔ t = 1) ∧ (x = 2 ↔ t = 2) ∧ Below w.heap.size w w'
theorem Match_two (rs rl rw many : Int) (A : Option Addr) (n c : Nat) (sh : Nat → Shaft) (b lc x y : Nat) (w : World) (hc : n ≤ c) (hst : Hid (StockOk rs rl rw many n sh)) (hsh : Hid (ShaftsAt w A n sh)) (hxy : x < y) (hy : y < n) (hlc : 2 ≤ lc)
    (hx0 : w.cell? ⟨b, 0, none⟩ = some (.int .i64 x)) (hy0 : w.cell? ⟨b, 1, none⟩ = some (.int .i64 y)) :
    CallsIn Fc 0 Tryz.prog 7 #[stockV rs rl rw many A n c, .slice (some ⟨b, 0, none⟩) 2 lc] w (SaysTwo (pairZ rs rl rw (sh x) (sh y)) w) := by
  refine (Match_any rs rl rw many A n c sh (some ⟨b, 0, none⟩) 2 lc (fun k => if k = 0 then x else y) w hc hst hsh (by omega) hlc (Lib.hid fun k _ => ?_) (Lib.hid fun j k h1 h2 => ?_) (Lib.hid fun k hk => ⟨b, 0, rfl, ?_⟩)).mono ?_
  · show (if k = 0 then x else y) < n; split <;> omega
  · obtain rfl : j = 0 := by omega
    obtain rfl : k = 1 := by omega
    exact hxy
  · have h2 : k = 0 ∨ k = 1 := by omega
    rcases h2 with rfl | rfl
    · exact hx0
    · exact hy0
  · rintro e w' ⟨rfl, hb⟩
    refine ⟨_, rfl, ?_, ?_, hb⟩
    · show bothZ 1 (pairZ rs rl rw (sh x) (sh y)) = 1 ↔ _
      rw [bothZ_one]; simp
    · show bothZ 1 (pairZ rs rl rw (sh x) (sh y)) = 2 ↔ _
      rw [bothZ_two]; simp
end Go.Proofs.YtnehjneldpinmaaGreat
end
section
set_option linter.unusedVariables false
set_option linter.unusedSimpArgs false
namespace Go.Proofs.YtnehjneldpinmaaGreat
open Go.RowKit
set_option maxHeartbeats 1000000 in
set_option maxRecDepth 100000 in
theorem pf_of (W w : World) (mv : Int) (al no : Bool) (x0 x1 x2 x3 x4 x5 x10 x11 x12 x13 x14 x15 x16 x17 x18 x19 x20 x21 x22 x23 x24 x25 x26 x27 x28 x29 x30 x31 x32 x33 x34 x35 x36 x37 x38 x39 x40 x41 x42 x43 x44 x45 x46 x47 x48 x49 x50 x51 x52 x53 x54 x55 x56 x57 x58 x59 x60 x61 x62 x63 x64 x65 x66 x67 x68 x69 x70 x71 x72 x73 x74 x75 x76 x77 x78 x79 x80 x81 x82 x83 x84 x85 x86 x87 x88 x89 x90 x91 x92 x93 x94 x95 x96 x97 x98 x99 x100 x101 : Value) (hB : Hid (Below W.heap.size W w)) (h : (mv = 0 ∧ al = false ∧ no = false) ∨ (mv = 1 ∧ al = true ∧ no = false) ∨ (mv = 2 ∧ al = false ∧ no = true)) :
    PF W { tmps := #[x0, x1, x2, x3, x4, x5, .int .i64 mv, .int .i64 0, .bool al, .bool no, x10, x11, x12, x13, x14, x15, x16, x17, x18, x19, x20, x21, x22, x23, x24, x25, x26, x27, x28, x29, x30, x31, x32, x33, x34, x35, x36, x37, x38, x39, x40, x41, x42, x43, x44, x45, x46, x47, x48, x49, x50, x51, x52, x53, x54, x55, x56, x57, x58, x59, x60, x61, x62, x63, x64, x65, x66, x67, x68, x69, x70, x71, x72, x73, x74, x75, x76, x77, x78, x79, x80, x81, x82, x83, x84, x85, x86, x87, x88, x89, x90, x91, x92, x93, x94, x95, x96, x97, x98, x99, x100, x101], defers := [] } w := by
  unfold PF
  generalize hR : PG W = R
  have HR := Lib.hid hR
  clear hR
  rcases h with ⟨rfl, rfl, rfl⟩ | ⟨rfl, rfl, rfl⟩ | ⟨rfl, rfl, rfl⟩
  all_goals
    simp only [pre19, ops19, rops, A3r19, A3, Tryz.f3, lft, rgt, List.take_succ_cons, List.take_zero]
    gi_wp2
    change R _ _
    rw [← HR.out]
    exact ⟨rfl, rfl, rfl, hB.out⟩
end Go.Proofs.YtnehjneldpinmaaGreat
end
