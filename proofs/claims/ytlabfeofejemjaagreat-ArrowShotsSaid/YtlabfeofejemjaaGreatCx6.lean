/- Ground of the proofs of statements about package arrow: it says nothing of a statement by itself, and has no condition. -/
import Derived.Test.YtlabfeofejemjaaGreatCx5
import Derived.Test.YtlabfeofejemjaaGreatCx2
import Derived.Test.YtlabfeofejemjaaGreatCx3
set_option linter.unusedSimpArgs false
set_option linter.unusedVariables false
section
namespace Go.Cx
structure Phase where
  quiet : List Nat
  again : List Nat
  loud : Option Nat
def befMask (acc : T Nat) : List Edge → Nat → Nat
  | [], m => m
  | e :: es, m => befMask acc es (match Region.binds .any e with
    | true => m ||| 2 ^ e.on ||| (acc.get e.on).getD 0
    | false => m)
def befs : List Oper → Nat → T Nat → T Nat
  | [], _, acc => acc
  | o :: os, i, acc => befs os (Nat.succ i) (acc.set i (befMask acc o.after.toList 0))
def bef (B : T Nat) (i j : Nat) : Bool := Nat.testBit ((B.get i).getD 0) j
def hasTmp (t : Nat) : List Operand → Bool
  | [] => false
  | .tmp i :: l => Nat.beq i t || hasTmp t l
  | _ :: l => hasTmp t l
def looks (ops : Array Oper) (o : Oper) (t : Nat) : Bool :=
  hasTmp t o.op.operands.toList ||
  match o.guard with
  | none => false
  | some (j, _) => match ops[j]? with
    | some q => match q.dst with
      | some d => Nat.beq d t
      | none => false
    | none => false
def inL (i : Nat) : List Nat → Bool
  | [] => false
  | j :: l => Nat.beq j i || inL i l
def louds : List Phase → List Nat
  | [] => []
  | ph :: phs => match ph.loud with
    | some i => i :: louds phs
    | none => louds phs
def opsOf : List Phase → List Nat
  | [] => []
  | ph :: phs => ph.quiet ++ (match ph.loud with | some i => [i] | none => []) ++ opsOf phs
def nodupB : List Nat → Bool
  | [] => true
  | i :: l => !inL i l && nodupB l
def allBelow (f : Nat → Bool) : Nat → Bool
  | 0 => true
  | n + 1 => f n && allBelow f n
def dstIs (ops : Array Oper) (q t : Nat) : Bool :=
  match ops[q]? with
  | some o => match o.dst with
    | some d => Nat.beq d t
    | none => false
  | none => false
def pairOk (ops : Array Oper) (B : T Nat) (ls : List Nat) (j q : Nat) : Bool :=
  match ops[j]?, ops[q]? with
  | some oj, some oq =>
    match oq.dst with
    | none => true
    | some t =>
      (!looks ops oj t || bef B j q || (inL q ls && (bef B q j || Nat.beq q j))) &&
      (Nat.beq q j || !dstIs ops j t)
  | _, _ => false
def isBef (B : T Nat) (prev : Option Nat) (j : Nat) : Bool :=
  match prev with
  | some i => bef B j i
  | none => true
def againOk (B : T Nat) (prev : Option Nat) (again : List Nat) : List Nat → Bool
  | [] => true
  | j :: l => ((match prev with | some i => bef B i j | none => false) || inL j again) && againOk B prev again l
def phasesOk (B : T Nat) (qd : List Nat) (prev : Option Nat) : List Phase → Bool
  | [] => false
  | ph :: phs =>
    ph.quiet.all (isBef B prev) && againOk B prev ph.again (ph.quiet ++ qd) && ph.again.all (fun i => inL i (ph.quiet ++ qd)) &&
    match ph.loud with
    | some i => isBef B prev i && phasesOk B (ph.quiet ++ qd) (some i) phs
    | none => match phs with | [] => true | _ => false
def planOk (ops : Array Oper) (phs : List Phase) : Bool :=
  let B := befs ops.toList 0 .e
  let n := ops.size
  downward ops && nodupB (opsOf phs) && allBelow (fun i => inL i (opsOf phs)) n && (opsOf phs).all (fun i => Nat.blt i n) &&
    allBelow (fun j => allBelow (fun q => pairOk ops B (louds phs) j q) n) n && phasesOk B [] none phs
def eqL (f : Value → Value → Bool) : List Value → List Value → Bool
  | [], [] => true
  | a :: l, b :: m => f a b && eqL f l m
  | _, _ => false
def eqV : Nat → Value → Value → Bool
  | 0, _, _ => false
  | n + 1, a, b =>
    match a, b with
    | .bool x, .bool y => decide (x = y)
    | .int k x, .int j y => decide (k = j) && decide (x = y)
    | .string x, .string y => decide (x = y)
    | .pointer none, .pointer none => true
    | .pointer (some ⟨b, o, none⟩), .pointer (some ⟨c, q, none⟩) => Nat.beq b c && Nat.beq o q
    | .slice none x y, .slice none u v => Nat.beq x u && Nat.beq y v
    | .slice (some ⟨b, o, none⟩) x y, .slice (some ⟨c, q, none⟩) u v => Nat.beq b c && Nat.beq o q && Nat.beq x u && Nat.beq y v
    | .map none, .map none => true
    | .map (some x), .map (some y) => Nat.beq x y
    | .func (.func x) a c, .func (.func y) a' c' => Nat.beq x y && eqL (eqV n) a.toList a'.toList && eqL (eqV n) c.toList c'.toList
    | .func (.yield x) a c, .func (.yield y) a' c' => Nat.beq x y && eqL (eqV n) a.toList a'.toList && eqL (eqV n) c.toList c'.toList
    | .nilFunc, .nilFunc => true
    | .nilIface, .nilIface => true
    | .agg x, .agg y => eqL (eqV n) x.toList y.toList
    | .tuple x, .tuple y => eqL (eqV n) x.toList y.toList
    | _, _ => false
def eqC : List Value → List (Option Value) → Bool
  | [], [] => true
  | a :: l, some b :: m => eqV 8 a b && eqC l m
  | _, _ => false
def evOn (o : Oper) (t : T Value) : Ev := fun x =>
  match x with
  | .tmp i => match hasTmp i o.op.operands.toList with
    | true => ev t x
    | false => none
  | _ => ev t x
def putT (nt : Nat) (t : T Value) (d : Option Tmp) (v : Value) : Option (T Value) :=
  match d with
  | none => some t
  | some d => match Nat.blt d nt with
    | true => some (t.set d v)
    | false => none
def quiet1 (p : Tab) (ops : Array Oper) (fr : AF) (h : AHeap) (o : Oper) : Option (Value × AHeap) :=
  match wantedA ops fr o with
  | false => some (undef, h)
  | true => match freshOf p (evOn o fr.tmps) o with
    | some (vs, k) => some (k.val h.next, h.row vs 0)
    | none => match stillOp o with
      | true => match aop p h (evOn o fr.tmps) o with
        | some (.val v _) => some (v, h)
        | _ => none
      | false => none
def reckon (p : Tab) (ops : Array Oper) (fr : AF) : List Nat → T Value → AHeap → Option (T Value × AHeap)
  | [], t, h => some (t, h)
  | i :: is, t, h => match ops[i]? with
    | some o => match quiet1 p ops { fr with tmps := t } h o with
      | some (v, h) => match putT fr.nt t o.dst v with
        | some t => reckon p ops fr is t h
        | none => none
      | none => none
    | none => none
def labelOf (k : FK) (v : Option Value) : Option Nat :=
  match k, v with
  | .ptr, some (.pointer (some ⟨l, 0, none⟩)) => some l
  | .slice n, some (.slice (some ⟨l, 0, none⟩) m c) => match Nat.beq n m && Nat.beq n c with
    | true => some l
    | false => none
  | _, _ => none
def sameRow (vs : List Value) (l : Nat) : Option AObj → Bool
  | some (.cells c 0 r 0 [m]) => Nat.beq r l && Nat.beq m l && eqC vs c
  | _ => false
def check1 (p : Tab) (ops : Array Oper) (fr : AF) (h : AHeap) (o : Oper) : Option (Option Nat) :=
  match wantedA ops fr o with
  | false => match o.dst with
    | some d => match eqV 1 undef ((fr.tmps.get d).getD undef) || (match fr.tmps.get d with | some (.tuple a) => (match a.toList with | [] => true | _ => false) | _ => false) with
      | true => some none
      | false => none
    | none => some none
  | true => match freshOf p (evOn o fr.tmps) o with
    | some (vs, k) => match o.dst with
      | some d => match labelOf k (fr.tmps.get d) with
        | some l => match sameRow vs l (h.objs.get l) with
          | true => some (some l)
          | false => none
        | none => none
      | none => none
    | none => match stillOp o with
      | true => match aop p h (evOn o fr.tmps) o with
        | some (.val v _) => match o.dst with
          | some d => match fr.tmps.get d with
            | some u => match eqV 8 v u with
              | true => some none
              | false => none
            | none => none
          | none => some none
        | _ => none
      | false => none
def checkAll (p : Tab) (ops : Array Oper) (fr : AF) (h : AHeap) : List Nat → List Nat → Bool
  | [], _ => true
  | i :: is, ls => match ops[i]? with
    | some o => match check1 p ops fr h o with
      | some (some l) => !inL l ls && checkAll p ops fr h is (l :: ls)
      | some none => checkAll p ops fr h is ls
      | none => false
    | none => false
def phaseA (p : Tab) (ops : Array Oper) (fr : AF) (ph : Phase) (h : AHeap) : Option (T Value × AHeap) :=
  match reckon p ops fr ph.quiet fr.tmps h with
  | some (t, h) => match checkAll p ops { fr with tmps := t } h ph.again [] with
    | true => some (t, h)
    | false => none
  | none => none
structure Lay where
  fr : AF
  cs : List AF
  ops : Array Oper
  o : Oper
  phs : List Phase
structure L where
  s : S
  reg : Option (Array Oper × List Phase)
  lay : List Lay
inductive RL where
  | next (x : L)
  | done (v : Value) (h : AHeap)
  | stop (x : L)
  | stuck
def loudD (p : Tab) (x : L) (ops : Array Oper) (o : Oper) (phs : List Phase) (t : T Value) (h : AHeap) : RL :=
  let fr := { x.s.fr with tmps := t }
  match wantedA ops fr o with
  | false => match putT fr.nt t o.dst undef with
    | some t => .next { x with s := { x.s with fr := { fr with tmps := t }, h }, reg := some (ops, phs) }
    | none => .stuck
  | true => match aop p h (evOn o t) o with
    | some (.val v h) => match putT fr.nt t o.dst v with
      | some t => .next { x with s := { x.s with fr := { fr with tmps := t }, h }, reg := some (ops, phs) }
      | none => .stuck
    | some (.call g args h) => match enterA p g args false with
      | some c => .next { s := { fr := c, cs := [], h }, reg := none, lay := ⟨fr, x.s.cs, ops, o, phs⟩ :: x.lay }
      | none => .stuck
    | some (.yield l args h) => match h.objs.get l with
      | some (.loop r) => match setParams r.nt r.params.toList args r.tmps with
        | some t => .next { s := { fr := { fn := r.fn, nt := r.nt, tmps := t, todo := [.code r.assign, .beginRound, .code r.body], defers := [], ret := false, deferred := false, round := some l }, cs := [], h }, reg := none, lay := ⟨fr, x.s.cs, ops, o, phs⟩ :: x.lay }
        | none => .stuck
      | _ => .stuck
    | _ => .stuck
def drawAt (fr : AF) : Option (Nat × Array Oper × List AI) :=
  match fr.ret, fr.todo with
  | false, .code (.region id ops true) :: k => some (id, ops, k)
  | _, _ => none
def stepL (p : Tab) (pl : T (T (List Phase))) (x : L) : RL :=
  match x.reg with
  | some (ops, phs) => match phs with
    | [] => .stuck
    | ph :: phs => match phaseA p ops x.s.fr ph x.s.h with
      | some (t, h) => match ph.loud with
        | some i => match ops[i]? with
          | some o => loudD p x ops o phs t h
          | none => .stuck
        | none => match phs with
          | [] => .next { x with s := { x.s with fr := { x.s.fr with tmps := t }, h }, reg := none }
          | _ :: _ => .stuck
      | none => .stuck
  | none => match drawAt x.s.fr with
    | some (id, ops, k) => match pl.get x.s.fr.fn with
      | some q => match q.get id with
        | some phs => match planOk ops phs with
          | true => .next { x with s := { x.s with fr := { x.s.fr with todo := k } }, reg := some (ops, phs) }
          | false => .stuck
        | none => .stuck
      | none => .stuck
    | none => match step p x.s with
      | .next s => .next { x with s }
      | .stop s => .stop { x with s }
      | .stuck => .stuck
      | .done v h => match x.lay with
        | [] => .done v h
        | y :: lay => match x.s.fr.deferred, putT y.fr.nt y.fr.tmps y.o.dst v with
          | false, some t => .next { s := { fr := { y.fr with tmps := t }, cs := y.cs, h }, reg := some (y.ops, y.phs), lay }
          | _, _ => .stuck
def runL (p : Tab) (pl : T (T (List Phase))) : Nat → L → RL
  | 0, x => .next x
  | n + 1, x => match stepL p pl x with
    | .next x => runL p pl n x
    | r => r
end Go.Cx
end
section
namespace Go.Cx
theorem inL_iff {i : Nat} : ∀ {l : List Nat}, inL i l = true ↔ i ∈ l
  | [] => by simp [inL]
  | j :: l => by
    simp only [inL, Bool.or_eq_true, inL_iff (l := l), List.mem_cons]
    constructor
    · rintro (h | h)
      · exact .inl (Nat.eq_of_beq_eq_true h).symm
      · exact .inr h
    · rintro (h | h)
      · exact .inl (by rw [h]; exact Nat.beq_refl j)
      · exact .inr h
theorem inL_false {i : Nat} {l : List Nat} : inL i l = false ↔ i ∉ l := by
  rw [← Bool.not_eq_true, inL_iff]
theorem nodupB_spec : ∀ {l : List Nat}, nodupB l = true → l.Nodup
  | [], _ => .nil
  | i :: l, h => by
    simp only [nodupB, Bool.and_eq_true, Bool.not_eq_true'] at h
    exact List.nodup_cons.2 ⟨inL_false.1 h.1, nodupB_spec h.2⟩
theorem allBelow_spec {f : Nat → Bool} : ∀ {n : Nat}, allBelow f n = true → ∀ i, i < n → f i = true
  | 0, _, i, hi => absurd hi (by omega)
  | n + 1, h, i, hi => by
    simp only [allBelow, Bool.and_eq_true] at h
    by_cases e : i = n
    · rw [e]; exact h.1
    · exact allBelow_spec h.2 i (by omega)
theorem befMask_spec {acc : T Nat} {j : Nat} : ∀ {es : List Edge} {m : Nat}, (befMask acc es m).testBit j = true → m.testBit j = true ∨ ∃ e ∈ es, Region.binds .any e = true ∧ (e.on = j ∨ ((acc.get e.on).getD 0).testBit j = true)
  | [], m, h => .inl h
  | e :: es, m, h => by
    simp only [befMask] at h
    rcases befMask_spec h with h | ⟨e', h1, h2⟩
    · cases hb : Region.binds .any e with
      | false => rw [hb] at h; exact .inl h
      | true =>
        rw [hb] at h
        simp only [Nat.testBit_or, Bool.or_eq_true, Nat.testBit_two_pow, decide_eq_true_eq] at h
        rcases h with (h | h) | h
        · exact .inl h
        · exact .inr ⟨e, List.mem_cons_self, hb, .inl h⟩
        · exact .inr ⟨e, List.mem_cons_self, hb, .inr h⟩
    · exact .inr ⟨e', List.mem_cons_of_mem _ h1, h2⟩
theorem befs_lt : ∀ {os : List Oper} {i : Nat} {acc : T Nat} {k : Nat}, k < i → (befs os i acc).get k = acc.get k
  | [], _, _, _, _ => rfl
  | o :: os, i, acc, k, hk => by
    simp only [befs]
    rw [befs_lt (by omega), T.get_set_ne _ _ (by omega)]
theorem befs_at : ∀ {os : List Oper} {i : Nat} {acc : T Nat} {j : Nat} {o : Oper}, os[j]? = some o → ∃ acc', (befs os i acc).get (i + j) = some (befMask acc' o.after.toList 0) ∧ ∀ k, k < i + j → acc'.get k = (befs os i acc).get k
  | [], _, _, _, _, h => by simp at h
  | o' :: os, i, acc, 0, o, h => by
    simp at h; subst h
    refine ⟨acc, ?_, fun k hk => ?_⟩
    · simp only [befs]
      rw [befs_lt (by omega)]
      exact T.get_set_same _ _ _
    · simp only [befs]
      rw [befs_lt (by omega), T.get_set_ne _ _ (by omega)]
  | o' :: os, i, acc, j + 1, o, h => by
    obtain ⟨acc', h1, h2⟩ := befs_at (i := Nat.succ i) (acc := acc.set i (befMask acc o'.after.toList 0)) (j := j) (os := os) (by simpa using h)
    refine ⟨acc', ?_, fun k hk => ?_⟩
    · simp only [befs]
      rw [show i + (j + 1) = Nat.succ i + j by omega]
      exact h1
    · simp only [befs]
      exact h2 k (by omega)
theorem bef_edge {ops : Array Oper} (hdn : downward ops = true) {i j : Nat} {o : Oper} (ho : ops[i]? = some o) (h : bef (befs ops.toList 0 .e) i j = true) :
    ∃ e ∈ o.after, Region.binds .any e = true ∧ (e.on = j ∨ bef (befs ops.toList 0 .e) e.on j = true) := by
  obtain ⟨acc', h1, h2⟩ := befs_at (os := ops.toList) (i := 0) (acc := .e) (j := i) (o := o) (by simpa using ho)
  unfold bef at h
  rw [Nat.zero_add] at h1
  rw [h1] at h
  simp only [Option.getD_some] at h
  rcases befMask_spec h with h | ⟨e, g1, g2, g3⟩
  · simp at h
  · have g1' : e ∈ o.after := by simpa using g1
    refine ⟨e, g1', g2, ?_⟩
    rcases g3 with g3 | g3
    · exact .inl g3
    · refine .inr ?_
      unfold bef
      rw [← h2 e.on (by have := downward_spec hdn ho e g1' g2; omega)]
      exact g3
def Closed (ops : Array Oper) (D : Nat → Prop) : Prop := ∀ i, D i → ∀ j, bef (befs ops.toList 0 .e) i j = true → D j
theorem Closed.head {ops : Array Oper} (hdn : downward ops = true) {D : Nat → Prop} (hc : Closed ops D) {i : Nat} {o : Oper} (ho : ops[i]? = some o) (he : ∀ e ∈ o.after, Region.binds .any e = true → D e.on) :
    ∀ j, bef (befs ops.toList 0 .e) i j = true → D j := by
  intro j hj
  obtain ⟨e, h1, h2, h3⟩ := bef_edge hdn ho hj
  rcases h3 with rfl | h3
  · exact he e h1 h2
  · exact hc e.on (he e h1 h2) j h3
theorem Closed.cons {ops : Array Oper} (hdn : downward ops = true) {D : Nat → Prop} (hc : Closed ops D) {i : Nat} {o : Oper} (ho : ops[i]? = some o) (he : ∀ e ∈ o.after, Region.binds .any e = true → D e.on) :
    Closed ops (fun j => D j ∨ j = i) := by
  intro a ha j hj
  rcases ha with ha | rfl
  · exact .inl (hc a ha j hj)
  · exact .inl (hc.head hdn ho he j hj)
theorem Closed.none {ops : Array Oper} : Closed ops (fun _ => False) := fun _ h => h.elim
structure PlanOk (ops : Array Oper) (phs : List Phase) : Prop where
  dn : downward ops = true
  nd : (opsOf phs).Nodup
  cov : ∀ i, i < ops.size → i ∈ opsOf phs
  lt : ∀ i ∈ opsOf phs, i < ops.size
  pair : ∀ j q, j < ops.size → q < ops.size → pairOk ops (befs ops.toList 0 .e) (louds phs) j q = true
  ok : phasesOk (befs ops.toList 0 .e) [] none phs = true
theorem planOk_spec {ops : Array Oper} {phs : List Phase} (h : planOk ops phs = true) : PlanOk ops phs := by
  unfold planOk at h
  simp only [Bool.and_eq_true] at h
  obtain ⟨⟨⟨⟨⟨h1, h2⟩, h3⟩, h4⟩, h5⟩, h6⟩ := h
  refine ⟨h1, nodupB_spec h2, fun i hi => inL_iff.1 (allBelow_spec h3 i hi), fun i hi => ?_, fun j q hj hq => allBelow_spec (allBelow_spec h5 j hj) q hq, h6⟩
  rw [List.all_eq_true] at h4
  have := h4 i hi
  exact Nat.lt_of_succ_le (by simpa [Nat.blt] using this)
theorem dstIs_iff {ops : Array Oper} {q t : Nat} : dstIs ops q t = true ↔ ∃ o, ops[q]? = some o ∧ o.dst = some t := by
  unfold dstIs
  cases e : ops[q]? with
  | none => simp
  | some o =>
    cases e' : o.dst with
    | none => simp [e']
    | some d =>
      simp only [Option.some.injEq, exists_eq_left', e']
      exact ⟨fun h => Nat.eq_of_beq_eq_true h, fun h => by rw [h]; exact Nat.beq_refl t⟩
theorem pairOk_spec {ops : Array Oper} {B : T Nat} {ls : List Nat} {j q t : Nat} {oj oq : Oper} (hj : ops[j]? = some oj) (hq : ops[q]? = some oq) (hd : oq.dst = some t) (h : pairOk ops B ls j q = true) :
    (looks ops oj t = true → bef B j q = true ∨ (q ∈ ls ∧ (bef B q j = true ∨ q = j))) ∧ (q ≠ j → dstIs ops j t = false) := by
  unfold pairOk at h
  rw [hj, hq] at h
  simp only [hd, Bool.and_eq_true, Bool.or_eq_true, Bool.not_eq_true'] at h
  refine ⟨fun hl => ?_, fun hne => ?_⟩
  · rcases h.1 with (h1 | h1) | h1
    · rw [hl] at h1; cases h1
    · exact .inl h1
    · refine .inr ⟨inL_iff.1 h1.1, ?_⟩
      rcases h1.2 with h2 | h2
      · exact .inl h2
      · exact .inr (Nat.eq_of_beq_eq_true h2)
  · rcases h.2 with h1 | h1
    · exact absurd (Nat.eq_of_beq_eq_true h1) hne
    · exact h1
theorem eqL_eq {f : Value → Value → Bool} (hf : ∀ a b, f a b = true → a = b) : ∀ {l m : List Value}, eqL f l m = true → l = m
  | [], [], _ => rfl
  | a :: l, b :: m, h => by
    simp only [eqL, Bool.and_eq_true] at h
    rw [hf a b h.1, eqL_eq hf h.2]
  | [], _ :: _, h => by simp [eqL] at h
  | _ :: _, [], h => by simp [eqL] at h
theorem eqV_eq : ∀ {n : Nat} {a b : Value}, eqV n a b = true → a = b
  | 0, _, _, h => by simp [eqV] at h
  | n + 1, a, b, h => by
    have ih : ∀ {l m : Array Value}, eqL (eqV n) l.toList m.toList = true → l = m := fun h => Array.toList_inj.1 (eqL_eq (fun a b h => eqV_eq h) h)
    unfold eqV at h
    split at h <;> (try simp only [Bool.and_eq_true, decide_eq_true_eq, reduceCtorEq] at h) <;> first
      | rfl
      | (cases h; rfl)
      | (obtain ⟨h1, h2⟩ := h; cases h1; cases h2; rfl)
      | (obtain ⟨h1, h2⟩ := h; rw [Nat.eq_of_beq_eq_true h1, Nat.eq_of_beq_eq_true h2])
      | (rw [Nat.eq_of_beq_eq_true h])
      | (obtain ⟨⟨⟨h1, h2⟩, h3⟩, h4⟩ := h; rw [Nat.eq_of_beq_eq_true h1, Nat.eq_of_beq_eq_true h2, Nat.eq_of_beq_eq_true h3, Nat.eq_of_beq_eq_true h4])
      | (obtain ⟨⟨h1, h2⟩, h3⟩ := h; rw [Nat.eq_of_beq_eq_true h1, ih h2, ih h3])
      | (rw [ih h])
theorem eqC_eq : ∀ {l : List Value} {m : List (Option Value)}, eqC l m = true → m = l.map some
  | [], [], _ => rfl
  | a :: l, some b :: m, h => by
    simp only [eqC, Bool.and_eq_true] at h
    rw [eqV_eq h.1, eqC_eq h.2]
    rfl
  | [], _ :: _, h => by simp [eqC] at h
  | _ :: _, [], h => by simp [eqC] at h
  | _ :: _, none :: _, h => by simp [eqC] at h
theorem sameRow_spec {vs : List Value} {l : Nat} {o : Option AObj} (h : sameRow vs l o = true) : o = some (.cells (vs.map some) 0 l 0 [l]) := by
  unfold sameRow at h
  split at h
  · simp only [Bool.and_eq_true] at h
    obtain ⟨⟨h1, h2⟩, h3⟩ := h
    rw [Nat.eq_of_beq_eq_true h1, Nat.eq_of_beq_eq_true h2, eqC_eq h3]
  · cases h
theorem labelOf_spec {k : FK} {v : Option Value} {l : Nat} (h : labelOf k v = some l) : v = some (k.val l) := by
  unfold labelOf at h
  split at h
  · cases h; rfl
  · split at h
    · next hb =>
      cases h
      simp only [Bool.and_eq_true] at hb
      rw [← Nat.eq_of_beq_eq_true hb.1, ← Nat.eq_of_beq_eq_true hb.2]
      rfl
    · cases h
  · cases h
end Go.Cx
end
section
namespace Go.Cx
open Go.Conc (G)
variable {p : Tab} {f : Inj} {Mi Sh : Loc → Prop} {bot : List Frame} {main : Bool} {h h' : AHeap} {w : World}
theorem wanted_at {ops : Array Oper} {fr : AF} {a : Array Value} (o : Oper) (hl : ∀ i, looks ops o i = true → VRel f ((fr.tmps.get i).getD undef) (a.getD i undef)) : Region.wanted o (yielded ops a) = wantedA ops fr o := by
  unfold Region.wanted wantedA
  cases eg : o.guard with
  | none => rfl
  | some jw =>
    obtain ⟨j, want⟩ := jw
    simp only [yielded]
    cases eq : ops[j]? with
    | none => simp
    | some q =>
      simp only [Option.bind_some]
      cases ed : q.dst with
      | none => simp
      | some d =>
        simp only [Option.bind_some]
        have hd := hl d (by unfold looks; rw [eg]; simp [eq, ed, Nat.beq_refl])
        cases eget : fr.tmps.get d with
        | none =>
          rw [eget] at hd
          simp only [Option.getD_none] at hd
          cases et : a[d]? with
          | none => simp
          | some v =>
            have : a.getD d undef = v := by rw [Array.getD_eq_getD_getElem?, et]; rfl
            rw [this] at hd
            cases hd
            simp
        | some u =>
          rw [eget] at hd
          simp only [Option.getD_some] at hd
          cases et : a[d]? with
          | none =>
            have : a.getD d undef = undef := by rw [Array.getD_eq_getD_getElem?, et]; rfl
            rw [this] at hd
            cases hd
            simp
          | some v =>
            have : a.getD d undef = v := by rw [Array.getD_eq_getD_getElem?, et]; rfl
            rw [this] at hd
            cases hd <;> simp
theorem evOn_rel {o : Oper} {fr : Frame} {t : T Value} {a : Array Value} (hfr : fr.tmps = a) (hl : ∀ i, hasTmp i o.op.operands.toList = true → VRel f ((t.get i).getD undef) (a.getD i undef)) : ∀ x v, evOn o t x = some v → VRel f v (fr.eval x) := by
  intro x v e
  cases x with
  | tmp i =>
    simp only [evOn] at e
    split at e
    · next hi =>
      simp only [Cx.ev, Option.some.injEq] at e
      have := hl i hi
      rw [Frame.eval, hfr]
      cases et : t.get i with
      | none => rw [et] at e this; subst e; exact this
      | some u => rw [et] at e this; subst e; exact this
    · cases e
  | const v' =>
    simp only [evOn, Cx.ev] at e
    cases ec : closed depthC v' with
    | false => rw [ec] at e; cases e
    | true => rw [ec] at e; cases e; exact closed_rel _ _ ec
  | global g => cases e
  | func g => cases e; exact .func rfl .nil .nil
section
variable {fr : AF} {ops : Array Oper} {i : Nat} {o : Oper} {rest : List Nat} {k' : List Item} {a : Array Value} {defers : List Deferred} {round : Option Nat} {cs : List Frame}
theorem stepG_wanted (hret : fr.ret = false) (ho : ops[i]? = some o) (hw : Region.wanted o (yielded ops a) = true) (hdef : ∀ c, o.op ≠ .defer c) :
    stepG p.prog main (G (realF fr a (.inRegion ops (i :: rest) :: k') defers round) cs) w =
      stepG.apply p.prog true (realF fr a (.inRegion ops (i :: rest) :: k') defers round) cs none (execOp (realF fr a (.inRegion ops (i :: rest) :: k') defers round).eval o) w := by
  have hop : (realF fr a (.inRegion ops (i :: rest) :: k') defers round).oper? = some o := by
    simp only [Frame.oper?, realF, ho]
  simp only [G, stepG]
  have hmode : (realF fr a (.inRegion ops (i :: rest) :: k') defers round).mode = .run := by simp [realF, hret]
  rw [hmode]
  simp only [stepG.exec, realF, ho, Option.map_some, Option.getD_some, hw, if_true, stepG.oper]
  have hop' := hop
  simp only [realF] at hop'
  rw [hop']
  simp only []
  split
  · next e1 e2 => exact absurd e2 (hdef _)
  · rfl
theorem stepG_unwanted (hret : fr.ret = false) (ho : ops[i]? = some o) (hw : Region.wanted o (yielded ops a) = false) :
    stepG p.prog main (G (realF fr a (.inRegion ops (i :: rest) :: k') defers round) cs) w = .go (G (realF fr (putDst o.dst a undef) (.inRegion ops rest :: k') defers round) cs) w #[] := by
  have hfin : (realF fr a (.inRegion ops (i :: rest) :: k') defers round).finish undef = realF fr (putDst o.dst a undef) (.inRegion ops rest :: k') defers round := by
    simp only [Frame.finish, realF, ho, Option.bind_some]
    unfold putDst
    cases o.dst <;> rfl
  rw [← hfin]
  simp [G, realF, hret, stepG, stepG.exec, ho, hw]
theorem finish_head (ho : ops[i]? = some o) (v : Value) : (realF fr a (.inRegion ops (i :: rest) :: k') defers round).finish v = realF fr (putDst o.dst a v) (.inRegion ops rest :: k') defers round := by
  simp only [Frame.finish, realF, ho, Option.bind_some]
  unfold putDst
  cases o.dst <;> rfl
end
def TX (ops : Array Oper) (f : Inj) (W : List Nat) (D : Nat → Prop) (t : T Value) (a : Array Value) : Prop :=
  ∀ i, (∀ q ∈ W, ¬ D q → dstIs ops q i = false) → VRel f ((t.get i).getD undef) (a.getD i undef)
theorem TX.mono {ops : Array Oper} {f g : Inj} (hfg : f.le g) {W : List Nat} {D : Nat → Prop} {t : T Value} {a : Array Value} (h : TX ops f W D t a) : TX ops g W D t a := fun i hi => (h i hi).mono hfg
theorem TX.ran {ops : Array Oper} {f : Inj} {W : List Nat} {D : Nat → Prop} {t : T Value} {a : Array Value} {nt q : Nat} {o : Oper} (h : TX ops f W D t a) (ho : ops[q]? = some o) (hsz : a.size = nt) {v : Value}
    (hv : ∀ d, o.dst = some d → d < nt ∧ VRel f ((t.get d).getD undef) v) : TX ops f W (fun j => D j ∨ j = q) t (putDst o.dst a v) := by
  intro i hi
  by_cases hd : o.dst = some i
  · obtain ⟨h1, h2⟩ := hv i hd
    have : (putDst o.dst a v).getD i undef = v := by
      rw [hd]
      simp [putDst, Array.getD, hsz, h1]
    rw [this]
    exact h2
  · have e : (putDst o.dst a v).getD i undef = a.getD i undef := by
      unfold putDst
      cases ed : o.dst with
      | none => rfl
      | some d =>
        rw [ed] at hd
        have hne : d ≠ i := fun e => hd (by rw [e])
        simp only []
        rw [Array.getD_eq_getD_getElem?, Array.getD_eq_getD_getElem?, Array.getElem?_setIfInBounds_ne hne]
    rw [e]
    refine h i fun q' hq' hn => ?_
    by_cases hqq : q' = q
    · subst hqq
      cases e' : dstIs ops q' i with
      | false => rfl
      | true =>
        obtain ⟨o', h1, h2⟩ := dstIs_iff.1 e'
        rw [ho] at h1; cases h1
        exact absurd h2 hd
    · exact hi q' hq' (fun h1 => h1.elim hn hqq)
structure Waits (p : Tab) (ops : Array Oper) (f : Inj) (h : AHeap) (Bd : Nat) (fr : AF) (W : List Nat) (D : Nat → Prop) : Prop where
  chk : ∀ q ∈ W, ¬ D q → ∃ o r, ops[q]? = some o ∧ check1 p ops fr h o = some r ∧ ∀ l, r = some l → f l = none ∧ Bd ≤ l
  apart : ∀ q q' o o' l l', q ∈ W → q' ∈ W → ¬ D q → ¬ D q' → q ≠ q' → ops[q]? = some o → ops[q']? = some o' → check1 p ops fr h o = some (some l) → check1 p ops fr h o' = some (some l') → l ≠ l'
structure Plan (ops : Array Oper) (full : List Phase) (W : List Nat) : Prop where
  ok : PlanOk ops full
  quiet : ∀ q ∈ W, q ∉ louds full
theorem Plan.looks {ops : Array Oper} {full : List Phase} {W : List Nat} (hp : Plan ops full W) {D : Nat → Prop} (hc : Closed ops D) {i : Nat} {o : Oper} (ho : ops[i]? = some o) (he : ∀ e ∈ o.after, Region.binds .any e = true → D e.on) {t : Nat} (hl : looks ops o t = true) :
    ∀ q ∈ W, ¬ D q → dstIs ops q t = false := by
  intro q hq hn
  cases e : dstIs ops q t with
  | false => rfl
  | true =>
    exfalso
    obtain ⟨oq, h1, h2⟩ := dstIs_iff.1 e
    have hi : i < ops.size := (Array.getElem?_eq_some_iff.1 ho).1
    have hqs : q < ops.size := (Array.getElem?_eq_some_iff.1 h1).1
    rcases (pairOk_spec ho h1 h2 (hp.ok.pair i q hi hqs)).1 hl with h3 | ⟨h3, _⟩
    · exact hn (hc.head hp.ok.dn ho he q h3)
    · exact hp.quiet q hq h3
theorem check1_lonely {ops : Array Oper} {fr : AF} {o : Oper} {l : Nat} (h1 : check1 p ops fr h o = some (some l)) : Lonely h.objs l := by
  unfold check1 at h1
  split at h1
  · split at h1
    · split at h1 <;> cases h1
    · cases h1
  · split at h1
    · split at h1
      · split at h1
        · split at h1
          · next hs => cases h1; exact ⟨_, _, sameRow_spec hs⟩
          · cases h1
        · cases h1
      · cases h1
    · split at h1
      · split at h1
        · split at h1
          · split at h1
            · split at h1 <;> cases h1
            · cases h1
          · cases h1
        · cases h1
      · cases h1
section
variable {fr : AF} {ops : Array Oper} {full : List Phase} {W : List Nat} {D : Nat → Prop} {q Bd : Nat} {rest : List Nat} {k' : List Item} {a : Array Value} {defers : List Deferred} {round : Option Nat} {cs : List Frame}
structure Ready (p : Tab) (ops : Array Oper) (full : List Phase) (W : List Nat) (f : Inj) (Mi Sh : Loc → Prop) (h : AHeap) (Bd : Nat) (fr : AF) (D : Nat → Prop) (rest : List Nat) (a : Array Value) (w : World) : Prop where
  plan : Plan ops full W
  lin : Lin ops D rest
  closed : Closed ops D
  size : a.size = fr.nt
  temps : TX ops f W D fr.tmps a
  waits : Waits p ops f h Bd fr W D
  heap : HRel f (fun l => Mi l ∨ Sh l) Mi h w
  dst : ∀ q ∈ W, ∀ o d, ops[q]? = some o → o.dst = some d → d < fr.nt
theorem Ready.env {Mi Sh : Loc → Prop} {w' : World} (hr : Ready p ops full W f Mi Sh h Bd fr D rest a w) (he : Env (fun l => Mi l ∨ Sh l) w w') : Ready p ops full W f Mi Sh h Bd fr D rest a w' :=
  { hr with heap := hr.heap.env he }
theorem ready_step (hp : TabOk p) (hret : fr.ret = false) (hr : Ready p ops full W f Mi Sh h Bd fr D (q :: rest) a w) (hq : q ∈ W) :
    ∃ a' w' es Mi' f', stepG p.prog main (G (realF fr a (.inRegion ops (q :: rest) :: k') defers round) cs) w = .go (G (realF fr a' (.inRegion ops rest :: k') defers round) cs) w' es ∧
      f.le f' ∧ Did Mi Sh w w' es Mi' ∧ Ready p ops full W f' Mi' Sh h Bd fr (fun j => D j ∨ j = q) rest a' w' ∧ (∀ l, f l = none → Lonely h.objs l → (l < Bd → f' l = none)) := by
  obtain ⟨plan, lin, closed, size, temps, waits, heap, dst⟩ := hr
  cases lin with
  | cons ho hn he lt =>
  rename_i o
  obtain ⟨o', r, ho', hchk, hlab⟩ := waits.chk q hq hn
  rw [ho] at ho'; cases ho'
  have hlook : ∀ i, looks ops o i = true → VRel f ((fr.tmps.get i).getD undef) (a.getD i undef) := fun i hi => temps i (plan.looks closed ho he hi)
  have hcl := closed.cons plan.ok.dn ho he
  have left : ∀ {f' : Inj}, (∀ l, f l = none → Lonely h.objs l → (∀ l', r = some l' → l ≠ l') → f' l = none) → Waits p ops f' h Bd fr W (fun j => D j ∨ j = q) := by
    intro f' hf'
    refine ⟨fun q' hq' hn' => ?_, fun q1 q2 o1 o2 l1 l2 a1 a2 a3 a4 => waits.apart q1 q2 o1 o2 l1 l2 a1 a2 (fun h => a3 (.inl h)) (fun h => a4 (.inl h))⟩
    obtain ⟨o1, r1, b1, b2, b3⟩ := waits.chk q' hq' (fun h => hn' (.inl h))
    refine ⟨o1, r1, b1, b2, fun l e => ?_⟩
    subst e
    obtain ⟨c1, c2⟩ := b3 l rfl
    refine ⟨hf' l c1 (check1_lonely b2) (fun l' e => ?_), c2⟩
    subst e
    exact waits.apart q' q o1 o l l' hq' hq (fun h => hn' (.inl h)) hn (fun e => hn' (.inr e)) b1 ho b2 hchk
  have hdst : ∀ d, o.dst = some d → d < fr.nt := fun d hd => dst q hq o d ho hd
  unfold check1 at hchk
  cases hw : wantedA ops fr o with
  | false =>
    rw [hw] at hchk
    have hw' := (wanted_at o hlook).trans hw
    refine ⟨putDst o.dst a undef, w, #[], Mi, f, stepG_unwanted hret ho hw', f.le_refl, .quiet, ⟨plan, lt, hcl, ?_, ?_, left (fun l e _ _ => e), heap, dst⟩, fun l e _ _ => e⟩
    · unfold putDst; cases o.dst <;> simpa using size
    · refine temps.ran ho size fun d hd => ⟨hdst d hd, ?_⟩
      simp only [hd] at hchk
      split at hchk
      · next hu =>
        have : (fr.tmps.get d).getD undef = undef := by
          rw [Bool.or_eq_true] at hu
          rcases hu with hu | hu
          · exact (eqV_eq hu).symm
          · split at hu
            · next aa e1 =>
              split at hu
              · next e2 => rw [e1]; simp only [Option.getD_some]; rw [Array.toList_eq_nil_iff.1 e2]; rfl
              · cases hu
            · cases hu
        rw [this]
        exact .tuple .nil
      · cases hchk
  | true =>
    rw [hw] at hchk
    simp only [] at hchk
    have hw' := (wanted_at o hlook).trans hw
    have hops : ∀ i, hasTmp i o.op.operands.toList = true → VRel f ((fr.tmps.get i).getD undef) (a.getD i undef) := fun i hi => hlook i (by unfold looks; rw [hi]; rfl)
    have hev := evOn_rel (o := o) (fr := realF fr a (.inRegion ops (q :: rest) :: k') defers round) (t := fr.tmps) rfl hops
    cases hfo : freshOf p (evOn o fr.tmps) o with
    | some x =>
      obtain ⟨vs, k⟩ := x
      rw [hfo] at hchk
      simp only [] at hchk
      cases hd : o.dst with
      | none => rw [hd] at hchk; cases hchk
      | some d =>
        rw [hd] at hchk
        simp only [] at hchk
        cases hl : labelOf k (fr.tmps.get d) with
        | none => rw [hl] at hchk; cases hchk
        | some l =>
          rw [hl] at hchk
          simp only [] at hchk
          split at hchk
          · next hs =>
            cases hchk
            have hobj := sameRow_spec hs
            have hv := labelOf_spec hl
            obtain ⟨hfl, hBd⟩ := hlab l rfl
            obtain ⟨rc, el, r1, r2, r3⟩ := fresh_run hp hev hfo w
            have hap := apply_ok (p := p) (fr := fr) (k' := k') (tmps := a) (defers := defers) (round := round) (it := .inRegion ops (q :: rest)) (cs := cs) (fun _ _ _ _ h => by cases h) r1 (.inl ⟨_, rfl⟩)
            have hdef : ∀ c, o.op ≠ .defer c := by intro c hc; unfold freshOf at hfo; rw [hc] at hfo; cases hfo
            have hrow := fill_late heap el 0 hfl hobj r3
            refine ⟨putDst o.dst a (k.val w.heap.size), pushed w (.cells rc el (0, 0)), seen p.prog fr.fn #[], (fun l => Mi l ∨ NewIn w.heap.size (w.heap.size + 1) l), f.put l ⟨w.heap.size, 0, 0, rc.size⟩, ?_, Inj.le_put hfl, ?_, ⟨plan, lt, hcl, ?_, ?_, left (fun l' e1 e2 e3 => ?_), hrow.grow (fun l h => ?_) fun _ h => h, dst⟩, fun l' e1 e2 e3 => ?_⟩
            · rw [stepG_wanted hret ho hw' hdef, hap, r2]
              simp only [outcome, finish_head ho]
              rfl
            · exact (did_pushed Mi Sh w _).seen p.prog fr.fn
            · unfold putDst; rw [hd]; simpa using size
            · refine (temps.mono (Inj.le_put hfl)).ran ho size fun d' hd' => ?_
              rw [hd] at hd'; cases hd'
              refine ⟨hdst d hd, ?_⟩
              rw [hv]
              cases k with
              | ptr => exact .ptr (Inj.put_same _ _ _)
              | slice n => exact .slice (Inj.put_same _ _ _) (Nat.le_refl _) (fun _ => rfl) (fun h0 => absurd rfl h0)
            · rw [Inj.put_ne _ _ (e3 l rfl)]; exact e1
            · rcases h with (h | h) | h
              · exact .inl (.inl h)
              · exact .inr h
              · exact .inl (.inr h)
            · rw [Inj.put_ne _ _ (by omega)]; exact e1
          · cases hchk
    | none =>
      rw [hfo] at hchk
      simp only [] at hchk
      cases hst : stillOp o with
      | false => rw [hst] at hchk; cases hchk
      | true =>
        rw [hst] at hchk
        simp only [] at hchk
        cases hao : aop p h (evOn o fr.tmps) o with
        | none => rw [hao] at hchk; cases hchk
        | some r0 =>
          obtain ⟨v, rfl⟩ := still_heap hst hao
          rw [hao] at hchk
          simp only [] at hchk
          obtain ⟨r', w', f', Mi', g1, g2, g3, g4, g5, g6⟩ := aop_sound hp heap hev hao
          have hdef : ∀ c, o.op ≠ .defer c := by intro c hc; unfold stillOp at hst; rw [hc] at hst; cases hst
          have hrn : r = none := by
            revert hchk
            split
            · split
              · split
                · intro e; cases e; rfl
                · intro e; cases e
              · intro e; cases e
            · intro e; cases e; rfl
          have key : ∃ v', VRel f' v v' ∧ outcome p.prog (realF fr a (.inRegion ops (q :: rest) :: k') defers round) cs w' r' = .go (G ((realF fr a (.inRegion ops (q :: rest) :: k') defers round).finish v') cs) w' #[] ∧ ((∃ v, r' = .value v) ∨ r' = .skip) := by
            cases g3 with
            | val hv => exact ⟨_, hv, rfl, .inl ⟨_, rfl⟩⟩
            | skip => exact ⟨undef, .tuple .nil, rfl, .inr rfl⟩
          obtain ⟨v', hv, hout, hr'⟩ := key
          have hap := apply_ok (p := p) (fr := fr) (k' := k') (tmps := a) (defers := defers) (round := round) (it := .inRegion ops (q :: rest)) (cs := cs) (fun _ _ _ _ h => by cases h) g1 (by rcases hr' with h | h; exact .inl h; exact .inr (.inl h))
          refine ⟨putDst o.dst a v', w', _, Mi', f', ?_, g2, g4.seen p.prog fr.fn, ⟨plan, lt, hcl, ?_, ?_, left (fun l e1 e2 _ => (g6.none l e1 e2).1), g5, dst⟩, fun l e1 e2 _ => (g6.none l e1 e2).1⟩
          · rw [stepG_wanted hret ho hw' hdef, hap, hout, finish_head ho]
            simp only [GStep.after, Array.append_empty]
          · unfold putDst; cases o.dst <;> simpa using size
          · refine (temps.mono g2).ran ho size fun d hd => ⟨hdst d hd, ?_⟩
            rw [hd] at hchk
            simp only [] at hchk
            cases hg : fr.tmps.get d with
            | none => rw [hg] at hchk; cases hchk
            | some u =>
              rw [hg] at hchk
              simp only [] at hchk
              split at hchk
              · next hu => rw [← eqV_eq hu]; exact hv
              · cases hchk
end
end Go.Cx
end
section
namespace Go.Cx
open Go.Conc (G)
variable {p : Tab} {f : Inj} {Mi Sh : Loc → Prop} {bot : List Frame} {main : Bool} {h h' : AHeap} {w : World}
def freshKind (o : Oper) : Bool :=
  match o.op with
  | .alloc _ | .buildSlice .. => true
  | _ => false
theorem freshOf_kind {e : Ev} {o : Oper} {x : List Value × FK} (h : freshOf p e o = some x) : freshKind o = true := by
  unfold freshOf at h
  unfold freshKind
  split <;> first | rfl | (rename_i h1 h2; split at h <;> first | (exact absurd (by assumption) (h1 _)) | (exact absurd (by assumption) (h2 _ _ _)) | cases h)
theorem fresh_not_still {o : Oper} (h : freshKind o = true) : stillOp o = false := by
  unfold freshKind at h
  unfold stillOp
  split at h <;> first | (cases h; done) | simp_all
def Pend (f : Inj) (h : AHeap) (Bd Bd' : Nat) (ops : Array Oper) (qd : List Nat) (D : Nat → Prop) (t : T Value) : Prop :=
  ∀ q ∈ qd, ¬ D q → ∀ o d, ops[q]? = some o → freshKind o = true → o.dst = some d → ∀ k l, labelOf k (t.get d) = some l → f l = none ∧ Lonely h.objs l ∧ Bd ≤ l ∧ l < Bd'
theorem Pend.old {f' : Inj} {Bd Bd' : Nat} {ops : Array Oper} {qd : List Nat} {D : Nat → Prop} {t : T Value} (hp : Pend f h Bd Bd' ops qd D t) (ho : ∀ l, f l = none → Lonely h.objs l → l < Bd' → f' l = none ∧ Lonely h'.objs l) : Pend f' h' Bd Bd' ops qd D t := by
  intro q hq hn o d h1 h2 h3 k l h4
  obtain ⟨a, b, c, e⟩ := hp q hq hn o d h1 h2 h3 k l h4
  obtain ⟨a', b'⟩ := ho l a b e
  exact ⟨a', b', c, e⟩
theorem Old.lonely {f' : Inj} (ho : Old f h f' h') {l : Nat} (h1 : f l = Option.none) (h2 : Lonely h.objs l) : f' l = Option.none ∧ Lonely h'.objs l := by
  obtain ⟨a, b⟩ := ho.none l h1 h2
  obtain ⟨c, x, e⟩ := h2
  exact ⟨a, c, x, by rw [b]; exact e⟩
theorem labelOf_undef {k : FK} {l : Nat} : labelOf k (some undef) ≠ some l := by
  intro e
  have := labelOf_spec e
  cases k <;> simp [FK.val, undef] at this
structure Reckoned (ops : Array Oper) (f : Inj) (nt : Nat) (is : List Nat) (t : T Value) (h : AHeap) (t1 : T Value) (h1 : AHeap) : Prop where
  keeps : ∀ i, (∀ q ∈ is, dstIs ops q i = false) → t1.get i = t.get i
  heap : ∀ K Mi w, HRel f K Mi h w → HRel f K Mi h1 w
  old : ∀ K Mi w, HRel f K Mi h w → Old f h f h1
  next : h.next ≤ h1.next
  dst : ∀ q ∈ is, ∀ o d, ops[q]? = some o → o.dst = some d → d < nt
  label : ∀ q ∈ is, ∀ o d, ops[q]? = some o → freshKind o = true → o.dst = some d → (∀ j ∈ is, j ≠ q → dstIs ops j d = false) → ∀ k l, labelOf k (t1.get d) = some l → h.next ≤ l
theorem quiet1_spec {ops : Array Oper} {fr : AF} {o : Oper} {v : Value} (hq : quiet1 p ops fr h o = some (v, h')) :
    (h' = h ∨ ∃ vs, h' = h.row vs 0) ∧ (freshKind o = true → ∀ k l, labelOf k (some v) = some l → h.next ≤ l) := by
  unfold quiet1 at hq
  split at hq
  · cases hq
    exact ⟨.inl rfl, fun _ k l e => absurd e labelOf_undef⟩
  · split at hq
    · next vs k e =>
      cases hq
      refine ⟨.inr ⟨_, rfl⟩, fun _ k' l e' => ?_⟩
      have := labelOf_spec e'
      cases k <;> cases k' <;> simp [FK.val] at this <;> omega
    · split at hq
      · next hs =>
        split at hq
        · cases hq
          refine ⟨.inl rfl, fun hk => ?_⟩
          rw [fresh_not_still hk] at hs
          cases hs
        · cases hq
      · cases hq
theorem reckon_spec {ops : Array Oper} {fr : AF} : ∀ {is : List Nat} {t t1 : T Value} {h h1 : AHeap}, reckon p ops fr is t h = some (t1, h1) → Reckoned ops f fr.nt is t h t1 h1
  | [], t, t1, h, h1, e => by
    simp only [reckon, Option.some.injEq, Prod.mk.injEq] at e
    obtain ⟨rfl, rfl⟩ := e
    exact ⟨fun _ _ => rfl, fun _ _ _ hr => hr, fun _ _ _ _ => .refl _ _, Nat.le_refl _, fun _ h => absurd h (by simp), fun _ h => absurd h (by simp)⟩
  | i :: is, t, t1, h, h1, e => by
    simp only [reckon] at e
    cases eo : ops[i]? with
    | none => rw [eo] at e; cases e
    | some o =>
      rw [eo] at e
      simp only [] at e
      cases eq : quiet1 p ops { fr with tmps := t } h o with
      | none => rw [eq] at e; cases e
      | some x =>
        obtain ⟨v, h2⟩ := x
        rw [eq] at e
        simp only [] at e
        cases ep : putT fr.nt t o.dst v with
        | none => rw [ep] at e; cases e
        | some t2 =>
          rw [ep] at e
          simp only [] at e
          obtain ⟨r1, r2, r3, r4, r5, r6⟩ := reckon_spec e
          obtain ⟨q1, q2⟩ := quiet1_spec eq
          have hput : (o.dst = none ∧ t2 = t) ∨ ∃ d, o.dst = some d ∧ d < fr.nt ∧ t2 = t.set d v := by
            unfold putT at ep
            split at ep
            · cases ep; exact .inl ⟨by assumption, rfl⟩
            · next d hd =>
              split at ep
              · next hb => cases ep; exact .inr ⟨d, hd, Nat.lt_of_succ_le (by simpa [Nat.blt] using hb), rfl⟩
              · cases ep
          have hn : h.next ≤ h2.next := by
            rcases q1 with rfl | ⟨vs, rfl⟩
            · exact Nat.le_refl _
            · exact Nat.le_succ _
          have hheap : ∀ K Mi w, HRel f K Mi h w → HRel f K Mi h2 w := fun K Mi w hr => by
            rcases q1 with rfl | ⟨vs, rfl⟩
            · exact hr
            · exact hr.spare vs 0
          have hold : ∀ K Mi w, HRel f K Mi h w → Old f h f h2 := fun K Mi w hr => by
            rcases q1 with rfl | ⟨vs, rfl⟩
            · exact .refl _ _
            · exact .spare hr vs 0
          refine ⟨fun j hj => ?_, fun K Mi w hr => r2 K Mi w (hheap K Mi w hr), fun K Mi w hr => (hold K Mi w hr).trans (r3 K Mi w (hheap K Mi w hr)), Nat.le_trans hn r4, fun q hq o' d ho' hd' => ?_, fun q hq o' d ho' hk hd' hj k l hl => ?_⟩
          · rw [r1 j fun q hq => hj q (List.mem_cons_of_mem _ hq)]
            rcases hput with ⟨_, rfl⟩ | ⟨d, hd, _, rfl⟩
            · rfl
            · refine T.get_set_ne _ _ fun e => ?_
              have := hj i List.mem_cons_self
              rw [dstIs_iff.2 ⟨o, eo, by rw [hd, e]⟩] at this
              cases this
          · rcases List.mem_cons.1 hq with rfl | hq
            · rw [eo] at ho'; cases ho'
              rcases hput with ⟨hd, _⟩ | ⟨d', hd, hlt, _⟩
              · rw [hd] at hd'; cases hd'
              · rw [hd] at hd'; cases hd'; exact hlt
            · exact r5 q hq o' d ho' hd'
          · by_cases hin : q ∈ is
            · exact Nat.le_trans hn (r6 q hin o' d ho' hk hd' (fun j hj' => hj j (List.mem_cons_of_mem _ hj')) k l hl)
            · rcases List.mem_cons.1 hq with rfl | hq
              · rw [eo] at ho'; cases ho'
                rcases hput with ⟨hd, _⟩ | ⟨d', hd, hlt, rfl⟩
                · rw [hd] at hd'; cases hd'
                · rw [hd] at hd'; cases hd'
                  rw [r1 d fun j hj' => hj j (List.mem_cons_of_mem _ hj') (fun e => hin (e ▸ hj')), T.get_set_same] at hl
                  exact q2 hk k l hl
              · exact absurd hq hin
theorem checkAll_spec {ops : Array Oper} {fr : AF} : ∀ {is ls : List Nat}, checkAll p ops fr h is ls = true →
    (∀ i ∈ is, ∃ o r, ops[i]? = some o ∧ check1 p ops fr h o = some r ∧ ∀ l, r = some l → l ∉ ls) ∧
    (∀ i ∈ is, ∀ j ∈ is, i ≠ j → ∀ oi oj li lj, ops[i]? = some oi → ops[j]? = some oj → check1 p ops fr h oi = some (some li) → check1 p ops fr h oj = some (some lj) → li ≠ lj)
  | [], ls, _ => ⟨fun _ h => absurd h (by simp), fun _ h => absurd h (by simp)⟩
  | i :: is, ls, e => by
    simp only [checkAll] at e
    cases eo : ops[i]? with
    | none => rw [eo] at e; cases e
    | some o =>
      rw [eo] at e
      simp only [] at e
      cases ec : check1 p ops fr h o with
      | none => rw [ec] at e; cases e
      | some r =>
        rw [ec] at e
        have key : ∃ ls', checkAll p ops fr h is ls' = true ∧ (∀ l, r = some l → l ∉ ls ∧ l ∈ ls') ∧ ∀ l ∈ ls, l ∈ ls' := by
          cases r with
          | none => exact ⟨ls, e, fun l h => (by cases h), fun l h => h⟩
          | some l =>
            simp only [Bool.and_eq_true, Bool.not_eq_true'] at e
            exact ⟨l :: ls, e.2, fun l' h => (by cases h; exact ⟨inL_false.1 e.1, List.mem_cons_self⟩), fun l' h => List.mem_cons_of_mem _ h⟩
        obtain ⟨ls', k1, k2, k3⟩ := key
        obtain ⟨s1, s2⟩ := checkAll_spec k1
        have one : ∀ j ∈ is, ∀ oj lj l, ops[j]? = some oj → check1 p ops fr h oj = some (some lj) → r = some l → l ≠ lj := by
          intro j hj oj lj l h1 h2 h3 he
          obtain ⟨o', r', a, b, c⟩ := s1 j hj
          rw [h1] at a; cases a
          rw [h2] at b; cases b
          exact c lj rfl (he ▸ (k2 l h3).2)
        refine ⟨fun j hj => ?_, fun a ha b hb hne oa ob la lb h1 h2 h3 h4 => ?_⟩
        · rcases List.mem_cons.1 hj with rfl | hj
          · exact ⟨o, r, eo, ec, fun l h => (k2 l h).1⟩
          · obtain ⟨o', r', a, b, c⟩ := s1 j hj
            exact ⟨o', r', a, b, fun l h hm => c l h (k3 l hm)⟩
        · by_cases hai : a = i <;> by_cases hbi : b = i
          · exact absurd (hai.trans hbi.symm) hne
          · have hb2 : b ∈ is := (List.mem_cons.1 hb).resolve_left hbi
            subst hai
            rw [eo] at h1; cases h1
            rw [ec] at h3; cases h3
            exact one b hb2 ob lb la h2 h4 rfl
          · have ha2 : a ∈ is := (List.mem_cons.1 ha).resolve_left hai
            subst hbi
            rw [eo] at h2; cases h2
            rw [ec] at h4; cases h4
            exact (one a ha2 oa la lb h1 h3 rfl).symm
          · exact s2 a ((List.mem_cons.1 ha).resolve_left hai) b ((List.mem_cons.1 hb).resolve_left hbi) hne oa ob la lb h1 h2 h3 h4
theorem check1_label {ops : Array Oper} {fr : AF} {o : Oper} {r : Option Nat} {d : Nat} {k : FK} {l : Nat} (hc : check1 p ops fr h o = some r) (hk : freshKind o = true) (hd : o.dst = some d) (hl : labelOf k (fr.tmps.get d) = some l) : r = some l := by
  have hv := labelOf_spec hl
  unfold check1 at hc
  rw [hd] at hc
  split at hc
  · simp only [] at hc
    exfalso
    rw [hv] at hc
    cases k <;> simp [FK.val, eqV, undef] at hc
  · split at hc
    · next vs k' e =>
      simp only [] at hc
      split at hc
      · next l' e' =>
        split at hc
        · cases hc
          have := labelOf_spec e'
          rw [hv] at this
          cases k <;> cases k' <;> simp [FK.val] at this <;> first | (rw [this]; done) | (obtain ⟨h1, _⟩ := this; rw [h1])
        · cases hc
      · cases hc
    · rw [fresh_not_still hk] at hc
      cases hc
def quiets : List Phase → List Nat
  | [] => []
  | ph :: phs => ph.quiet ++ quiets phs
structure RegAt (ops : Array Oper) (full phs : List Phase) (qd : List Nat) (prev : Option Nat) (D : Nat → Prop) (rest : List Nat) : Prop where
  plan : PlanOk ops full
  quiet : ∀ q ∈ quiets phs ++ qd, q ∉ louds full
  lin : Lin ops D rest
  closed : Closed ops D
  nd : (opsOf phs).Nodup
  lt : ∀ i ∈ opsOf phs, i < ops.size
  fut : ∀ i ∈ opsOf phs, ¬ D i
  cov : ∀ i, i < ops.size → D i ∨ i ∈ qd ∨ i ∈ opsOf phs
  prevD : ∀ i, prev = some i → D i
  qlt : ∀ i ∈ qd, i < ops.size
  apartq : ∀ i ∈ qd, i ∉ opsOf phs
  ok : phasesOk (befs ops.toList 0 .e) qd prev phs = true
theorem phase_ready {ops : Array Oper} {full phs : List Phase} {ph : Phase} {qd : List Nat} {prev : Option Nat} {D : Nat → Prop} {rest : List Nat} {fr : AF} {a : Array Value} {t1 : T Value} {h1 : AHeap} {Bd Bd' : Nat}
    (hg : RegAt ops full (ph :: phs) qd prev D rest) (hsz : a.size = fr.nt) (ht : TX ops f qd D fr.tmps a) (hpd : Pend f h Bd Bd' ops qd D fr.tmps) (hdst : ∀ q ∈ qd, ∀ o d, ops[q]? = some o → o.dst = some d → d < fr.nt) (hr : HRel f (fun l => Mi l ∨ Sh l) Mi h w) (hBd : Bd ≤ h.next) (he : phaseA p ops fr ph h = some (t1, h1)) :
    Ready p ops full (ph.quiet ++ qd) f Mi Sh h1 Bd { fr with tmps := t1 } D rest a w ∧ Old f h f h1 := by
  unfold phaseA at he
  cases er : reckon p ops fr ph.quiet fr.tmps h with
  | none => rw [er] at he; cases he
  | some x =>
    obtain ⟨t2, h2⟩ := x
    rw [er] at he
    simp only [] at he
    split at he
    · next hca =>
      cases he
      obtain ⟨r1, r2, r3, r4, r5, r6⟩ := reckon_spec (f := f) er
      obtain ⟨c1, c2⟩ := checkAll_spec hca
      have hqin : ∀ q ∈ ph.quiet, q ∈ opsOf (ph :: phs) := fun q hq => by simp only [opsOf, List.mem_append]; exact .inl (.inl hq)
      have hqlt : ∀ q ∈ ph.quiet, q < ops.size := fun q hq => hg.lt q (hqin q hq)
      have hok := hg.ok
      simp only [phasesOk, Bool.and_eq_true] at hok
      obtain ⟨⟨⟨_, hag⟩, _⟩, _⟩ := hok
      have again : ∀ q ∈ ph.quiet ++ qd, ¬ D q → q ∈ ph.again := by
        intro q hq hn
        have : ∀ {l : List Nat}, againOk (befs ops.toList 0 .e) prev ph.again l = true → q ∈ l → q ∈ ph.again := by
          intro l
          induction l with
          | nil => intro _ h; cases h
          | cons j l ih =>
            intro h1 h2
            simp only [againOk, Bool.and_eq_true, Bool.or_eq_true] at h1
            rcases List.mem_cons.1 h2 with rfl | h2
            · rcases h1.1 with h3 | h3
              · cases prev with
                | none => cases h3
                | some i => exact absurd (hg.closed i (hg.prevD i rfl) q h3) hn
              · exact inL_iff.1 h3
            · exact ih h1.2 h2
        exact this hag hq
      have dif : ∀ j q t, j < ops.size → q < ops.size → q ≠ j → dstIs ops q t = true → dstIs ops j t = false := by
        intro j q t hj hq hne hd
        obtain ⟨oq, e1, e2⟩ := dstIs_iff.1 hd
        exact (pairOk_spec (Array.getElem?_eq_getElem hj) e1 e2 (hg.plan.pair j q hj hq)).2 hne
      have keepq : ∀ q ∈ qd, ∀ o d, ops[q]? = some o → o.dst = some d → t1.get d = fr.tmps.get d := by
        intro q hq o d ho hd
        refine r1 d fun j hj => ?_
        refine dif j q d (hqlt j hj) (hg.qlt q hq) (fun e => ?_) (dstIs_iff.2 ⟨o, ho, hd⟩)
        subst e
        exact hg.apartq q hq (hqin q hj)
      refine ⟨⟨⟨hg.plan, fun q hq => hg.quiet q ?_⟩, hg.lin, hg.closed, hsz, fun i hi => ?_, ⟨fun q hq hn => ?_, fun q q' o o' l l' a1 a2 a3 a4 a5 a6 a7 a8 a9 => ?_⟩, r2 _ _ _ hr, fun q hq o d ho hd => ?_⟩, r3 _ _ _ hr⟩
      · simp only [quiets, List.mem_append] at hq ⊢
        rcases hq with h | h
        · exact .inl (.inl h)
        · exact .inr h
      · have e : t1.get i = fr.tmps.get i := r1 i fun q hq => hi q (List.mem_append.2 (.inl hq)) (hg.fut q (hqin q hq))
        show VRel f ((t1.get i).getD undef) _
        rw [e]
        exact ht i fun q hq hn => hi q (List.mem_append.2 (.inr hq)) hn
      · obtain ⟨o, r, b1, b2, _⟩ := c1 q (again q hq hn)
        refine ⟨o, r, b1, b2, fun l hl => ?_⟩
        subst hl
        have hlab : ∃ d k, o.dst = some d ∧ labelOf k (t1.get d) = some l ∧ freshKind o = true := by
          unfold check1 at b2
          split at b2
          · split at b2
            · split at b2 <;> cases b2
            · cases b2
          · split at b2
            · next vs k e =>
              split at b2
              · next d hd =>
                split at b2
                · next l' hl' =>
                  split at b2
                  · cases b2; exact ⟨d, k, hd, hl', freshOf_kind e⟩
                  · cases b2
                · cases b2
              · cases b2
            · split at b2
              · split at b2
                · split at b2
                  · split at b2
                    · split at b2 <;> cases b2
                    · cases b2
                  · cases b2
                · cases b2
              · cases b2
        obtain ⟨d, k, hd, hlb, hk⟩ := hlab
        rcases List.mem_append.1 hq with hq | hq
        · have hle := r6 q hq o d b1 hk hd (fun j hj hne => dif j q d (hqlt j hj) (hqlt q hq) (fun e => hne e.symm) (dstIs_iff.2 ⟨o, b1, hd⟩)) k l hlb
          exact ⟨hr.next_none hle, Nat.le_trans hBd hle⟩
        · rw [keepq q hq o d b1 hd] at hlb
          obtain ⟨x1, _, x3, _⟩ := hpd q hq hn o d b1 hk hd k l hlb
          exact ⟨x1, x3⟩
      · exact c2 q (again q a1 a3) q' (again q' a2 a4) a5 o o' l l' a6 a7 a8 a9
      · rcases List.mem_append.1 hq with hq | hq
        · exact r5 q hq o d ho hd
        · exact hdst q hq o d ho hd
    · cases he
end Go.Cx
end
section
namespace Go.Cx
open Go.Conc (G)
variable {p : Tab} {f : Inj} {Mi Sh : Loc → Prop} {bot : List Frame} {main : Bool} {h h' : AHeap} {w : World} {b : Frame}
theorem popA_done {s : S} {v v' : Value} {h' : AHeap} (h : popA s v = .done v' h') : s.cs = [] ∧ v' = v ∧ h' = s.h := by
  unfold popA at h
  split at h
  · next e => cases h; exact ⟨e, rfl, rfl⟩
  · split at h
    · split at h <;> cases h
    · split at h <;> cases h
theorem opA_not_done {s : S} {ops : Array Oper} {i : Nat} {o : Oper} {rest : List Oper} {k : List AI} {v : Value} {h' : AHeap} : opA p s ops i o rest k ≠ .done v h' := by
  intro h
  unfold opA at h
  simp only [] at h
  repeat' split at h
  all_goals cases h
theorem rangeA_not_done {s : S} {g : Operand} {params : Array Tmp} {assign body : Code} {k : List AI} {h1 : AHeap} {n : Nat} {mark : List Deferred} {v : Value} {h' : AHeap} : rangeA p s g params assign body k h1 n mark ≠ .done v h' := by
  intro h
  unfold rangeA at h
  simp only [] at h
  repeat' split at h
  all_goals cases h
theorem doReturn_below {fr : Frame} {v : Value} (hk : fr.kind = .normal) : doReturn p.prog main fr (b :: bot) none v w = .go (G (b.finish v) bot) w #[] := by
  simp [doReturn, hk, G]
def Back (P : Program) (main : Bool) (f : Inj) (Mi Sh : Loc → Prop) (b : Frame) (bot : List Frame) (h : AHeap) (g : Goroutine) (w : World) (v : Value) (h' : AHeap) : Prop :=
  ∃ v' w' es Mi' f', stepG P main g w = .go (G (b.finish v') bot) w' es ∧ f.le f' ∧ VRel f' v v' ∧ Did Mi Sh w w' es Mi' ∧ HRel f' (fun l => Mi' l ∨ Sh l) Mi' h' w' ∧ Old f h f' h'
section
variable {s : S} {tmps : Array Value} {todo : List Item} {defers : List Deferred} {round : Option Nat} {cs : List Frame}
theorem leave_done {jump : Option Code} {v : Value} (hret : s.fr.ret = false) (hdf : s.fr.deferred = false) (hro : RoRel f s.fr.round round) (hcs : FsRel f s.cs cs) (hr : HRel f (fun l => Mi l ∨ Sh l) Mi s.h w) (hle : leaveA s jump = .done v h')
    (h1 : ∀ l, round = some l → ∀ y w1 es, (Instr.endRound l jump).runT p.prog w #[] = (.ok y w1, es) → stepG p.prog main (G (realF s.fr tmps todo defers round) (cs ++ b :: bot)) w =
       GStep.after (seen p.prog s.fr.fn es) (doReturn p.prog main (realF s.fr tmps todo defers round) (cs ++ b :: bot) none y w1)) :
    Back p.prog main f Mi Sh b bot s.h (G (realF s.fr tmps todo defers round) (cs ++ b :: bot)) w v h' := by
  obtain ⟨sfr, scs, sh⟩ := s
  simp only [] at *
  unfold leaveA at hle
  cases hro' : sfr.round with
  | none =>
    rw [hro'] at hle
    simp only [] at hle
    split at hle <;> cases hle
  | some l =>
    rw [hro'] at hro hle
    cases hro with
    | some hl =>
      rename_i x
      simp only [] at hle
      split at hle
      · next r e1 e2 =>
        obtain ⟨p1, p2, p3⟩ := popA_done hle
        simp only [] at p1 p2 p3
        subst p1; subst p2; subst p3
        cases hcs
        obtain ⟨l', k1, k2, k3⟩ := setLoop_sound (al' := { r with state := jumpState jump, pending := jump }) hr hl e1 e2
        obtain ⟨w', q1, q2, q3, q4⟩ := k3 { l' with state := if jump.isNone then .ready else .done, pending := jump } ⟨by cases jump <;> rfl, rfl, k1.fn, k1.size, k1.tmps, k1.params, k1.assign, k1.body, k1.defers⟩
        have hv : VRel f (.bool (jumpNone jump)) (.bool jump.isNone) := by cases jump <;> exact .bool _
        refine ⟨_, w', _, Mi, f, ?_, f.le_refl, hv, q2.seen p.prog sfr.fn, q3, q4⟩
        have er : (Instr.endRound x.blk jump).runT p.prog w #[] = (.ok (.bool jump.isNone) w', #[⟨.obj x.blk, false, false⟩, ⟨.obj x.blk, true, false⟩]) := by
          rw [Sem.runT_eq]
          have a1 := (k2 p.prog).1
          have a2 := (k2 p.prog).2
          have b1 := (q1 p.prog).1
          have b2 := (q1 p.prog).2
          simp only [Instr.endRound, Sem.run_bind, Sem.events_bind, a1, a2, Result.andThen_ok, Result.evThen_ok, b1, b2, Sem.run_pure, Sem.events_pure]
          rfl
        rw [h1 x.blk rfl _ _ _ er]
        simp only [List.nil_append]
        rw [doReturn_below (by simp [realF, hdf])]
        simp only [GStep.after, Array.append_empty]
      · cases hle
theorem ret_done (hp : TabOk p) {v : Value} (hret : s.fr.ret = true) (hdf : s.fr.deferred = false) (ht : TRel f s.fr.tmps tmps) (hd : DsRel f s.fr.defers defers)
    (hcs : FsRel f s.cs cs) (hr : HRel f (fun l => Mi l ∨ Sh l) Mi s.h w) (hop : retA p s = .done v h') :
    Back p.prog main f Mi Sh b bot s.h (G (realF s.fr tmps todo defers round) (cs ++ b :: bot)) w v h' := by
  obtain ⟨sfr, scs, sh⟩ := s
  simp only [] at *
  unfold retA at hop
  simp only [] at hop
  generalize edd : sfr.defers = dd at hop hd
  cases hd with
  | nil =>
    simp only [] at hop
    cases er : resultsA p sfr sh with
    | none => rw [er] at hop; cases hop
    | some v0 =>
      rw [er] at hop
      simp only [] at hop
      obtain ⟨p1, p2, p3⟩ := popA_done hop
      simp only [] at p1 p2 p3
      subst p1; subst p2; subst p3
      cases hcs
      obtain ⟨fn, v', h1, h2, h3, h4⟩ := results_sound (w := w) hp hr ht er
      refine ⟨v', w, seen p.prog sfr.fn ((results fn tmps).events p.prog w #[]), Mi, f, ?_, f.le_refl, h2, (Did.still h4).seen _ _, hr, .refl _ _⟩
      have hst : stepG p.prog main (G (realF sfr tmps todo [] round) ([] ++ b :: bot)) w = unwind p.prog main (realF sfr tmps todo [] round) (b :: bot) none w := by
        simp [G, stepG, realF, hret]
      rw [hst]
      have hmode' : (realF sfr tmps todo [] round).mode = .returning := by simp [realF, hret]
      unfold unwind
      have hdf' : (realF sfr tmps todo [] round).defers = [] := rfl
      rw [hdf']
      simp only []
      rw [hmode']
      simp only []
      have hfn : p.prog.funcs[(realF sfr tmps todo [] round).fn]? = some fn := h1
      rw [hfn]
      simp only []
      rw [Sem.runT_eq]
      have htm : (realF sfr tmps todo [] round).tmps = tmps := rfl
      rw [htm, h3]
      simp only []
      rw [doReturn_below (by simp [realF, hdf])]
      simp only [GStep.after, Array.append_empty]
      rfl
  | cons hd0 hds =>
    exfalso
    simp only [] at hop
    repeat' split at hop
    all_goals first | cases hop | (simp at *)
end
theorem done_sound (hp : TabOk p) {s : S} {v : Value} {g : Goroutine} (hs : step p s = .done v h') (hdf : s.fr.deferred = false) (hrel : SRel f Mi Sh (b :: bot) s g w) : Back p.prog main f Mi Sh b bot s.h g w v h' := by
  obtain ⟨tmps, todo, defers, round, cs, rfl, hsz, ht, hk, hd, hro, hcs, hr⟩ := hrel.out
  unfold step at hs
  simp only [] at hs
  cases hret : s.fr.ret with
  | true =>
    rw [hret] at hs
    exact ret_done hp hret hdf ht hd hcs hr hs
  | false =>
    rw [hret] at hs
    simp only [] at hs
    generalize etodo : s.fr.todo = td at hs hk
    cases hk with
    | nil =>
      simp only [] at hs
      refine leave_done hret hdf hro hcs hr hs (fun l e y w1 es er => ?_)
      subst e; simp [G, realF, hret, stepG, stepG.exec, er, -Sem.runT_eq]; try rfl
    | cons hi hkk =>
      rename_i ai it k k'
      cases hi with
      | code c =>
        simp only [] at hs
        cases c with
        | ret =>
          simp only [] at hs
          refine leave_done hret hdf hro hcs hr hs (fun l e y w1 es er => ?_)
          subst e; simp [G, realF, hret, stepG, stepG.exec, er, -Sem.runT_eq]; try rfl
        | exit id =>
          simp only [] at hs
          obtain ⟨x1, x2⟩ := exitTo_rel (id := id) hkk
          split at hs
          · cases hs
          · next e1 =>
            have g1 := x2 e1
            refine leave_done hret hdf hro hcs hr hs (fun l e y w1 es er => ?_)
            subst e; simp [G, realF, hret, stepG, stepG.exec, g1, er, -Sem.runT_eq]; try rfl
        | goto l =>
          simp only [] at hs
          obtain ⟨x1, x2⟩ := gotoIn_rel (l := l) hkk
          split at hs
          · cases hs
          · next e1 =>
            have g1 := x2 e1
            refine leave_done hret hdf hro hcs hr hs (fun l e y w1 es er => ?_)
            subst e; simp [G, realF, hret, stepG, stepG.exec, g1, er, -Sem.runT_eq]; try rfl
        | region id ops draw => cases draw <;> cases hs
        | rangeFunc g params assign body =>
          simp only [] at hs
          split at hs
          · split at hs
            · exact absurd hs rangeA_not_done
            · cases hs
          · exact absurd hs rangeA_not_done
        | cond c thn els => simp only [] at hs; split at hs <;> cases hs
        | _ => cases hs
      | reg hdrop =>
        rename_i ops i rest
        simp only [] at hs
        cases rest with
        | nil => cases hs
        | cons o rest =>
          simp only [] at hs
          split at hs
          · split at hs <;> cases hs
          · exact absurd hs opA_not_done
      | endRF hl =>
        simp only [] at hs
        split at hs
        · split at hs <;> cases hs
        · cases hs
      | beginRound =>
        simp only [] at hs
        split at hs
        · split at hs
          · split at hs <;> cases hs
          · cases hs
        · cases hs
      | _ => cases hs
end Go.Cx
end
section
namespace Go.Cx
open Go.Conc (G)
variable {p : Tab} {f : Inj} {Mi Sh : Loc → Prop} {main : Bool} {h h' : AHeap} {w : World} {bot0 : List Frame}
inductive LaysRel (f : Inj) (h : AHeap) (bot0 : List Frame) : Nat → List Lay → List Frame → Prop where
  | nil {Bd : Nat} : LaysRel f h bot0 Bd [] bot0
  | cons {Bd Bd' : Nat} {y : Lay} {lay : List Lay} {bot : List Frame} {full : List Phase} {qd : List Nat} {D : Nat → Prop} {i : Nat} {rest : List Nat} {a : Array Value} {k' : List Item} {defers : List Deferred} {round : Option Nat} {cs : List Frame}
      (hB : Bd ≤ Bd') (hret : y.fr.ret = false) (ho : y.ops[i]? = some y.o) (hreg : RegAt y.ops full y.phs qd (some i) (fun j => D j ∨ j = i) rest)
      (hsz : a.size = y.fr.nt) (ht : TX y.ops f qd (fun j => D j ∨ j = i) y.fr.tmps a) (hpd : Pend f h Bd Bd' y.ops qd (fun j => D j ∨ j = i) y.fr.tmps)
      (hdst : ∀ q ∈ qd, ∀ o d, y.ops[q]? = some o → o.dst = some d → d < y.fr.nt) (hdiff : ∀ d, y.o.dst = some d → ∀ q ∈ qd, dstIs y.ops q d = false)
      (hk : IsRel f y.fr.todo k') (hd : DsRel f y.fr.defers defers) (hro : RoRel f y.fr.round round) (hcs : FsRel f y.cs cs) (t : LaysRel f h bot0 Bd lay bot) :
      LaysRel f h bot0 Bd' (y :: lay) (realF y.fr a (.inRegion y.ops (i :: rest) :: k') defers round :: (cs ++ bot))
theorem LaysRel.old {f' : Inj} (hle : f.le f') {Bd : Nat} {lay : List Lay} {bot : List Frame} (hl : LaysRel f h bot0 Bd lay bot) (ho : ∀ l, f l = none → Lonely h.objs l → l < Bd → f' l = none ∧ Lonely h'.objs l) : LaysRel f' h' bot0 Bd lay bot := by
  induction hl with
  | nil => exact .nil
  | cons hB hret h1 hreg hsz ht hpd hdst hdiff hk hd hro hcs t ih =>
    exact .cons hB hret h1 hreg hsz (ht.mono hle) (hpd.old ho) hdst hdiff (hk.mono hle) (hd.mono hle) (hro.mono hle) (hcs.mono hle) (ih fun l a b c => ho l a b (Nat.lt_of_lt_of_le c hB))
section
variable {fr : AF} {ops : Array Oper} {full : List Phase} {W : List Nat} {lay : List Lay} {bot : List Frame} {Bd : Nat} {k' : List Item} {defers : List Deferred} {round : Option Nat} {cs : List Frame}
theorem ready_run {L : World → Prop} (hp : TabOk p) (hret : fr.ret = false) : ∀ (rest : List Nat) {D : Nat → Prop} {f : Inj} {Mi : Loc → Prop} {a : Array Value} {w : World}, Ready p ops full W f Mi Sh h Bd fr D rest a w → LaysRel f h bot0 Bd lay bot →
    GoesX p.prog main Sh L (fun Mi' g' w' => ∃ f' D' rest' a', g' = G (realF fr a' (.inRegion ops rest' :: k') defers round) (cs ++ bot) ∧ f.le f' ∧ Ready p ops full W f' Mi' Sh h Bd fr D' rest' a' w' ∧ LaysRel f' h bot0 Bd lay bot ∧
      (∀ j, D j → D' j) ∧ (∀ j, D' j → D j ∨ j ∈ W) ∧ (rest' = [] ∨ ∃ i r, rest' = i :: r ∧ i ∉ W)) rest.length Mi (G (realF fr a (.inRegion ops rest :: k') defers round) (cs ++ bot)) w
  | [], D, f, Mi, a, w, hr, hl => .here fun w1 he => ⟨f, D, [], a, rfl, f.le_refl, hr.env he.1, hl, fun _ h => h, fun _ h => .inl h, .inl rfl⟩
  | q :: rest, D, f, Mi, a, w, hr, hl => by
    by_cases hq : q ∈ W
    · refine .step rfl fun w1 he => ?_
      obtain ⟨a', w', es, Mi', f', h1, h2, h3, h4, h5⟩ := ready_step (main := main) (k' := k') (defers := defers) (round := round) (cs := cs ++ bot) hp hret (hr.env he.1) hq
      refine ⟨_, w', es, Mi', h1, h3, (ready_run hp hret rest h4 (hl.old h2 fun l a b c => ⟨h5 l a b c, b⟩)).mono fun Mi2 g2 w2 ⟨f2, D2, r2, a2, x1, x2, x3, x4, x5, x6, x7⟩ => ⟨f2, D2, r2, a2, x1, f.le_trans h2 x2, x3, x4, fun j hj => x5 j (.inl hj), fun j hj => ?_, x7⟩⟩
      rcases x6 j hj with (h | h) | h
      · exact .inl h
      · exact .inr (h ▸ hq)
      · exact .inr h
    · exact .here fun w1 he => ⟨f, D, q :: rest, a, rfl, f.le_refl, hr.env he.1, hl, fun _ h => h, fun _ h => .inl h, .inr ⟨q, rest, rfl, hq⟩⟩
end
theorem phases_prev {B : T Nat} : ∀ {phs : List Phase} {qd : List Nat} {j0 : Nat}, phasesOk B qd (some j0) phs = true → ∀ i ∈ opsOf phs, ∃ j, (j = j0 ∨ j ∈ louds phs) ∧ bef B i j = true
  | [], _, _, h, _, _ => by cases h
  | ph :: phs, qd, j0, h, i, hi => by
    simp only [phasesOk, Bool.and_eq_true] at h
    obtain ⟨⟨⟨h1, _⟩, _⟩, h4⟩ := h
    simp only [opsOf, List.mem_append] at hi
    rcases hi with (hi | hi) | hi
    · rw [List.all_eq_true] at h1
      exact ⟨j0, .inl rfl, h1 i hi⟩
    · cases el : ph.loud with
      | none => rw [el] at hi; cases hi
      | some j =>
        rw [el] at hi h4
        simp only [List.mem_singleton] at hi
        subst hi
        simp only [Bool.and_eq_true] at h4
        exact ⟨j0, .inl rfl, h4.1⟩
    · cases el : ph.loud with
      | none =>
        rw [el] at h4
        simp only [] at h4
        cases phs with
        | nil => cases hi
        | cons _ _ => cases h4
      | some j =>
        rw [el] at h4
        simp only [Bool.and_eq_true] at h4
        obtain ⟨j', h5, h6⟩ := phases_prev h4.2 i hi
        refine ⟨j', .inr ?_, h6⟩
        simp only [louds, el]
        rcases h5 with rfl | h5
        · exact List.mem_cons_self
        · exact List.mem_cons_of_mem _ h5
theorem louds_ops : ∀ {phs : List Phase} {i : Nat}, i ∈ louds phs → i ∈ opsOf phs
  | ph :: phs, i, h => by
    simp only [louds] at h
    simp only [opsOf, List.mem_append]
    cases el : ph.loud with
    | none => rw [el] at h; exact .inr (louds_ops h)
    | some j =>
      rw [el] at h
      rcases List.mem_cons.1 h with rfl | h
      · exact .inl (.inr (by simp))
      · exact .inr (louds_ops h)
theorem quiets_ops : ∀ {phs : List Phase} {i : Nat}, i ∈ quiets phs → i ∈ opsOf phs
  | ph :: phs, i, h => by
    simp only [quiets, List.mem_append] at h
    simp only [opsOf, List.mem_append]
    rcases h with h | h
    · exact .inl (.inl h)
    · exact .inr (quiets_ops h)
section
variable {ops : Array Oper} {full phs : List Phase} {ph : Phase} {qd : List Nat} {prev : Option Nat} {D D' : Nat → Prop} {rest rest' : List Nat}
theorem RegAt.turn (hg : RegAt ops full (ph :: phs) qd prev D rest) (hl : Lin ops D' rest') (hc : Closed ops D') (h1 : ∀ j, D j → D' j) (h2 : ∀ j, D' j → D j ∨ j ∈ ph.quiet ++ qd) (h3 : rest' = [] ∨ ∃ i r, rest' = i :: r ∧ i ∉ ph.quiet ++ qd) :
    match ph.loud with
    | none => rest' = [] ∧ phs = []
    | some i => ∃ r, rest' = i :: r := by
  have hok := hg.ok
  simp only [phasesOk, Bool.and_eq_true] at hok
  obtain ⟨_, h4⟩ := hok
  have notD : ∀ j ∈ opsOf (ph :: phs), j ∉ ph.quiet → ¬ D' j := by
    intro j hj hjq hd
    rcases h2 j hd with h | h
    · exact hg.fut j hj h
    · rcases List.mem_append.1 h with h | h
      · exact hjq h
      · exact hg.apartq j h hj
  have hnd := hg.nd
  simp only [opsOf] at hnd
  cases el : ph.loud with
  | none =>
    rw [el] at h4
    simp only [] at h4 ⊢
    cases phs with
    | cons _ _ => cases h4
    | nil =>
      refine ⟨?_, rfl⟩
      rcases h3 with h3 | ⟨i, r, rfl, hi⟩
      · exact h3
      · exfalso
        cases hl with
        | cons ho hn he t =>
          rcases hg.cov i (Array.getElem?_eq_some_iff.1 ho).1 with h | h | h
          · exact hn (h1 i h)
          · exact hi (List.mem_append.2 (.inr h))
          · simp only [opsOf, el, List.append_nil] at h
            exact hi (List.mem_append.2 (.inl h))
  | some j =>
    rw [el] at h4 hnd
    simp only [Bool.and_eq_true] at h4 ⊢
    have hjo : j ∈ opsOf (ph :: phs) := by simp only [opsOf, el, List.mem_append]; exact .inl (.inr (by simp))
    have hjq : j ∉ ph.quiet := fun h => by
      have := (List.nodup_append.1 (List.nodup_append.1 hnd).1).2.2 j h j (by simp)
      exact this rfl
    have hjD := notD j hjo hjq
    rcases h3 with rfl | ⟨i, r, rfl, hi⟩
    · cases hl with
      | nil hall => exact absurd (hall j (hg.lt j hjo)) hjD
    · refine ⟨r, ?_⟩
      cases hl with
      | cons ho hn he t =>
        rcases hg.cov i (Array.getElem?_eq_some_iff.1 ho).1 with h | h | h
        · exact absurd (h1 i h) hn
        · exact absurd (List.mem_append.2 (.inr h)) hi
        · simp only [opsOf, el, List.mem_append] at h
          rcases h with (h | h) | h
          · exact absurd (List.mem_append.2 (.inl h)) hi
          · simp at h; rw [h]
          · exfalso
            obtain ⟨j', h5, h6⟩ := phases_prev h4.2 i h
            have hD := hc.head hg.plan.dn ho he j' h6
            rcases h5 with rfl | h5
            · exact hjD hD
            · have hin : j' ∈ opsOf phs := louds_ops h5
              refine notD j' ?_ (fun hq => ?_) hD
              · simp only [opsOf, el, List.mem_append]; exact .inr hin
              · exact (List.nodup_append.1 hnd).2.2 j' (List.mem_append.2 (.inl hq)) j' hin rfl
theorem RegAt.next (hg : RegAt ops full (ph :: phs) qd prev D rest) {i : Nat} (el : ph.loud = some i) (hl : Lin ops (fun j => D' j ∨ j = i) rest') (hc : Closed ops (fun j => D' j ∨ j = i)) (h1 : ∀ j, D j → D' j) (h2 : ∀ j, D' j → D j ∨ j ∈ ph.quiet ++ qd) :
    RegAt ops full phs (ph.quiet ++ qd) (some i) (fun j => D' j ∨ j = i) rest' := by
  have hok := hg.ok
  simp only [phasesOk, Bool.and_eq_true, el] at hok
  obtain ⟨_, h4⟩ := hok
  have hnd := hg.nd
  simp only [opsOf, el] at hnd
  obtain ⟨n1, n2, n3⟩ := List.nodup_append.1 hnd
  have sub : ∀ j ∈ opsOf phs, j ∈ opsOf (ph :: phs) := fun j hj => by simp only [opsOf, List.mem_append]; exact .inr hj
  have apq : ∀ j ∈ ph.quiet ++ qd, j ∉ opsOf phs := by
    intro j hj hin
    rcases List.mem_append.1 hj with hj | hj
    · exact n3 j (List.mem_append.2 (.inl hj)) j hin rfl
    · exact hg.apartq j hj (sub j hin)
  refine ⟨hg.plan, fun q hq => hg.quiet q ?_, hl, hc, n2, fun j hj => hg.lt j (sub j hj), fun j hj hd => ?_, fun j hj => ?_, fun j hj => ?_, fun j hj => ?_, apq, h4.2⟩
  · simp only [quiets, List.mem_append] at hq ⊢
    rcases hq with h | h | h
    · exact .inl (.inr h)
    · exact .inl (.inl h)
    · exact .inr h
  · rcases hd with hd | rfl
    · rcases h2 j hd with h | h
      · exact hg.fut j (sub j hj) h
      · exact apq j h hj
    · exact n3 j (List.mem_append.2 (.inr (by simp))) j hj rfl
  · rcases hg.cov j hj with h | h | h
    · exact .inl (.inl (h1 j h))
    · exact .inr (.inl (List.mem_append.2 (.inr h)))
    · simp only [opsOf, el, List.mem_append] at h
      rcases h with (h | h) | h
      · exact .inr (.inl (List.mem_append.2 (.inl h)))
      · simp at h; exact .inl (.inr h)
      · exact .inr (.inr h)
  · cases hj; exact .inr rfl
  · rcases List.mem_append.1 hj with h | h
    · exact hg.lt j (by simp only [opsOf, List.mem_append]; exact .inl (.inl h))
    · exact hg.qlt j h
end
end Go.Cx
end
section
namespace Go.Cx
open Go.Conc (G)
variable {p : Tab} {f : Inj} {Mi Sh : Loc → Prop} {main : Bool} {h h' : AHeap} {w : World} {bot0 : List Frame}
inductive XRel (f : Inj) (Mi Sh : Loc → Prop) (bot0 : List Frame) : L → Goroutine → World → Prop where
  | plain {s : S} {lay : List Lay} {g : Goroutine} {w : World} {bot : List Frame} {Bd : Nat} (hs : SRel f Mi Sh bot s g w) (hB : Bd ≤ s.h.next) (hl : LaysRel f s.h bot0 Bd lay bot) : XRel f Mi Sh bot0 ⟨s, none, lay⟩ g w
  | reg {fr : AF} {as : List AF} {h : AHeap} {ops : Array Oper} {full phs : List Phase} {lay : List Lay} {w : World} {bot : List Frame} {Bd Bd' : Nat} {qd : List Nat} {prev : Option Nat} {D : Nat → Prop} {rest : List Nat} {a : Array Value} {k' : List Item} {defers : List Deferred} {round : Option Nat} {cs : List Frame}
      (hret : fr.ret = false) (hreg : RegAt ops full phs qd prev D rest) (hsz : a.size = fr.nt) (ht : TX ops f qd D fr.tmps a) (hpd : Pend f h Bd Bd' ops qd D fr.tmps) (hdst : ∀ q ∈ qd, ∀ o d, ops[q]? = some o → o.dst = some d → d < fr.nt)
      (hk : IsRel f fr.todo k') (hd : DsRel f fr.defers defers) (hro : RoRel f fr.round round) (hcs : FsRel f as cs) (hr : HRel f (fun l => Mi l ∨ Sh l) Mi h w) (hB : Bd ≤ h.next) (hl : LaysRel f h bot0 Bd lay bot) :
      XRel f Mi Sh bot0 ⟨⟨fr, as, h⟩, some (ops, phs), lay⟩ (G (realF fr a (.inRegion ops rest :: k') defers round) (cs ++ bot)) w
theorem XRel.env {x : L} {g : Goroutine} {w' : World} (hr : XRel f Mi Sh bot0 x g w) (he : Env (fun l => Mi l ∨ Sh l) w w') : XRel f Mi Sh bot0 x g w' := by
  cases hr with
  | plain hs hB hl => exact .plain (hs.env he) hB hl
  | reg hret hreg hsz ht hpd hdst hk hd hro hcs hr hB hl => exact .reg hret hreg hsz ht hpd hdst hk hd hro hcs (hr.env he) hB hl
def LAdv (P : Program) (main : Bool) (f : Inj) (Mi Sh : Loc → Prop) (bot0 : List Frame) (g : Goroutine) (w : World) (x' : L) : Prop :=
  ∃ g' w' es Mi' f', stepG P main g w = .go g' w' es ∧ f.le f' ∧ Did Mi Sh w w' es Mi' ∧ XRel f' Mi' Sh bot0 x' g' w'
section
variable {ops : Array Oper} {W : List Nat} {D : Nat → Prop} {t t' : T Value} {a : Array Value} {nt : Nat} {dst : Option Tmp} {v v' : Value}
theorem putT_spec (hp : putT nt t dst v = some t') : (dst = none ∧ t' = t) ∨ ∃ d, dst = some d ∧ d < nt ∧ t' = t.set d v := by
  unfold putT at hp
  split at hp
  · cases hp; exact .inl ⟨rfl, rfl⟩
  · next d =>
    split at hp
    · next hb => cases hp; exact .inr ⟨d, rfl, Nat.lt_of_succ_le (by simpa [Nat.blt] using hb), rfl⟩
    · cases hp
theorem TX.put (ht : TX ops f W D t a) (hp : putT nt t dst v = some t') (hv : VRel f v v') (hsz : a.size = nt) : TX ops f W D t' (putDst dst a v') := by
  rcases putT_spec hp with ⟨rfl, rfl⟩ | ⟨d, rfl, hlt, rfl⟩
  · exact ht
  · intro i hi
    by_cases e : i = d
    · subst e
      rw [T.get_set_same]
      simp [putDst, Array.getD, hsz, hlt]
      exact hv
    · rw [T.get_set_ne _ _ e]
      have : (putDst (some d) a v').getD i undef = a.getD i undef := by
        simp only [putDst]
        rw [Array.getD_eq_getD_getElem?, Array.getD_eq_getD_getElem?, Array.getElem?_setIfInBounds_ne (Ne.symm e)]
      rw [this]
      exact ht i hi
theorem TX.more (ht : TX ops f W D t a) {i : Nat} (hi : i ∉ W) : TX ops f W (fun j => D j ∨ j = i) t a := fun j hj => ht j fun q hq hn => hj q hq (fun h => h.elim hn fun e => hi (e ▸ hq))
theorem Pend.put {Bd Bd' : Nat} (hpd : Pend f h Bd Bd' ops W D t) (hp : putT nt t dst v = some t') (hd : ∀ d, dst = some d → ∀ q ∈ W, dstIs ops q d = false) : Pend f h Bd Bd' ops W D t' := by
  rcases putT_spec hp with ⟨rfl, rfl⟩ | ⟨d, rfl, hlt, rfl⟩
  · exact hpd
  · intro q hq hn o d' h1 h2 h3 k l h4
    have hne : d' ≠ d := by
      rintro rfl
      have := hd d' rfl q hq
      rw [dstIs_iff.2 ⟨o, h1, h3⟩] at this
      cases this
    rw [T.get_set_ne _ _ hne] at h4
    exact hpd q hq hn o d' h1 h2 h3 k l h4
theorem putDst_size : (putDst dst a v).size = a.size := by unfold putDst; cases dst <;> simp
end
theorem Waits.pend {ops : Array Oper} {fr : AF} {W : List Nat} {D : Nat → Prop} {Bd : Nat} (hw : Waits p ops f h Bd fr W D) (hwf : WF h) : Pend f h Bd h.next ops W D fr.tmps := by
  intro q hq hn o d h1 h2 h3 k l h4
  obtain ⟨o', r, g1, g2, g3⟩ := hw.chk q hq hn
  rw [h1] at g1; cases g1
  have hr := check1_label g2 h2 h3 h4
  subst hr
  obtain ⟨g4, g5⟩ := g3 l rfl
  have hlo := check1_lonely g2
  refine ⟨g4, hlo, g5, ?_⟩
  obtain ⟨c, x, e⟩ := hlo
  exact hwf.lt l _ e
theorem Pend.more {ops : Array Oper} {W : List Nat} {D D' : Nat → Prop} {t : T Value} {Bd Bd' : Nat} (hp : Pend f h Bd Bd' ops W D t) (hd : ∀ j, D j → D' j) : Pend f h Bd Bd' ops W D' t :=
  fun q hq hn => hp q hq fun h => hn (hd q h)
section
variable {fr : AF} {as : List AF} {ops : Array Oper} {full phs : List Phase} {ph : Phase} {qd : List Nat} {prev : Option Nat} {D D0 : Nat → Prop} {i : Nat} {o : Oper} {r rest0 : List Nat} {lay : List Lay} {bot : List Frame} {Bd : Nat} {a : Array Value} {k' : List Item} {defers : List Deferred} {round : Option Nat} {cs : List Frame} {x' : L}
theorem loud_sound (hp : TabOk p) {x : L} {t : T Value} (hx : x.s.fr = fr) (hxa : x.s.cs = as) (hxl : x.lay = lay) (hret : fr.ret = false)
    (hg : RegAt ops full (ph :: phs) qd prev D0 rest0) (el : ph.loud = some i) (hr : Ready p ops full (ph.quiet ++ qd) f Mi Sh h Bd { fr with tmps := t } D (i :: r) a w) (h1 : ∀ j, D0 j → D j) (h2 : ∀ j, D j → D0 j ∨ j ∈ ph.quiet ++ qd)
    (ho : ops[i]? = some o) (hk : IsRel f fr.todo k') (hd : DsRel f fr.defers defers) (hro : RoRel f fr.round round) (hcs : FsRel f as cs) (hB : Bd ≤ h.next) (hl : LaysRel f h bot0 Bd lay bot) (hn : loudD p x ops o phs t h = .next x') :
    LAdv p.prog main f Mi Sh bot0 (G (realF { fr with tmps := t } a (.inRegion ops (i :: r) :: k') defers round) (cs ++ bot)) w x' := by
  obtain ⟨⟨xfr, xas, xh⟩, xreg, xlay⟩ := x
  simp only [] at hx hxa hxl
  subst hx; subst hxa; subst hxl
  obtain ⟨plan, lin, closed, size, temps, waits, heap, dst⟩ := hr
  simp only [] at size temps
  cases lin with
  | cons ho' hnD he lt =>
  rw [ho] at ho'; cases ho'
  have hreg := hg.next el lt (closed.cons plan.ok.dn ho he) h1 h2
  have hiW : i ∉ ph.quiet ++ qd := by
    have hnd := hg.nd
    simp only [opsOf, el] at hnd
    intro hin
    rcases List.mem_append.1 hin with hin | hin
    · exact (List.nodup_append.1 (List.nodup_append.1 hnd).1).2.2 i hin i (by simp) rfl
    · exact hg.apartq i hin (by simp only [opsOf, el, List.mem_append]; exact .inl (.inr (by simp)))
  have hdiff : ∀ d, o.dst = some d → ∀ q ∈ ph.quiet ++ qd, dstIs ops q d = false := by
    intro d hd q hq
    have hqs := hreg.qlt q hq
    exact (pairOk_spec (Array.getElem?_eq_getElem hqs) ho hd (plan.ok.pair q i hqs (Array.getElem?_eq_some_iff.1 ho).1)).2 fun e => hiW (e ▸ hq)
  have hpend := (waits.pend heap.wf).more (D' := fun j => D j ∨ j = i) fun j hj => .inl hj
  simp only [] at hpend
  have htx := temps.more hiW
  have hlook : ∀ j, looks ops o j = true → VRel f ((t.get j).getD undef) (a.getD j undef) := fun j hj => temps j (plan.looks closed ho he hj)
  unfold loudD at hn
  simp only [] at hn
  cases hw : wantedA ops { xfr with tmps := t } o with
  | false =>
    rw [hw] at hn
    simp only [] at hn
    have hw' := (wanted_at (fr := { xfr with tmps := t }) o hlook).trans hw
    cases ep : putT xfr.nt t o.dst undef with
    | none => rw [ep] at hn; cases hn
    | some t2 =>
      rw [ep] at hn
      cases hn
      exact ⟨_, w, #[], Mi, f, stepG_unwanted (fr := { xfr with tmps := t }) hret ho hw', f.le_refl, .quiet,
        .reg (fr := { xfr with tmps := t2 }) hret hreg (by rw [putDst_size]; exact size) (htx.put ep (v' := undef) (.tuple .nil) size) (hpend.put ep hdiff) dst hk hd hro hcs heap hB hl⟩
  | true =>
    rw [hw] at hn
    simp only [] at hn
    have hw' := (wanted_at (fr := { xfr with tmps := t }) o hlook).trans hw
    have hops : ∀ j, hasTmp j o.op.operands.toList = true → VRel f ((t.get j).getD undef) (a.getD j undef) := fun j hj => hlook j (by unfold looks; rw [hj]; rfl)
    have hev := evOn_rel (o := o) (fr := realF { xfr with tmps := t } a (.inRegion ops (i :: r) :: k') defers round) (t := t) rfl hops
    cases ea : aop p h (evOn o t) o with
    | none => rw [ea] at hn; cases hn
    | some r0 =>
      rw [ea] at hn
      obtain ⟨r', w', f', Mi', g1, g2, g3, g4, g5, g6⟩ := aop_sound (w := w) hp heap hev ea
      have hdefer : ∀ c, o.op ≠ .defer c := by
        intro c hc
        cases r0 with
        | defer d h1 => cases hn
        | _ =>
          unfold aop at ea
          rw [hc] at ea
          simp only [] at ea
          split at ea
          · split at ea <;> cases ea
          · cases ea
      have hst := stepG_wanted (p := p) (main := main) (fr := { xfr with tmps := t }) (rest := r) (k' := k') (cs := cs ++ bot) (w := w) (defers := defers) (round := round) hret ho hw' hdefer
      have hold : ∀ l, f l = none → Lonely h.objs l → l < Bd → f' l = none ∧ Lonely r0.heap.objs l := fun l a b _ => g6.lonely a b
      have hold' : ∀ l, f l = none → Lonely h.objs l → l < h.next → f' l = none ∧ Lonely r0.heap.objs l := fun l a b _ => g6.lonely a b
      have hl' := hl.old g2 hold
      have hpend' := hpend.old hold'
      cases g3 with
      | val hv =>
        rename_i v v' hh
        simp only [] at hn
        simp only [OpR.heap] at g5 g6 hl' hpend'
        cases ep : putT xfr.nt t o.dst v with
        | none => rw [ep] at hn; cases hn
        | some t2 =>
          rw [ep] at hn
          cases hn
          refine ⟨_, w', _, Mi', f', ?_, g2, g4.seen p.prog xfr.fn, .reg (fr := { xfr with tmps := t2 }) (a := putDst o.dst a v') hret hreg (by rw [putDst_size]; exact size) ((htx.mono g2).put ep hv size) (hpend'.put ep hdiff) dst (hk.mono g2) (hd.mono g2) (hro.mono g2) (hcs.mono g2) g5 (Nat.le_trans hB g6.next) hl'⟩
          rw [hst, apply_ok (fun _ _ _ _ h => by cases h) g1 (.inl ⟨v', rfl⟩)]
          simp only [outcome, finish_head ho, GStep.after, Array.append_empty]
          rfl
      | skip =>
        rename_i hh
        simp only [] at hn
        simp only [OpR.heap] at g5 g6 hl' hpend'
        cases ep : putT xfr.nt t o.dst undef with
        | none => rw [ep] at hn; cases hn
        | some t2 =>
          rw [ep] at hn
          cases hn
          refine ⟨_, w', _, Mi', f', ?_, g2, g4.seen p.prog xfr.fn, .reg (fr := { xfr with tmps := t2 }) (a := putDst o.dst a undef) hret hreg (by rw [putDst_size]; exact size) ((htx.mono g2).put ep (.tuple .nil) size) (hpend'.put ep hdiff) dst (hk.mono g2) (hd.mono g2) (hro.mono g2) (hcs.mono g2) g5 (Nat.le_trans hB g6.next) hl'⟩
          rw [hst, apply_ok (fun _ _ _ _ h => by cases h) g1 (.inr (.inl rfl))]
          simp only [outcome, finish_head ho, GStep.after, Array.append_empty]
          rfl
      | call ha =>
        rename_i kf args args' hh
        simp only [] at hn
        simp only [OpR.heap] at g5 g6 hl' hpend'
        cases es : enterA p kf args false with
        | none => rw [es] at hn; cases hn
        | some c =>
          rw [es] at hn
          cases hn
          have q1 := enter_rel hp (kind := .normal) ha es rfl
          have hlay : LaysRel f' hh bot0 h.next (⟨{ xfr with tmps := t }, xas, ops, o, phs⟩ :: xlay) (realF { xfr with tmps := t } a (.inRegion ops (i :: r) :: k') defers round :: (cs ++ bot)) :=
            .cons (y := ⟨{ xfr with tmps := t }, xas, ops, o, phs⟩) hB hret ho hreg size (htx.mono g2) hpend' dst hdiff (hk.mono g2) (hd.mono g2) (hro.mono g2) (hcs.mono g2) hl'
          refine ⟨_, w', _, Mi', f', ?_, g2, g4.seen p.prog xfr.fn, .plain ⟨⟨_, [], rfl, q1, .nil⟩, g5⟩ g6.next hlay⟩
          rw [hst, apply_ok (fun _ _ _ _ h => by cases h) g1 (.inr (.inr (.inl ⟨_, _, rfl⟩)))]
          simp only [outcome, GStep.after, Array.append_empty, List.nil_append]
      | yield hl0 ha hol hrl hnn =>
        rename_i l x args args' hh al l'
        simp only [hol] at hn
        simp only [OpR.heap] at g5 g6 hl' hpend'
        cases es : setParams al.nt al.params.toList args al.tmps with
        | none => rw [es] at hn; cases hn
        | some t2 =>
          rw [es] at hn
          cases hn
          obtain ⟨q1, q2⟩ := setMany_rel es ha hrl.size hrl.tmps
          have hfold : ((l'.params.zip args').foldl (fun tmps (x : Tmp × Value) => tmps.setIfInBounds x.1 x.2) l'.tmps) = ((al.params.toList.zip args'.toList).foldl (fun tmps (x : Tmp × Value) => tmps.setIfInBounds x.1 x.2) l'.tmps) := by
            rw [hrl.params, ← Array.foldl_toList, Array.toList_zip]
          have hlay : LaysRel f' hh bot0 h.next (⟨{ xfr with tmps := t }, xas, ops, o, phs⟩ :: xlay) (realF { xfr with tmps := t } a (.inRegion ops (i :: r) :: k') defers round :: (cs ++ bot)) :=
            .cons (y := ⟨{ xfr with tmps := t }, xas, ops, o, phs⟩) hB hret ho hreg size (htx.mono g2) hpend' dst hdiff (hk.mono g2) (hd.mono g2) (hro.mono g2) (hcs.mono g2) hl'
          refine ⟨_, w', _, Mi', f', ?_, g2, g4.seen p.prog xfr.fn, .plain ⟨⟨_, [], rfl, ⟨(al.params.toList.zip args'.toList).foldl (fun tmps (x : Tmp × Value) => tmps.setIfInBounds x.1 x.2) l'.tmps, [.code al.assign, .beginRound, .code al.body], [], some x.blk, rfl, ?_, ?_, .cons (.code _) (.cons .beginRound (.cons (.code _) .nil)), .nil, .some hl0⟩, .nil⟩, g5⟩ g6.next hlay⟩
          · rw [hst, apply_ok (fun _ _ _ _ h => by cases h) g1 (.inr (.inr (.inr (.inl ⟨_, _, _, _, _, rfl⟩))))]
            rw [← hfold]
            simp only [outcome, GStep.after, Array.append_empty, List.nil_append, Frame.round, realF, hrl.fn, hrl.assign, hrl.body]
            rfl
          · exact q2
          · exact q1
      | defer hdd => cases hn
      | recover => cases hn
end
end Go.Cx
end
