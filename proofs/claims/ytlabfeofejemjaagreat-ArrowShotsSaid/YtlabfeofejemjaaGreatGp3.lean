/- A part of the proof that ArrowShots returns true for every input: no further condition. -/
import Derived.Test.YtlabfeofejemjaaGreatGp2
import Derived.Test.YtlabfeofejemjaaGreatCx8
import Derived.Test.YtlabfeofejemjaaGreatCx9
import Derived.Conc.Own4
import Derived.Deep.Slices
import Derived.Lib.SmallJoins
import Derived.Maps.AppendAt
set_option linter.unusedSimpArgs false
set_option linter.unusedVariables false
set_option maxHeartbeats 2000000
set_option maxRecDepth 100000
section
namespace Go.Proofs.YtlabfeofejemjaaGreat
open Go.ConcR (DC0)
open Go.RowKit
open Go.RowKit Go.Cx Go.Conc
section
variable {F : Fence} {n : Nat} {P : Program} {Post : Act → World → Prop} {a : Act} {w : World} {b : Frame} {k : List Item} {cs : List Frame}
def Through (Post : Act → World → Prop) : Exit → Act → World → Prop
  | .normal, a, w => Post a w
  | _, _, _ => False
abbrev Comes (F : Fence) (P : Program) (b : Frame) (cs : List Frame) (a : Act) (k : List Item) (w : World) (a' : Act) (k' : List Item) (w' : World) : Prop :=
  StepsIn (Machine.fenced P F) P (lone (b.atR a k) cs w) (lone (b.atR a' k') cs w')
theorem comes_code {c : Code} (h : c.wpIn F n P (Through Post) a w) (hro : b.roundOf = F.round) (hb : F.fn b.fn) (hr : F.room (cs.length + 1 + n)) :
    ∃ a' w', Post a' w' ∧ Comes F P b cs a (.code c :: k) w a' k w' := by
  obtain ⟨e, a', w', hp, harr⟩ := h b k cs hro hb hr
  cases e with
  | normal => exact ⟨a', w', hp, harr⟩
  | _ => exact hp.elim
theorem comes_seq {x y : Code} (hb : F.fn b.fn) (hr : F.room (cs.length + 1 + n)) : Comes F P b cs a (.code (.seq x y) :: k) w a (.code x :: .code y :: k) w :=
  .one (fenced_calm hb hr rfl) stepR_seq
theorem comes_cond {c : Operand} {x y : Code} {t : Bool} (hc : a.eval c = .bool t) (hb : F.fn b.fn) (hr : F.room (cs.length + 1 + n)) : Comes F P b cs a (.code (.cond c x y) :: k) w a (.code (if t then x else y) :: k) w :=
  .one (fenced_calm hb hr rfl) (stepR_cond hc)
theorem comes_region {id : Nat} {ops : Array Oper} (hb : F.fn b.fn) (hr : F.room (cs.length + 1 + n)) : Comes F P b cs a (.code (.region id ops false) :: k) w a (.inRegion ops (List.range ops.size) :: k) w :=
  .one (fenced_calm hb hr rfl) stepR_region
def reckons : Op → Bool
  | .move _ | .assign _ | .pick _ _ _ | .binOp _ _ _ _ _ | .load _ _ | .fieldAddr _ _ _ | .unOp _ _ _ => true
  | .call c => match c.callee with
    | .builtin .len => true
    | _ => false
  | _ => false
theorem reckons_about {o : Oper} (h : reckons o.op = true) (P : Program) (w : World) (ρ : Operand → Value) : o.about P w ρ = none := by
  unfold Oper.about
  cases hop : o.op with
  | call c =>
    rw [hop] at h
    simp only [reckons] at h
    cases hc : c.callee with
    | builtin b => simp [resolve, hc, Target.leads, Sem.run_pure]
    | invoke x y => rw [hc] at h; cases h
    | value f => rw [hc] at h; cases h
  | _ => simp_all [reckons]
theorem run_value {s : Sem Value} {P : Program} {w : World} : (∃ v w', (do let v ← s; pure (Next.value v) : Sem Next).run P w = .ok (.value v) w') ∨ ∃ x w', (do let v ← s; pure (Next.value v) : Sem Next).run P w = .halt x w' := by
  rw [Sem.run_bind]
  cases s.run P w with
  | ok v w' => exact .inl ⟨v, w', rfl⟩
  | halt x w' => exact .inr ⟨x, w', rfl⟩
theorem reckons_run {o : Oper} (h : reckons o.op = true) (P : Program) (w : World) (ρ : Operand → Value) : (∃ v w', (execOp ρ o).run P w = .ok (.value v) w') ∨ ∃ x w', (execOp ρ o).run P w = .halt x w' := by
  cases hop : o.op <;> simp only [hop, reckons] at h <;> try (cases h)
  all_goals unfold execOp; simp only [hop]
  case move x => exact .inl ⟨_, _, rfl⟩
  case assign x => exact .inl ⟨_, _, rfl⟩
  case pick c x y =>
    rw [Sem.run_bind]
    cases (asBool (ρ c)).run P w with
    | ok v w' => exact .inl ⟨_, w', rfl⟩
    | halt x w' => exact .inr ⟨x, w', rfl⟩
  case binOp op t x y u => exact run_value
  case load t x => exact run_value
  case fieldAddr t x f => exact run_value
  case unOp o t x => exact run_value
  case call c =>
    cases hc : c.callee with
    | builtin b =>
      rw [hc] at h
      cases b with
      | len =>
        have e : (do let d ← resolve ρ c o.type; invoke d.target d.args : Sem Next) = (do let v ← Builtin.len_ c.argTypes o.type (c.args.map ρ); pure (Next.value v) : Sem Next) := by
          simp [resolve, hc, invoke, builtin]
        rw [e]
        exact run_value
      | _ => cases h
    | invoke x y => rw [hc] at h; cases h
    | value f => rw [hc] at h; cases h
theorem comes_pre {ops : Array Oper} (l : List Oper) : ∀ (i : Nat) (rest : List Nat) (a : Act) (w : World), (∀ j, j < l.length → ops[i + j]? = l[j]?) → (l.all fun o => reckons o.op) = true →
    wpListIn F n P ops (Through Post) l a w → b.roundOf = F.round → F.fn b.fn → F.room (cs.length + 1 + n) →
    ∃ a' w', Post a' w' ∧ Comes F P b cs a (.inRegion ops (List.range' i l.length ++ rest) :: k) w a' (.inRegion ops rest :: k) w' := by
  induction l with
  | nil => exact fun i rest a w _ _ h _ _ _ => ⟨a, w, h, .refl _⟩
  | cons o l ih =>
    intro i rest a w hops hall h hro hb hr
    have ho : ops[i]? = some o := by simpa using hops 0 (by simp)
    have hops' : ∀ j, j < l.length → ops[i + 1 + j]? = l[j]? := fun j hj => by
      have := hops (j + 1) (by simp; omega)
      simpa [Nat.add_assoc, Nat.add_comm 1 j] using this
    simp only [List.all_cons, Bool.and_eq_true] at hall
    have hab : ∀ f, o.about P w a.eval = some f → F.fn f := fun f hf => by rw [reckons_about hall.1] at hf; cases hf
    have h0 : (lone (b.atR a (.inRegion ops (i :: (List.range' (i + 1) l.length ++ rest)) :: k)) cs w).fenced P F := fenced_oper hb hr ho hab
    have hfin : ∀ v, (b.atR a (.inRegion ops (i :: (List.range' (i + 1) l.length ++ rest)) :: k)).finish v = b.atR (a.put o.dst v) (.inRegion ops (List.range' (i + 1) l.length ++ rest) :: k) := by
      intro v; rw [Frame.finish_atR, ho]; rfl
    simp only [wpListIn] at h
    rw [List.length_cons, List.range'_succ, List.cons_append]
    by_cases hw : Region.wanted o (yielded ops a.tmps) = true
    · rw [if_pos hw] at h
      have h2 := h.2
      have hsem : o.semAt F.round a.eval = execOp a.eval o := by
        refine Oper.semAt_eq _ _ _ fun c hc => ?_
        rw [hc] at hall
        exact absurd hall.1 (by simp [reckons])
      rw [hsem] at h2
      rcases reckons_run hall.1 P w a.eval with ⟨v, w1, hrun⟩ | ⟨x, w1, hrun⟩
      · rw [hrun] at h2
        obtain ⟨a', w', hp, hs⟩ := ih (i + 1) rest _ _ hops' hall.2 h2 hro hb hr
        refine ⟨a', w', hp, .head h0 (step_lone_go ?_) hs⟩
        rw [stepGR_op (P := P) ho hw, hro, hsem, ← hfin]
        simp [stepG.apply, hrun]
      · rw [hrun] at h2
        cases x with
        | panic v => exact h2.elim
        | _ => exact h2.elim
    · rw [if_neg hw] at h
      obtain ⟨a', w', hp, hs⟩ := ih (i + 1) rest _ _ hops' hall.2 h.2 hro hb hr
      have hk := stepR_op_skip (P := P) (b := b) (a := a) (k := k) (cs := cs) (w := w) (ops := ops) (i := i) (rest := List.range' (i + 1) l.length ++ rest) (by simp [ho]; simpa using hw)
      simp only [ho, Option.bind_some] at hk
      exact ⟨a', w', hp, .head h0 hk hs⟩
end
section
variable {F : Fence} {n : Nat} {P : Program} {b : Frame} {cs : List Frame} {S : Act → List Item → World → Prop} {a : Act} {w : World} {k : List Item}
def Reach (F : Fence) (P : Program) (b : Frame) (cs : List Frame) (S : Act → List Item → World → Prop) (a : Act) (k : List Item) (w : World) : Prop :=
  ∃ a' k' w', S a' k' w' ∧ Comes F P b cs a k w a' k' w'
theorem Reach.here (h : S a k w) : Reach F P b cs S a k w := ⟨a, k, w, h, .refl _⟩
theorem reach_seq {x y : Code} (hb : F.fn b.fn) (hr : F.room (cs.length + 1 + n)) (h : Reach F P b cs S a (.code x :: .code y :: k) w) : Reach F P b cs S a (.code (.seq x y) :: k) w := by
  obtain ⟨a', k', w', h1, h2⟩ := h
  exact ⟨a', k', w', h1, (comes_seq hb hr).trans h2⟩
theorem reach_code {c : Code} (hro : b.roundOf = F.round) (hb : F.fn b.fn) (hr : F.room (cs.length + 1 + n))
    (h : ∀ R : Act → World → Prop, (∀ a' w', Reach F P b cs S a' k w' → R a' w') → c.wpIn F n P (Through R) a w) : Reach F P b cs S a (.code c :: k) w := by
  obtain ⟨a1, w1, ⟨a', k', w', h1, h2⟩, h3⟩ := comes_code (h (fun a' w' => Reach F P b cs S a' k w') fun a' w' h => h) hro hb hr
  exact ⟨a', k', w', h1, h3.trans h2⟩
theorem reach_cond {c : Operand} {x y : Code} (t : Bool) (hc : a.eval c = .bool t) (hb : F.fn b.fn) (hr : F.room (cs.length + 1 + n)) (h : Reach F P b cs S a (.code (if t then x else y) :: k) w) : Reach F P b cs S a (.code (.cond c x y) :: k) w := by
  obtain ⟨a', k', w', h1, h2⟩ := h
  exact ⟨a', k', w', h1, (comes_cond hc hb hr).trans h2⟩
theorem reach_skip (hb : F.fn b.fn) (hr : F.room (cs.length + 1 + n)) (hro : b.roundOf = F.round) (h : Reach F P b cs S a k w) : Reach F P b cs S a (.code .skip :: k) w :=
  reach_code (n := n) hro hb hr fun R hR => by
    gi_wp2
    exact hR _ _ h
theorem reach_region {id : Nat} {ops : Array Oper} (hb : F.fn b.fn) (hr : F.room (cs.length + 1 + n)) (h : Reach F P b cs S a (.inRegion ops (List.range ops.size) :: k) w) : Reach F P b cs S a (.code (.region id ops false) :: k) w := by
  obtain ⟨a', k', w', h1, h2⟩ := h
  exact ⟨a', k', w', h1, (comes_region hb hr).trans h2⟩
end
theorem put_same {a : Act} {d : Nat} {v : Value} (h : d < a.tmps.size) : (a.put (some d) v).tmps.getD d undef = v := by
  simp [Act.put, h]
theorem put_far {a : Act} {d e : Nat} {v : Value} (h : d ≠ e) : (a.put (some d) v).tmps.getD e undef = a.tmps.getD e undef := by
  simp [Act.put, h]
theorem put_size {a : Act} {d : Nat} {v : Value} : (a.put (some d) v).tmps.size = a.tmps.size := by simp [Act.put]
theorem put_defers {a : Act} {d : Nat} {v : Value} : (a.put (some d) v).defers = a.defers := rfl
abbrev lawFr (f : FuncId) : Frame := { (default : Frame) with fn := f, kind := .normal, roundOf := none }
structure EarlyAt (S : FuncId) (ops : Array Oper) (i j d r : Nat) : Prop where
  o : ∃ o, ops[i]? = some o ∧ o.op = .call { callee := .value (.func S), args := #[], argTypes := #[] } ∧ o.guard = none ∧ o.dst = some d
  p : ∃ o, ops[j]? = some o ∧ o.op = .assign (.tmp d) ∧ o.guard = none ∧ o.dst = some r
structure LateAt (S : FuncId) (ops : Array Oper) (i j1 j2 g c d e r : Nat) : Prop where
  o : ∃ o, ops[i]? = some o ∧ o.op = .call { callee := .value (.func S), args := #[], argTypes := #[] } ∧ o.guard = some (g, true) ∧ o.dst = some d
  g : (ops[g]?).bind (·.dst) = some c
  p : ∃ o, ops[j1]? = some o ∧ o.op = .pick (.tmp c) (.tmp d) (.const (.bool false)) ∧ o.guard = none ∧ o.dst = some e
  q : ∃ o, ops[j2]? = some o ∧ o.op = .assign (.tmp e) ∧ o.guard = none ∧ o.dst = some r
  ne : d ≠ c
inductive AtCallG (S : FuncId) (r z : Nat) : Act → List Item → Prop where
  | early (a : Act) (k : List Item) (ops : Array Oper) (i j d : Nat) (h : EarlyAt S ops i j d r) (hdz : d < z) (hd : a.defers = []) (hs : a.tmps.size = z) : AtCallG S r z a (.inRegion ops [i, j] :: .code .ret :: k)
  | late (a : Act) (k : List Item) (ops : Array Oper) (i j1 j2 g c d e : Nat) (h : LateAt S ops i j1 j2 g c d e r) (hdz : d < z) (hez : e < z) (hd : a.defers = []) (hs : a.tmps.size = z) (ht : a.tmps.getD c undef = .bool true) (hcz : c < z) : AtCallG S r z a (.inRegion ops [i, j1, j2] :: .code .ret :: k)
section
variable {P : Program} {S f : FuncId} {r z : Nat}
theorem call_step {a : Act} {k : List Item} (hS : ∃ fn, P.funcs[S]? = some fn ∧ (fn.name == "runtime.NumGoroutine") = false ∧ fn.body.isNone = false) (h : AtCallG S r z a k) (w : World) :
    stepG P true (G ((lawFr f).at a k) []) w = .go (G (Frame.enter P S #[] .normal) [(lawFr f).at a k]) w #[] := by
  obtain ⟨fn, hf, hn, hb⟩ := hS
  cases h with
  | early k ops i j d h hdz hd hs =>
    obtain ⟨o, ho, hop, hg, hdst⟩ := h.o
    have hw : Region.wanted o (yielded ops a.tmps) = true := by simp only [Region.wanted, hg]
    rw [stepG_enter ho hw (by intro h; cases h) (run_call_body hop hf hn hb)]
    have : listed P (lawFr f).fn a o w = #[] := by unfold listed; rw [events_call_body hop hf hn hb]; exact seen_none _ _
    rw [this]
    simp only [List.map_toArray, List.map_nil]
  | late k ops i j1 j2 g c d e h hdz hez hd hs ht hcz =>
    obtain ⟨o, ho, hop, hg, hdst⟩ := h.o
    have hw : Region.wanted o (yielded ops a.tmps) = true := by
      simp only [Region.wanted, hg]
      have hgc : a.tmps[c]? = some (.bool true) := by
        rw [Array.getD_eq_getD_getElem?, Array.getElem?_eq_getElem (by omega)] at ht
        rw [Array.getElem?_eq_getElem (by omega)]
        simpa using ht
      unfold yielded
      rw [h.g]
      simp [hgc]
    rw [stepG_enter ho hw (by intro h; cases h) (run_call_body hop hf hn hb)]
    have : listed P (lawFr f).fn a o w = #[] := by unfold listed; rw [events_call_body hop hf hn hb]; exact seen_none _ _
    rw [this]
    simp only [List.map_toArray, List.map_nil]
theorem goes_oneG {R : World → World → Prop} {Stop : Goroutine → World → Prop} {n : Nat} {g g' : Goroutine} {w : World} (hs : g.status = .running) (h : ∀ w1, stepG P true g w1 = .go g' w1 #[]) (hk : ∀ w1, R w w1 → Goes P true R DC0 Stop n g' w1) :
    Goes P true R DC0 Stop (n + 1) g w := Goes.step hs fun w1 h1 => by
  rw [h w1]
  exact ⟨⟨rfl, rfl⟩, hk w1 h1⟩
theorem step_assignG {a : Act} {k : List Item} {ops : Array Oper} {i : Nat} {rest : List Nat} {o : Oper} {x : Operand} (ho : ops[i]? = some o) (hg : o.guard = none) (hop : o.op = .assign x) (w : World) :
    stepG P true (G ((lawFr f).at a (.inRegion ops (i :: rest) :: k)) []) w = .go (G ((lawFr f).at (a.put o.dst (a.eval x)) (.inRegion ops rest :: k)) []) w #[] := by
  have hr : (execOp a.eval o).run P w = .ok (.value (a.eval x)) w := by unfold execOp; simp [hop]
  rw [stepG_value ho (by simp only [Region.wanted, hg]) (by intro h; cases h) hr]
  have : listed P (lawFr f).fn a o w = #[] := by
    unfold listed
    rw [show (execOp a.eval o).events P w #[] = #[] by unfold execOp; simp [hop]]
    exact seen_none _ _
  rw [this]
theorem step_pickG {a : Act} {k : List Item} {ops : Array Oper} {i : Nat} {rest : List Nat} {o : Oper} {c x y : Operand} (ho : ops[i]? = some o) (hg : o.guard = none) (hop : o.op = .pick c x y) (hc : a.eval c = .bool true) (w : World) :
    stepG P true (G ((lawFr f).at a (.inRegion ops (i :: rest) :: k)) []) w = .go (G ((lawFr f).at (a.put o.dst (a.eval x)) (.inRegion ops rest :: k)) []) w #[] := by
  have hr : (execOp a.eval o).run P w = .ok (.value (a.eval x)) w := by unfold execOp; simp [hop, hc, asBool]
  rw [stepG_value ho (by simp only [Region.wanted, hg]) (by intro h; cases h) hr]
  have : listed P (lawFr f).fn a o w = #[] := by
    unfold listed
    rw [show (execOp a.eval o).events P w #[] = #[] by unfold execOp; simp [hop, hc, asBool]]
    exact seen_none _ _
  rw [this]
theorem step_doneG {F : FuncId → Prop} {fl : Func} (hF : FenceOk P F) (hin : F f) (hfl : P.funcs[f]? = some fl) (hres : fl.results = #[.tmp r]) {a : Act} {k : List Item} (hd : a.defers = []) (h4 : a.tmps.getD r undef = .bool true) (w : World) :
    stepG P true (G { (lawFr f).at a (.code .ret :: k) with mode := .returning } []) w = .ended (.done (.bool true)) w #[] := by
  obtain ⟨fn, c, hk⟩ := hF f hin
  have hfn : fn = fl := Option.some.inj (hk.at_.symm.trans hfl)
  have h1 : (results fn a.tmps).run P w = .ok (.bool true) w := by
    rw [results_tmp (t := r) (by rw [hfn]; exact hres) a.tmps P w, h4]
  have h2 : (results fn a.tmps).events P w #[] = #[] := events_results_tmp (t := r) (by rw [hfn]; exact hres) _ _
  have e1 : ∀ (fr : Frame) (z : World), fr.kind = .normal → fr.fn = f → doReturn P true fr [] none (.bool true) z = .ended (.done (.bool true)) z := fun fr z h3 h4 => by simp [doReturn, h3, h4, hk.ini]
  simp only [G, stepG, unwind, Frame.at, hd, hk.at_, Sem.runT_eq, h1, h2]
  rw [e1 _ _ rfl rfl]
  simp [GStep.after, seen_none]
theorem after_retG {F : FuncId → Prop} {fl : Func} (hF : FenceOk P F) (hin : F f) (hfl : P.funcs[f]? = some fl) (hres : fl.results = #[.tmp r]) {a : Act} {k : List Item} {ops : Array Oper} {w w' : World} (he : Env (OldL w) w w') (hd : a.defers = []) (h4 : a.tmps.getD r undef = .bool true) :
    Goes P true (fun w0 w1 => Env (OldL w) w0 w1) DC0 (AtRet P (fun v w1 => v = .bool true ∧ Env (OldL w) w w1)) 2 (G ((lawFr f).at a (.inRegion ops [] :: .code .ret :: k)) []) w' := by
  refine goes_oneG rfl (fun w1 => stepG_region_end) fun w1 h1 => goes_oneG rfl (fun w1 => stepG_ret') fun w2 h2 => Goes.stop fun w3 h3 => ?_
  exact ⟨rfl, _, step_doneG hF hin hfl hres hd h4 w3, rfl, ((he.trans h1).trans h2).trans h3⟩
theorem after_callG {F : FuncId → Prop} {fl : Func} (hF : FenceOk P F) (hin : F f) (hfl : P.funcs[f]? = some fl) (hres : fl.results = #[.tmp r]) (hrz : r < z) {a : Act} {k : List Item} (h : AtCallG S r z a k) {w w' : World} (he : Env (OldL w) w w') :
    Goes P true (fun w0 w1 => Env (OldL w) w0 w1) DC0 (AtRet P (fun v w1 => v = .bool true ∧ Env (OldL w) w w1)) 4 (G (((lawFr f).at a k).finish (.bool true)) []) w' := by
  cases h with
  | early k ops i j d h hdz hd hs =>
    obtain ⟨o, ho, hop, hg, hdst⟩ := h.o
    obtain ⟨o2, ho2, hop2, hg2, hdst2⟩ := h.p
    rw [Frame.finish_at, ho]
    simp only [Option.bind_some, hdst]
    refine goes_oneG (g' := G ((lawFr f).at ((a.put (some d) (.bool true)).put (some r) (.bool true)) (.inRegion ops [] :: .code .ret :: k)) []) rfl (fun w1 => ?_) fun w1 h1 => Goes.more (after_retG hF hin hfl hres (a := (a.put (some d) (.bool true)).put (some r) (.bool true)) (ops := ops) (k := k) (he.trans h1) (by rw [put_defers, put_defers, hd]) (put_same (by rw [put_size]; omega)))
    have h := step_assignG (P := P) (f := f) (a := a.put (some d) (.bool true)) (k := .code .ret :: k) (ops := ops) (i := j) (rest := []) (x := .tmp d) ho2 hg2 hop2 w1
    rw [h, hdst2, show (a.put (some d) (.bool true)).eval (.tmp d) = .bool true from put_same (by omega)]
  | late k ops i j1 j2 g c d e h hdz hez hd hs ht hcz =>
    obtain ⟨o, ho, hop, hg, hdst⟩ := h.o
    obtain ⟨o2, ho2, hop2, hg2, hdst2⟩ := h.p
    obtain ⟨o3, ho3, hop3, hg3, hdst3⟩ := h.q
    rw [Frame.finish_at, ho]
    simp only [Option.bind_some, hdst]
    refine goes_oneG (g' := G ((lawFr f).at ((a.put (some d) (.bool true)).put (some e) (.bool true)) (.inRegion ops [j2] :: .code .ret :: k)) []) rfl (fun w1 => ?_) fun w1 h1 => ?_
    · have h := step_pickG (P := P) (f := f) (a := a.put (some d) (.bool true)) (k := .code .ret :: k) (ops := ops) (i := j1) (rest := [j2]) (c := .tmp c) (x := .tmp d) (y := .const (.bool false)) ho2 hg2 hop2 ((put_far h.ne).trans ht) w1
      rw [h, hdst2, show (a.put (some d) (.bool true)).eval (.tmp d) = .bool true from put_same (by omega)]
    · refine goes_oneG (g' := G ((lawFr f).at (((a.put (some d) (.bool true)).put (some e) (.bool true)).put (some r) (.bool true)) (.inRegion ops [] :: .code .ret :: k)) []) rfl (fun w2 => ?_) fun w2 h2 => after_retG hF hin hfl hres ((he.trans h1).trans h2) (by rw [put_defers, put_defers, put_defers, hd]) (put_same (by rw [put_size, put_size]; omega))
      have h := step_assignG (P := P) (f := f) (a := (a.put (some d) (.bool true)).put (some e) (.bool true)) (k := .code .ret :: k) (ops := ops) (i := j2) (rest := []) (x := .tmp e) ho3 hg3 hop3 w2
      rw [h, hdst3, show ((a.put (some d) (.bool true)).put (some e) (.bool true)).eval (.tmp e) = .bool true from put_same (by rw [put_size]; omega)]
end
def CallsFn (P : Program) (o : Op) : Prop := ∃ (f : FuncId) (args : Array Operand) (ats : Array TypeId) (fn : Func), o = .call { callee := .value (.func f), args, argTypes := ats } ∧ P.funcs[f]? = some fn ∧ (fn.name == "runtime.NumGoroutine") = false ∧ fn.body.isNone = false
section
variable {F : Fence} {n : Nat} {P : Program} {Post : Act → World → Prop} {a : Act} {w : World} {b : Frame} {k : List Item} {cs : List Frame}
theorem comes_call {ops : Array Oper} {i : Nat} {l : List Nat} {o : Oper} {S : FuncId} {args : Array Value} {w1 : World} {next : Act → World → Prop} (ho : ops[i]? = some o) (hw : Region.wanted o (yielded ops a.tmps) = true) (hro : b.roundOf = F.round) (hb : F.fn b.fn) (hr : F.room (cs.length + 1 + n))
    (hrun : (o.semAt F.round a.eval).run P w = .ok (.enter S args) w1) (h : o.wpIn F n P a w next (Through Post)) :
    ∃ v w2, next (a.put o.dst v) w2 ∧ Comes F P b cs a (.inRegion ops (i :: l) :: k) w (a.put o.dst v) (.inRegion ops l :: k) w2 := by
  obtain ⟨hab, h⟩ := h
  rw [hrun] at h
  simp only [Oper.uponIn] at h
  obtain ⟨hn, hF, h⟩ := h
  have h0 : (lone (b.atR a (.inRegion ops (i :: l) :: k)) cs w).fenced P F := fenced_oper hb hr ho hab
  have hg := stepGR_op (P := P) (b := b) (k := k) (cs := cs) (w := w) (rest := l) ho hw
  rw [hro] at hg
  have hroom : F.room ((b.atR a (.inRegion ops (i :: l) :: k) :: cs).length + 1 + (n - 1)) := Fence.room_enter hr hn
  obtain ⟨e, w2, fr, hR, hsteps, hfn, hleave⟩ := h (b.atR a (.inRegion ops (i :: l) :: k) :: cs) hroom
  have henter : step P (lone (b.atR a (.inRegion ops (i :: l) :: k)) cs w) = .next (lone (Frame.enter P S args .normal) (b.atR a (.inRegion ops (i :: l) :: k) :: cs) w1) :=
    step_lone_go (by rw [hg]; simp [stepG.apply, hrun, Frame.atR])
  cases e with
  | returned v =>
    refine ⟨v, w2, hR, .head h0 henter (StepsIn.trans hsteps (.one (fenced_leaving (hfn ▸ hF) hroom hleave) ?_))⟩
    have hfin : (b.atR a (.inRegion ops (i :: l) :: k)).finish v = b.atR (a.put o.dst v) (.inRegion ops l :: k) := by rw [Frame.finish_atR, ho]; rfl
    rw [← hfin]
    exact step_leave_returned hleave
  | panicked chain => exact hR.elim
  | outgrown => obtain ⟨_, _, hq⟩ := hR; exact hq.elim
theorem comes_list {ops : Array Oper} (l : List Oper) : ∀ (i : Nat) (rest : List Nat) (a : Act) (w : World), (∀ j, j < l.length → ops[i + j]? = l[j]?) → (∀ o ∈ l, reckons o.op = true ∨ CallsFn P o.op) →
    wpListIn F n P ops (Through Post) l a w → b.roundOf = F.round → F.fn b.fn → F.room (cs.length + 1 + n) →
    ∃ a' w', Post a' w' ∧ Comes F P b cs a (.inRegion ops (List.range' i l.length ++ rest) :: k) w a' (.inRegion ops rest :: k) w' := by
  induction l with
  | nil => exact fun i rest a w _ _ h _ _ _ => ⟨a, w, h, .refl _⟩
  | cons o l ih =>
    intro i rest a w hops hall h hro hb hr
    have ho : ops[i]? = some o := by simpa using hops 0 (by simp)
    have hops' : ∀ j, j < l.length → ops[i + 1 + j]? = l[j]? := fun j hj => by
      have := hops (j + 1) (by simp; omega)
      simpa [Nat.add_assoc, Nat.add_comm 1 j] using this
    have hall' : ∀ o ∈ l, reckons o.op = true ∨ CallsFn P o.op := fun o ho => hall o (List.mem_cons_of_mem _ ho)
    rw [List.length_cons, List.range'_succ, List.cons_append]
    simp only [wpListIn] at h
    by_cases hw : Region.wanted o (yielded ops a.tmps) = true
    · rw [if_pos hw] at h
      rcases hall o (List.mem_cons_self ..) with hrk | ⟨f, args, ats, fn, hop, hf, hname, hbody⟩
      · have h1 : wpListIn F n P ops (Through fun a w => wpListIn F n P ops (Through Post) l a w) [o] a w := by
          simp only [wpListIn]
          rw [if_pos hw]
          refine ⟨h.1, ?_⟩
          have h2 := h.2
          revert h2
          have hsem : o.semAt F.round a.eval = execOp a.eval o := Oper.semAt_eq _ _ _ fun c hc => by rw [hc] at hrk; exact absurd hrk (by simp [reckons])
          rw [hsem]
          rcases reckons_run hrk P w a.eval with ⟨v, w1, hrun⟩ | ⟨x, w1, hrun⟩
          · rw [hrun]; exact fun h => h
          · rw [hrun]; cases x <;> exact fun h => h
        obtain ⟨a1, w1, h2, h3⟩ := comes_pre (b := b) (cs := cs) (k := k) (ops := ops) [o] i (List.range' (i + 1) l.length ++ rest) a w (fun j hj => by simp at hj; subst hj; simpa using ho) (by simpa using hrk) h1 hro hb hr
        obtain ⟨a', w', hp, hs⟩ := ih (i + 1) rest a1 w1 hops' hall' h2 hro hb hr
        exact ⟨a', w', hp, StepsIn.trans (by simpa using h3) hs⟩
      · have hsem : o.semAt F.round a.eval = execOp a.eval o := Oper.semAt_eq _ _ _ fun c hc => by rw [hop] at hc; cases hc
        obtain ⟨v, w2, h2, h3⟩ := comes_call (l := List.range' (i + 1) l.length ++ rest) ho hw hro hb hr (by rw [hsem]; exact run_call_body hop hf hname hbody) h
        obtain ⟨a', w', hp, hs⟩ := ih (i + 1) rest _ w2 hops' hall' h2 hro hb hr
        exact ⟨a', w', hp, StepsIn.trans h3 hs⟩
    · rw [if_neg hw] at h
      obtain ⟨a', w', hp, hs⟩ := ih (i + 1) rest _ _ hops' hall' h.2 hro hb hr
      have hk := stepR_op_skip (P := P) (b := b) (a := a) (k := k) (cs := cs) (w := w) (ops := ops) (i := i) (rest := List.range' (i + 1) l.length ++ rest) (by simp [ho]; simpa using hw)
      simp only [ho, Option.bind_some] at hk
      exact ⟨a', w', hp, .head (fenced_oper hb hr ho h.1) hk hs⟩
theorem reach_list {S : Act → List Item → World → Prop} {ops : Array Oper} (t : Nat) (rest : List Nat) (hr2 : List.range ops.size = List.range' 0 (ops.toList.take t).length ++ rest) (hall : ∀ o ∈ ops.toList.take t, reckons o.op = true ∨ CallsFn P o.op) (hro : b.roundOf = F.round) (hb : F.fn b.fn) (hr : F.room (cs.length + 1 + n))
    (h : ∀ R : Act → World → Prop, (∀ a' w', Reach F P b cs S a' (.inRegion ops rest :: k) w' → R a' w') → wpListIn F n P ops (Through R) (ops.toList.take t) a w) : Reach F P b cs S a (.inRegion ops (List.range ops.size) :: k) w := by
  rw [hr2]
  obtain ⟨a1, w1, ⟨a', k', w', h1, h2⟩, h3⟩ := comes_list (b := b) (cs := cs) (k := k) (ops.toList.take t) 0 rest a w (fun j hj => by
    rw [Nat.zero_add, List.getElem?_take, if_pos (Nat.lt_of_lt_of_le hj (List.length_take_le ..))]
    simp) hall (h (fun a' w' => Reach F P b cs S a' (.inRegion ops rest :: k) w') fun a' w' h => h) hro hb hr
  exact ⟨a', k', w', h1, h3.trans h2⟩
end
end Go.Proofs.YtlabfeofejemjaaGreat
end
section
namespace Go.Proofs.YtlabfeofejemjaaGreat
open Go.RowKit
theorem mul_next (a k : Int) : (a + 1) * k = a * k + k := by rw [Int.add_mul]; omega
theorem b_range {r : Rl} {sh : Nat → Sh} {n : Nat} (hok : CardOk r sh n) (hn : n ≠ 0) {d : Int} (h0 : 0 ≤ d) (h1 : d ≤ 90) : -107892 ≤ bU r sh d n ∧ bV r sh d n ≤ 207891 := by
  have hb := reach_bounds hok.rule (hok.each 0 (by omega)) h0 h1
  have a := ((bU_le (r := r) (sh := sh) (d := d) n).1 (Int.le_refl _)).2 0 (by omega)
  have b := ((le_bV (r := r) (sh := sh) (d := d) n).1 (Int.le_refl _)).2 0 (by omega)
  omega
def atK (s k : Nat) : Nat := if s + k ≤ 90 then s + k else 90 - k
def Marked (r : Rl) (sh : Nat → Sh) (n s k : Nat) (M : Nat → Int) : Prop := ∀ j, j < k → bU r sh (atK s j : Nat) n ≤ M (atK s j) ∧ M (atK s j) ≤ bV r sh (atK s j : Nat) n
theorem atK_hit {s d : Nat} (hs : s ≤ 90) (hd : d ≤ 90) : ∃ j, j < 91 ∧ atK s j = d := by
  by_cases h : s ≤ d
  · exact ⟨d - s, by omega, by unfold atK; rw [if_pos (by omega)]; omega⟩
  · exact ⟨90 - d, by omega, by unfold atK; rw [if_neg (by omega)]; omega⟩
theorem atK_inj {s j k : Nat} (hs : s ≤ 90) (hj : j ≤ 90) (hk : k ≤ 90) (h : atK s j = atK s k) : j = k := by
  unfold atK at h; split at h <;> split at h <;> omega
theorem Marked.zero {r : Rl} {sh : Nat → Sh} {n s : Nat} {M : Nat → Int} : Marked r sh n s 0 M := fun j hj => by omega
theorem Marked.next {r : Rl} {sh : Nat → Sh} {n s k : Nat} {M : Nat → Int} (h : Marked r sh n s k M) (hs : s ≤ 90) (hk : k ≤ 90) {v : Int} (hv : bU r sh (atK s k : Nat) n ≤ v ∧ v ≤ bV r sh (atK s k : Nat) n) : Marked r sh n s (k + 1) (fun i => if i = atK s k then v else M i) := fun j hj => by
  by_cases e : j = k
  · subst e; simpa using hv
  · have hne : atK s j ≠ atK s k := fun h' => e (atK_inj hs (by omega) hk h')
    simp only [hne, if_false]
    exact h j (by omega)
theorem Marked.wide {r : Rl} {sh : Nat → Sh} {n s : Nat} {M : Nat → Int} (h : Marked r sh n s 91 M) (hok : CardOk r sh n) (hs : s ≤ 90) {i : Nat} (hi : i < n) : wideU r (sh i) ≤ M (sh i).d.toNat ∧ M (sh i).d.toNat ≤ wideV r (sh i) := by
  have hx := hok.each i hi
  have h0 := And.intro hx.d0 hx.d1
  obtain ⟨j, hj, ej⟩ := atK_hit (s := s) (d := (sh i).d.toNat) hs (by omega)
  have a := h j hj
  rw [ej, show (((sh i).d.toNat : Nat) : Int) = (sh i).d by omega] at a
  have u := ((bU_le (r := r) (sh := sh) (d := (sh i).d) n).1 (Int.le_refl _)).2 i hi
  have v := ((le_bV (r := r) (sh := sh) (d := (sh i).d) n).1 (Int.le_refl _)).2 i hi
  rw [reachU_own] at u
  rw [reachV_own] at v
  omega
end Go.Proofs.YtlabfeofejemjaaGreat
end
section
namespace Go.Proofs.YtlabfeofejemjaaGreat
open Go.RowKit Go.Cx Go.Conc
def UpRow (n : Nat) (v : Value) (w : World) : Prop := ∃ LA lc, v = .slice LA n lc ∧ n ≤ lc ∧ IntsAt w LA n (fun k => (k : Int))
theorem UpRow.below {n : Nat} {v : Value} {w w' : World} (h : UpRow n v w) (hb : Below w.heap.size w w') : UpRow n v w' := by
  obtain ⟨LA, lc, h1, h2, h3⟩ := h
  exact ⟨LA, lc, h1, h2, h3.below hb⟩
end Go.Proofs.YtlabfeofejemjaaGreat
end
section
namespace Go.Proofs.YtlabfeofejemjaaGreat
open Go.RowKit Go.Cx Go.Conc
def MarksAt (w : World) (p : Nat) (M : Nat → Int) : Prop := ∃ xs : Array Value, w.heap[p]? = some (.cells xs 3 (0, 0)) ∧ ∀ i, i < 91 → xs[i]? = some (.int .i64 (M i))
theorem MarksAt.cell {w : World} {p : Nat} {M : Nat → Int} (h : MarksAt w p M) {i : Nat} (hi : i < 91) : w.cell? ⟨p, i, none⟩ = some (.int .i64 (M i)) := by
  obtain ⟨xs, h1, h2⟩ := h
  simp [World.cell?, h1, h2 i hi]
theorem MarksAt.frozen {w : World} {p : Nat} {M : Nat → Int} (h : MarksAt w p M) (j : Nat) : w.frozen? ⟨p, j, none⟩ = false := by
  obtain ⟨xs, h1, h2⟩ := h
  simp [World.frozen?, h1]
theorem MarksAt.lt {w : World} {p : Nat} {M : Nat → Int} (h : MarksAt w p M) : p < w.heap.size := by
  obtain ⟨xs, h1, h2⟩ := h
  exact (Array.getElem?_eq_some_iff.1 h1).1
theorem MarksAt.below {w w' : World} {p : Nat} {M : Nat → Int} (h : MarksAt w p M) (hb : Below w.heap.size w w') : MarksAt w' p M := by
  have hl := h.lt
  obtain ⟨xs, h1, h2⟩ := h
  exact ⟨xs, (hb.block _ hl).trans h1, h2⟩
theorem MarksAt.set {w : World} {p : Nat} {M : Nat → Int} (h : MarksAt w p M) {d : Nat} (hd : d < 91) (v : Int) : MarksAt (w.setCell ⟨p, d, none⟩ (.int .i64 v)) p (fun i => if i = d then v else M i) := by
  obtain ⟨xs, h1, h2⟩ := h
  refine ⟨xs.setIfInBounds d (.int .i64 v), by simp [World.setCell, Array.getElem?_modify, h1], fun i hi => ?_⟩
  by_cases e : i = d
  · subst e
    have hl : i < xs.size := (Array.getElem?_eq_some_iff.1 (h2 i hi)).1
    simp [hl]
  · rw [Array.getElem?_setIfInBounds_ne (fun e' => e e'.symm)]
    simp [e, h2 i hi]
theorem MarksAt.new (w : World) : MarksAt (w.alloc (.cells (Array.replicate 91 (.int .i64 0)) 3)) w.heap.size (fun _ => 0) := ⟨_, heap_new _ _, fun i hi => by simp [hi]⟩
theorem Marked.range {r : Rl} {sh : Nat → Sh} {n s k : Nat} {M : Nat → Int} (h : Marked r sh n s k M) (hok : CardOk r sh n) (hn : n ≠ 0) {j : Nat} (hj : ∃ i, i < k ∧ atK s i = j) (h9 : j ≤ 90) : -107892 ≤ M j ∧ M j ≤ 207891 := by
  obtain ⟨i, hi, rfl⟩ := hj
  have a := h i hi
  have b := b_range hok hn (d := ((atK s i : Nat) : Int)) (by omega) (by omega)
  omega
theorem MarksAt.far {w : World} {p q : Nat} {M : Nat → Int} (h : MarksAt w p M) (hne : q ≠ p) (j : Nat) (x : Value) : MarksAt (w.setCell ⟨q, j, none⟩ x) p M := by
  obtain ⟨xs, h1, h2⟩ := h
  exact ⟨xs, by simp [World.setCell, Array.getElem?_modify, h1, hne], h2⟩
end Go.Proofs.YtlabfeofejemjaaGreat
end
section
namespace Go.Proofs.YtlabfeofejemjaaGreat
open Go.RowKit Go.Cx Go.Conc
def dstsIn (ops : Array Oper) (D : List Nat) : Bool := (List.range ops.size).all fun j => match dstAt ops j with | some s => D.contains s | none => true
theorem dstsIn_use {ops : Array Oper} {D : List Nat} (h : dstsIn ops D = true) {j s : Nat} (hj : j < ops.size) (e : dstAt ops j = some s) : s ∈ D := by
  have h1 := List.all_eq_true.1 h j (List.mem_range.2 hj)
  rw [e] at h1
  simpa using h1
theorem RF.act {ops : Array Oper} {sup : Nat → List Nat} {Ψ : Nat → List Value → World → Prop} {I : World → Prop} {z : Nat} {a0 : Act} {listed : Array Bool} {a : Act} {w : World} (h : RF ops sup Ψ I z a0 listed a w) (hz : a0.tmps.size = z) (D : List Nat) (hD : dstsIn ops D = true) :
    a = { tmps := (D.map fun d => (d, a.eval (.tmp d))).foldl (fun t x => t.setIfInBounds x.1 x.2) a0.tmps, defers := [] } := by
  have e := fold_set a (D.map fun d => (d, a.eval (.tmp d))) a0.tmps (by rw [hz, h.size]) (fun x hx => by
      obtain ⟨d, _, rfl⟩ := List.mem_map.1 hx
      rfl) fun s hs => (h.old s fun j hj e => hs _ (List.mem_map.2 ⟨s, dstsIn_use hD hj e, rfl⟩) rfl).symm
  rw [e]
  obtain ⟨t, d⟩ := a
  have := h.defers
  simp only at this
  subst this
  rfl
end Go.Proofs.YtlabfeofejemjaaGreat
end
section
namespace Go.Proofs.YtlabfeofejemjaaGreat
open Go.RowKit Go.Cx Go.Conc
def BoxIs (w : World) (p : Nat) (r : Rl) (v : Value) : Prop := w.heap[p]? = some (.cells #[.int .i64 r.ls, .int .i64 r.ms, .int .i64 r.wd, .int .i64 r.lt, v] 26 (0, 0))
theorem BoxIs.cells {w : World} {p : Nat} {r : Rl} {v : Value} (h : BoxIs w p r v) : w.cell? ⟨p, 0, none⟩ = some (.int .i64 r.ls) ∧ w.cell? ⟨p, 1, none⟩ = some (.int .i64 r.ms) ∧ w.cell? ⟨p, 2, none⟩ = some (.int .i64 r.wd) ∧ w.cell? ⟨p, 3, none⟩ = some (.int .i64 r.lt) ∧ w.cell? ⟨p, 4, none⟩ = some v := by
  unfold BoxIs at h
  refine ⟨?_, ?_, ?_, ?_, ?_⟩ <;> simp [World.cell?, h]
theorem BoxIs.lt {w : World} {p : Nat} {r : Rl} {v : Value} (h : BoxIs w p r v) : p < w.heap.size := (Array.getElem?_eq_some_iff.1 h).1
theorem BoxIs.below {w w' : World} {p : Nat} {r : Rl} {v : Value} (h : BoxIs w p r v) (hb : Below w.heap.size w w') : BoxIs w' p r v := (hb.block p h.lt).trans h
def Box5 (w : World) (p : Nat) (r : Rl) (v : Value) (b : Bool) : Prop := ∃ cs : Array Value, w.heap[p]? = some (.cells cs 26 (0, 0)) ∧ cs.size = 5 ∧ (b = true → cs = #[.int .i64 r.ls, .int .i64 r.ms, .int .i64 r.wd, .int .i64 r.lt, v])
theorem Box5.lt {w : World} {p : Nat} {r : Rl} {v : Value} {b : Bool} (h : Box5 w p r v b) : p < w.heap.size := by
  obtain ⟨cs, h, _⟩ := h
  exact (Array.getElem?_eq_some_iff.1 h).1
theorem Box5.alloc {w : World} {p : Nat} {r : Rl} {v : Value} {b : Bool} (h : Box5 w p r v b) (o : Obj) : Box5 (w.alloc o) p r v b := by
  obtain ⟨cs, h1, h2⟩ := h
  exact ⟨cs, heap_old h1, h2⟩
theorem Box5.new {w : World} {r : Rl} {v : Value} {b : Bool} (hb : b = false) {a0 a1 a2 a3 a4 : Value} : Box5 (w.alloc (.cells #[a0, a1, a2, a3, a4] 26)) w.heap.size r v b := ⟨_, heap_new _ _, rfl, fun h => by rw [hb] at h; cases h⟩
theorem cells_frozen {w : World} {p : Nat} {t : TypeId} {cs : Array Value} (h : w.heap[p]? = some (.cells cs t (0, 0))) (j : Nat) : w.frozen? ⟨p, j, none⟩ = false := by simp [World.frozen?, h]
theorem Box5.far {w : World} {p q : Nat} {r : Rl} {v : Value} {b : Bool} (h : Box5 w p r v b) (hne : q ≠ p) (j : Nat) (x : Value) : Box5 (w.setCell ⟨q, j, none⟩ x) p r v b := by
  obtain ⟨cs, h1, h2⟩ := h
  exact ⟨cs, by simp [World.setCell, Array.getElem?_modify, hne, h1], h2⟩
theorem Box5.is {w : World} {p : Nat} {r : Rl} {v : Value} {b : Bool} (h : Box5 w p r v b) (hb : b = true) : BoxIs w p r v := by
  obtain ⟨cs, h1, _, h3⟩ := h
  rw [h3 hb] at h1
  exact h1
def shVals (x : Sh) : List Value := [.int .i64 x.d, .int .i64 x.u, .int .i64 x.v, .int .i64 x.wd, .int .i64 x.lt]
theorem addr_add (b o j : Nat) : Addr.add ⟨b, o, none⟩ j = ⟨b, o + j, none⟩ := by
  unfold Addr.add
  by_cases h : j = 0 <;> simp [h]
def RowAt (w : World) (g n : Nat) (sh : Nat → Sh) : Prop := ∃ cur : Array Value, w.heap[g]? = some (.cells cur 46 (0, 0)) ∧ ∀ k i, k < n → i < 5 → cur[k * 5 + i]? = (shVals (sh k))[i]?
theorem RowAt.lt {w : World} {g n : Nat} {sh : Nat → Sh} (h : RowAt w g n sh) : g < w.heap.size := by
  obtain ⟨cur, h, _⟩ := h
  exact (Array.getElem?_eq_some_iff.1 h).1
theorem RowAt.below {w w' : World} {g n : Nat} {sh : Nat → Sh} (h : RowAt w g n sh) (hb : Below w.heap.size w w') : RowAt w' g n sh := by
  have := h.lt
  obtain ⟨cur, h1, h2⟩ := h
  exact ⟨cur, (hb.block g this).trans h1, h2⟩
theorem RowAt.frozen {w : World} {g n : Nat} {sh : Nat → Sh} (h : RowAt w g n sh) (j : Nat) : w.frozen? ⟨g, j, none⟩ = false := by
  obtain ⟨cur, h1, _⟩ := h
  exact cells_frozen h1 j
theorem RowAt.far {w : World} {g p n : Nat} {sh : Nat → Sh} (h : RowAt w g n sh) (hne : p ≠ g) (j : Nat) (x : Value) : RowAt (w.setCell ⟨p, j, none⟩ x) g n sh := by
  obtain ⟨cur, h1, h2⟩ := h
  exact ⟨cur, by simp [World.setCell, Array.getElem?_modify, hne, h1], h2⟩
theorem BoxIs.far {w : World} {p q : Nat} {r : Rl} {v : Value} (h : BoxIs w p r v) (hne : q ≠ p) (j : Nat) (x : Value) : BoxIs (w.setCell ⟨q, j, none⟩ x) p r v := by
  unfold BoxIs at h ⊢
  simp [World.setCell, Array.getElem?_modify, hne, h]
theorem BoxIs.grown {w w' : World} {p : Nat} {r : Rl} {v : Value} {row : Option Nat} (h : BoxIs w p r v) (hg : w.grownBy w' row) (hne : some p ≠ row) : BoxIs w' p r v := (hg.block p h.lt hne).trans h
theorem BoxIs.alloc {w : World} {p : Nat} {r : Rl} {v : Value} (h : BoxIs w p r v) (o : Obj) : BoxIs (w.alloc o) p r v := heap_old h
theorem BoxIs.frozen {w : World} {p : Nat} {r : Rl} {v : Value} (h : BoxIs w p r v) (j : Nat) : w.frozen? ⟨p, j, none⟩ = false := cells_frozen h j
theorem own_shape {w : World} {base e size n : Nat} {v : Value} {xs : List Value} (h : w.ownsRow base e size v n xs) (hn : n ≠ 0) : ∃ g cap, v = .slice (some ⟨g, 0, none⟩) n cap := by
  obtain ⟨_, ⟨_, h⟩ | ⟨g, cap, cur, rfl, _⟩⟩ := h
  · exact absurd h hn
  · exact ⟨g, cap, rfl⟩
theorem RowAt.alloc {w : World} {g n : Nat} {sh : Nat → Sh} (h : RowAt w g n sh) (o : Obj) : RowAt (w.alloc o) g n sh := h.below ((Below.refl _ _).alloc (Nat.le_refl _) o)
theorem RowAt.grown {w w' : World} {g n : Nat} {sh : Nat → Sh} {row : Option Nat} (h : RowAt w g n sh) (hg : w.grownBy w' row) (hne : some g ≠ row) : RowAt w' g n sh := by
  have := h.lt
  obtain ⟨cur, h1, h2⟩ := h
  exact ⟨cur, (hg.block g this hne).trans h1, h2⟩
theorem RowAt.put {w : World} {g n k i : Nat} {sh sh' : Nat → Sh} {v : Value} (h : RowAt w g n sh) (hk : k < n) (hi : i < 5) (hsame : ∀ k' i', k' < n → i' < 5 → k' * 5 + i' ≠ k * 5 + i → (shVals (sh' k'))[i']? = (shVals (sh k'))[i']?) (hnew : (shVals (sh' k))[i]? = some v) : RowAt (w.setCell ⟨g, k * 5 + i, none⟩ v) g n sh' := by
  obtain ⟨cur, h1, h2⟩ := h
  have hlt : k * 5 + i < cur.size := by
    have h3 := h2 k i hk hi
    have h4 : i < (shVals (sh k)).length := hi
    rw [List.getElem?_eq_getElem h4] at h3
    exact (Array.getElem?_eq_some_iff.1 h3).1
  refine ⟨cur.setIfInBounds (k * 5 + i) v, by simp [World.setCell, Array.getElem?_modify, h1], fun k' i' hk' hi' => ?_⟩
  rw [Array.getElem?_setIfInBounds]
  by_cases e : k * 5 + i = k' * 5 + i'
  · have e1 : k' = k := by omega
    have e2 : i' = i := by omega
    subst e1 e2
    simp [hlt, hnew]
  · rw [if_neg e, hsame k' i' hk' hi' (fun e' => e e'.symm)]
    exact h2 k' i' hk' hi'
theorem ownsRow_alloc {w : World} {base size n : Nat} {e : TypeId} {v : Value} {xs : List Value} (h : w.ownsRow base e size v n xs) (o : Obj) : (w.alloc o).ownsRow base e size v n xs := own_below h ((Below.refl _ _).alloc (Nat.le_refl _) o)
section
variable {F : Fence} {nF : Nat} {P : Program} {ops : Array Oper} {Q : Exit → Act → World → Prop}
end
end Go.Proofs.YtlabfeofejemjaaGreat
end
section
namespace Go.Proofs.YtlabfeofejemjaaGreat
open Go.RowKit
theorem SameNums_any (LA LB : Option Addr) (m lc k kc : Nat) (a b : Nat → Nat) (W : World) (hm : m ≤ 20) (hk : k ≤ 20) (hc : m ≤ lc) (hkc : k ≤ kc) (ha : Hid (IntsAt W LA m fun k => (a k : Int))) (hb : Hid (IntsAt W LB k fun k => (b k : Int))) :
    CallsIn Fc 0 Tryz.prog 17 #[.slice LA m lc, .slice LB k kc] W (SaysProp (m = k ∧ ∀ i, i < m → a i = b i) W) := by
  by_cases h : m = k
  · subst h
    gi_enter Tryz.func17, Tryz.ntmps17
    gi_wp2
    gi_loopw [5] (fun x wr => ∃ j : Nat, j ≤ m ∧ x = .int .i64 j ∧ Below W.heap.size W wr ∧ ∀ i, i < j → a i = b i) (fun x _ => m - (intOf x).toNat)
    case atStart => exact ⟨0, by omega, rfl, Below.refl _ _, fun i hi => by omega⟩
    case round =>
      obtain ⟨j, hj, rfl, hbw, heq⟩ := hrel
      have HEQ := Lib.hid heq
      have HBW := Lib.hid hbw
      clear heq hbw
      by_cases hlt : j < m
      · obtain ⟨b1, o1, rfl, q1⟩ := ha.out j hlt
        obtain ⟨b2, o2, rfl, q2⟩ := hb.out j hlt
        have Q1 := Lib.hid (Below.old HBW.out q1)
        have Q2 := Lib.hid (Below.old HBW.out q2)
        clear q1 q2
        by_cases he : (a j : Int) = (b j : Int)
        · have hbb : ((a j : Int) != (b j : Int)) = false := by simp [he]
          gi_wp2
          refine wpIn_region_D (D := [(17, .slice (some ⟨b1, o1, none⟩) m lc), (18, .int .i64 j), (19, .pointer (some ⟨b1, o1 + j, none⟩)), (20, .int .i64 (a j)), (21, .slice (some ⟨b2, o2, none⟩) m kc), (22, .int .i64 j), (23, .pointer (some ⟨b2, o2 + j, none⟩)), (24, .int .i64 (b j)), (25, .bool ((a j : Int) != (b j : Int)))])
            (I := fun w => Below wr.heap.size wr w) (z := 26) (by kernel_rfl) (by kernel_rfl) (by kernel_rfl) (by kernel_rfl) (by kernel_rfl) rfl rfl (Below.refl _ _).drew ?_ ?_
          · intro j a w hj hd hz hold hf hI
            have HI := Lib.hid hI
            have q1 := Below.old hI Q1.out
            have q2 := Below.old hI Q2.out
            clear hI hbb he
            have s0 := at_slot hz (hold 0 (by kernel_rfl)) (by omega)
            have s1 := at_slot hz (hold 1 (by kernel_rfl)) (by omega)
            have s5 := at_slot hz (hold 5 (by kernel_rfl)) (by omega)
            clear hold
            have hjs : j = 0 ∨ j = 1 ∨ j = 2 ∨ j = 3 ∨ j = 4 ∨ j = 5 ∨ j = 6 ∨ j = 7 ∨ j = 8 := by have : j < 9 := hj; omega
            rcases hjs with rfl | rfl | rfl | rfl | rfl | rfl | rfl | rfl | rfl
            · refine wpOpIn_step rfl fun K hK => ?_
              go_simp
              exact hK _ _ ⟨_, _, rfl, rfl, rfl, HI.out⟩
            · refine wpOpIn_step rfl fun K hK => ?_
              go_simp
              exact hK _ _ ⟨_, _, rfl, rfl, rfl, HI.out⟩
            · have f17 := at_slot hz (hf 0 17 _ (by kernel_rfl) rfl) (by omega)
              have f18 := at_slot hz (hf 1 18 _ (by kernel_rfl) rfl) (by omega)
              refine wpOpIn_step rfl fun K hK => ?_
              go_simp
              exact hK _ _ ⟨_, _, rfl, rfl, rfl, HI.out⟩
            · have f19 := at_slot hz (hf 2 19 _ (by kernel_rfl) rfl) (by omega)
              refine wpOpIn_step rfl fun K hK => ?_
              go_simp
              exact hK _ _ ⟨_, _, rfl, rfl, rfl, HI.out⟩
            · refine wpOpIn_step rfl fun K hK => ?_
              go_simp
              exact hK _ _ ⟨_, _, rfl, rfl, rfl, HI.out⟩
            · refine wpOpIn_step rfl fun K hK => ?_
              go_simp
              exact hK _ _ ⟨_, _, rfl, rfl, rfl, HI.out⟩
            · have f21 := at_slot hz (hf 4 21 _ (by kernel_rfl) rfl) (by omega)
              have f22 := at_slot hz (hf 5 22 _ (by kernel_rfl) rfl) (by omega)
              refine wpOpIn_step rfl fun K hK => ?_
              go_simp
              exact hK _ _ ⟨_, _, rfl, rfl, rfl, HI.out⟩
            · have f23 := at_slot hz (hf 6 23 _ (by kernel_rfl) rfl) (by omega)
              refine wpOpIn_step rfl fun K hK => ?_
              go_simp
              exact hK _ _ ⟨_, _, rfl, rfl, rfl, HI.out⟩
            · have f20 := at_slot hz (hf 3 20 _ (by kernel_rfl) rfl) (by omega)
              have f24 := at_slot hz (hf 7 24 _ (by kernel_rfl) rfl) (by omega)
              refine wpOpIn_step rfl fun K hK => ?_
              go_simp
              exact hK _ _ ⟨_, _, rfl, rfl, rfl, HI.out⟩
          intro w5 hI
          simp only [List.foldl_cons, List.foldl_nil, List.setIfInBounds_toArray, List.set_cons_succ, List.set_cons_zero]
          have HI := Lib.hid hI
          clear hI
          have HE := Lib.hid he
          clear he
          gi_wp2
          go_roundw
          case rel => exact ⟨j + 1, by omega, by go_num, HBW.out.trans (HI.out.mono HBW.out.size), fun i hi => by
            by_cases e : i = j
            · subst e; have := HE.out; omega
            · exact HEQ.out i (by omega)⟩
          case measure => simp [intOf]; omega
        · have hbb : ((a j : Int) != (b j : Int)) = true := by simpa using he
          have HE : Hid (¬ (a j : Int) = (b j : Int)) := Lib.hid he
          clear he
          gi_wp2
          refine wpIn_region_D (D := [(17, .slice (some ⟨b1, o1, none⟩) m lc), (18, .int .i64 j), (19, .pointer (some ⟨b1, o1 + j, none⟩)), (20, .int .i64 (a j)), (21, .slice (some ⟨b2, o2, none⟩) m kc), (22, .int .i64 j), (23, .pointer (some ⟨b2, o2 + j, none⟩)), (24, .int .i64 (b j)), (25, .bool ((a j : Int) != (b j : Int)))])
            (I := fun w => Below wr.heap.size wr w) (z := 26) (by kernel_rfl) (by kernel_rfl) (by kernel_rfl) (by kernel_rfl) (by kernel_rfl) rfl rfl (Below.refl _ _).drew ?_ ?_
          · intro j a w hj hd hz hold hf hI
            have HI := Lib.hid hI
            have q1 := Below.old hI Q1.out
            have q2 := Below.old hI Q2.out
            clear hI hbb
            have s0 := at_slot hz (hold 0 (by kernel_rfl)) (by omega)
            have s1 := at_slot hz (hold 1 (by kernel_rfl)) (by omega)
            have s5 := at_slot hz (hold 5 (by kernel_rfl)) (by omega)
            clear hold
            have hjs : j = 0 ∨ j = 1 ∨ j = 2 ∨ j = 3 ∨ j = 4 ∨ j = 5 ∨ j = 6 ∨ j = 7 ∨ j = 8 := by have : j < 9 := hj; omega
            rcases hjs with rfl | rfl | rfl | rfl | rfl | rfl | rfl | rfl | rfl
            · refine wpOpIn_step rfl fun K hK => ?_
              go_simp
              exact hK _ _ ⟨_, _, rfl, rfl, rfl, HI.out⟩
            · refine wpOpIn_step rfl fun K hK => ?_
              go_simp
              exact hK _ _ ⟨_, _, rfl, rfl, rfl, HI.out⟩
            · have f17 := at_slot hz (hf 0 17 _ (by kernel_rfl) rfl) (by omega)
              have f18 := at_slot hz (hf 1 18 _ (by kernel_rfl) rfl) (by omega)
              refine wpOpIn_step rfl fun K hK => ?_
              go_simp
              exact hK _ _ ⟨_, _, rfl, rfl, rfl, HI.out⟩
            · have f19 := at_slot hz (hf 2 19 _ (by kernel_rfl) rfl) (by omega)
              refine wpOpIn_step rfl fun K hK => ?_
              go_simp
              exact hK _ _ ⟨_, _, rfl, rfl, rfl, HI.out⟩
            · refine wpOpIn_step rfl fun K hK => ?_
              go_simp
              exact hK _ _ ⟨_, _, rfl, rfl, rfl, HI.out⟩
            · refine wpOpIn_step rfl fun K hK => ?_
              go_simp
              exact hK _ _ ⟨_, _, rfl, rfl, rfl, HI.out⟩
            · have f21 := at_slot hz (hf 4 21 _ (by kernel_rfl) rfl) (by omega)
              have f22 := at_slot hz (hf 5 22 _ (by kernel_rfl) rfl) (by omega)
              refine wpOpIn_step rfl fun K hK => ?_
              go_simp
              exact hK _ _ ⟨_, _, rfl, rfl, rfl, HI.out⟩
            · have f23 := at_slot hz (hf 6 23 _ (by kernel_rfl) rfl) (by omega)
              refine wpOpIn_step rfl fun K hK => ?_
              go_simp
              exact hK _ _ ⟨_, _, rfl, rfl, rfl, HI.out⟩
            · have f20 := at_slot hz (hf 3 20 _ (by kernel_rfl) rfl) (by omega)
              have f24 := at_slot hz (hf 7 24 _ (by kernel_rfl) rfl) (by omega)
              refine wpOpIn_step rfl fun K hK => ?_
              go_simp
              exact hK _ _ ⟨_, _, rfl, rfl, rfl, HI.out⟩
          intro w5 hI
          simp only [List.foldl_cons, List.foldl_nil, List.setIfInBounds_toArray, List.set_cons_succ, List.set_cons_zero]
          have HI := Lib.hid hI
          clear hI
          gi_wp2
          go_ret
          exact ⟨false, rfl, ⟨fun h => (by cases h), fun h => absurd (congrArg (fun x : Nat => (x : Int)) (h.2 j hlt)) HE.out⟩, HBW.out.trans (HI.out.mono HBW.out.size)⟩
      · obtain rfl : j = m := by omega
        gi_wp2
        go_ret
        exact ⟨true, rfl, ⟨fun _ => ⟨by first | trivial | rfl, HEQ.out⟩, fun _ => rfl⟩, HBW.out⟩
  · gi_enter Tryz.func17, Tryz.ntmps17
    gi_wp2
    go_ret
    exact ⟨false, by simp [h], ⟨fun h => (by cases h), fun h' => absurd h'.1 h⟩, Below.refl _ _⟩
def GrownM (r : Rl) (M : Nat → Int) (k : Nat) : Prop := (0 ≤ M 0 ∧ M 0 ≤ 4999) ∧ ∀ d, d + 1 < k → M d + r.ls ≤ M (d + 1) ∧ M (d + 1) ≤ M d + r.ms
theorem GrownM.le {r : Rl} {M : Nat → Int} {k : Nat} (h : GrownM r M k) (hr : RlOk r) : ∀ d, d < k → 0 ≤ M d ∧ M d ≤ 4999 + 999 * d
  | 0, _ => by have := h.1; omega
  | d + 1, hd => by
    have h1 := h.le hr d (by omega)
    have h2 := h.2 d hd
    have := hr.l0
    have := hr.m1
    omega
theorem GrownM.next {r : Rl} {M : Nat → Int} {k : Nat} (h : GrownM r M k) (hk : 0 < k) {v : Int} (h1 : M (k - 1) + r.ls ≤ v) (h2 : v ≤ M (k - 1) + r.ms) : GrownM r (fun i => if i = k then v else M i) (k + 1) := by
  refine ⟨by simp only [show ¬ (0 = k) by omega, if_false]; exact h.1, fun d hd => ?_⟩
  by_cases e : d + 1 = k
  · have e2 : d = k - 1 := by omega
    subst e2
    simp only [e, show ¬ (k - 1 = k) by omega, if_true, if_false]
    exact ⟨h1, h2⟩
  · simp only [e, show ¬ (d = k) by omega, if_false]
    exact h.2 d (by omega)
theorem ut30 : Tryz.prog.underlying 36 = some (.slice 3) := u30
end Go.Proofs.YtlabfeofejemjaaGreat
end
section
namespace Go.Proofs.YtlabfeofejemjaaGreat
open Go.RowKit
end Go.Proofs.YtlabfeofejemjaaGreat
end
section
namespace Go.Proofs.YtlabfeofejemjaaGreat
open Go.RowKit
end Go.Proofs.YtlabfeofejemjaaGreat
end
section
namespace Go.Proofs.YtlabfeofejemjaaGreat
open Go.RowKit
theorem GrownM.far {r : Rl} {M : Nat → Int} (h : GrownM r M 91) (d : Nat) : ∀ k : Nat, d + k ≤ 90 → k * r.ls ≤ M (d + k) - M d ∧ M (d + k) - M d ≤ k * r.ms
  | 0, _ => by simp
  | k + 1, hk => by
    have h1 := h.far d k (by omega)
    have h2 := h.2 (d + k) (by omega)
    have e1 := mul_next k r.ls
    have e2 := mul_next k r.ms
    have e3 : (((k + 1 : Nat)) : Int) = (k : Int) + 1 := by omega
    rw [e3, e1, e2]
    have e4 : d + (k + 1) = d + k + 1 := by omega
    rw [e4]
    omega
structure Told (M : Nat → Int) (x : Sh) : Prop where
  ok : ShOk x
  w : x.wd = 0
  l : x.lt = 0
  u : x.u ≤ M x.d.toNat
  v : M x.d.toNat ≤ x.v
theorem Told.wide {M : Nat → Int} {x : Sh} (h : Told M x) (r : Rl) : wideU r x = x.u ∧ wideV r x = x.v := by
  simp [wideU, wideV, wideN, h.w, h.l]
theorem bst_is (r : Rl) (sh : Nat → Sh) : ∀ b, bst r sh b = [] ∨ ∃ b', b' < b ∧ bst r sh b = memb b' 8
  | 0 => .inl (by simp [bst])
  | b + 1 => by
    rw [bst]
    split
    · exact .inr ⟨b, by omega, rfl⟩
    · rcases bst_is r sh b with h | ⟨b', h1, h2⟩
      · exact .inl h
      · exact .inr ⟨b', by omega, h2⟩
end Go.Proofs.YtlabfeofejemjaaGreat
end
section
namespace Go.Proofs.YtlabfeofejemjaaGreat
open Go.RowKit Go.Cx Go.Conc
end Go.Proofs.YtlabfeofejemjaaGreat
end
section
namespace Go.Proofs.YtlabfeofejemjaaGreat
open Go.RowKit Go.Cx Go.Conc
def Box46 (w : World) (g : Nat) (x : Sh) (b : Bool) : Prop := ∃ cs : Array Value, w.heap[g]? = some (.cells cs 46 (0, 0)) ∧ cs.size = 5 ∧ (b = true → cs = #[.int .i64 x.d, .int .i64 x.u, .int .i64 x.v, .int .i64 x.wd, .int .i64 x.lt])
theorem Box46.below {w w' : World} {g : Nat} {x : Sh} {b : Bool} (h : Box46 w g x b) (hb : Below w.heap.size w w') : Box46 w' g x b := by
  obtain ⟨cs, h1, h2⟩ := h
  exact ⟨cs, (hb.block g (Array.getElem?_eq_some_iff.1 h1).1).trans h1, h2⟩
theorem kept_grown {w w1 w2 : World} {bc : Nat} {row : Option Nat} (h : w.grownBy w1 (some bc)) (hg : w1.grownBy w2 row) (hr : ∀ g, row = some g → w.heap.size ≤ g) : w.grownBy w2 (some bc) :=
  ⟨hg.os.trans h.os, hg.tape.trans h.tape, hg.output.trans h.output, Nat.le_trans h.size hg.size, fun k hk hne => (hg.block k (Nat.lt_of_lt_of_le hk h.size) (fun e => by have := hr k e.symm; omega)).trans (h.block k hk hne)⟩
theorem kept_below {w w1 w2 : World} {bc : Nat} (h : w.grownBy w1 (some bc)) (hb : Below w1.heap.size w1 w2) : w.grownBy w2 (some bc) := kept_grown h (below_grown hb) (fun g e => by cases e)
end Go.Proofs.YtlabfeofejemjaaGreat
end
section
namespace Go.Proofs.YtlabfeofejemjaaGreat
open Go.RowKit
end Go.Proofs.YtlabfeofejemjaaGreat
end
section
namespace Go.Proofs.YtlabfeofejemjaaGreat
open Go.RowKit
theorem LexLt.trans {a b c : Nat → Nat} {m : Nat} (h1 : LexLt a b m) (h2 : LexLt b c m) : LexLt a c m := by
  obtain ⟨i, hi, e1, l1⟩ := h1
  obtain ⟨j, hj, e2, l2⟩ := h2
  rcases Nat.lt_trichotomy i j with h | h | h
  · exact ⟨i, hi, fun k hk => (e1 k hk).trans (e2 k (by omega)), by rw [← e2 i h]; exact l1⟩
  · subst h
    exact ⟨i, hi, fun k hk => (e1 k hk).trans (e2 k hk), by omega⟩
  · exact ⟨j, hj, fun k hk => (e1 k (by omega)).trans (e2 k hk), by rw [e1 j h]; exact l2⟩
theorem LexLt.irrefl {a : Nat → Nat} {m : Nat} (h : LexLt a a m) : False := by
  obtain ⟨i, _, _, l⟩ := h
  omega
theorem Better.trans {a b c : Nat → Nat} {m k n : Nat} (h1 : Better a m b k) (h2 : Better b k c n) : Better a m c n := by
  rcases h1 with h1 | ⟨e1, h1⟩ <;> rcases h2 with h2 | ⟨e2, h2⟩
  · exact .inl (by omega)
  · exact .inl (by omega)
  · exact .inl (by omega)
  · subst e1 e2
    exact .inr ⟨rfl, h1.trans h2⟩
theorem Better.irrefl {a : Nat → Nat} {m : Nat} (h : Better a m a m) : False := by
  rcases h with h | ⟨_, h⟩
  · omega
  · exact h.irrefl
theorem trust_best (r : Rl) (sh : Nat → Sh) : ∀ B b, b < B → AllAgree r (sel sh (mF b)) (mN b) → ¬ Better (mF b) (mN b) (bF r sh B) (bN r sh B)
  | 0, b, h, _ => by omega
  | B + 1, b, h, hag => by
    by_cases hc : AllAgree r (sel sh (mF B)) (mN B) ∧ Better (mF B) (mN B) (bF r sh B) (bN r sh B)
    · obtain ⟨g1, g2⟩ := bst_next hc.1 hc.2
      rw [g1, g2]
      intro hb
      by_cases e : b = B
      · subst e; exact hb.irrefl
      · exact trust_best r sh B b (by omega) hag (hb.trans hc.2)
    · obtain ⟨g1, g2⟩ := bst_stay hc
      rw [g1, g2]
      intro hb
      by_cases e : b = B
      · subst e; exact hc ⟨hag, hb⟩
      · exact trust_best r sh B b (by omega) hag hb
theorem trust_bits (r : Rl) (sh : Nat → Sh) (B : Nat) (hB : 0 < B) : ∃ b, b < B ∧ bN r sh B = mN b ∧ bF r sh B = mF b := by
  rcases bst_is r sh B with h | ⟨b, h1, h2⟩
  · refine ⟨0, hB, ?_, ?_⟩
    · have : memb 0 8 = [] := by decide +kernel
      rw [bN, h, mN, this]
    · have : memb 0 8 = [] := by decide +kernel
      funext k
      rw [bF, h, mF, this]
  · exact ⟨b, h1, by rw [bN, h2, mN], by funext k; rw [bF, h2, mF]⟩
theorem trust_agree (r : Rl) (sh : Nat → Sh) : ∀ B, AllAgree r (sel sh (bF r sh B)) (bN r sh B)
  | 0 => fun i j _ hj => by simp [bN, bst] at hj
  | B + 1 => by
    by_cases hc : AllAgree r (sel sh (mF B)) (mN B) ∧ Better (mF B) (mN B) (bF r sh B) (bN r sh B)
    · obtain ⟨g1, g2⟩ := bst_next hc.1 hc.2
      rw [g1, g2]
      exact hc.1
    · obtain ⟨g1, g2⟩ := bst_stay hc
      rw [g1, g2]
      exact trust_agree r sh B
theorem memb_mod : ∀ n : Fin 9, ∀ b : Fin 256, memb (b.val % 2 ^ n.val) 8 = memb b.val n.val := by decide +kernel
theorem trust_other {r : Rl} {sh : Nat → Sh} {n b : Nat} (hn : n ≤ 8) (hb : b < 256) (h : AllAgree r (sel sh fun k => (memb b n).getD k 0) (memb b n).length) : ¬ Better (fun k => (memb b n).getD k 0) (memb b n).length (bF r sh (2 ^ n)) (bN r sh (2 ^ n)) := by
  have e := memb_mod ⟨n, by omega⟩ ⟨b, hb⟩
  simp only at e
  have := trust_best r sh (2 ^ n) (b % 2 ^ n) (Nat.mod_lt _ (Nat.two_pow_pos n))
  unfold mN mF at this
  rw [e] at this
  exact this h
end Go.Proofs.YtlabfeofejemjaaGreat
end
section
namespace Go.Proofs.YtlabfeofejemjaaGreat
open Go.RowKit
def chs : List Nat → List (List Nat)
  | [] => [[]]
  | a :: t => [] :: ((chs t).map (fun x => a :: x) ++ (chs t).tail)
theorem chs_nil (l : List Nat) : chs l = [] :: (chs l).tail := by cases l <;> rfl
theorem mem_chs : ∀ {l x : List Nat}, x ∈ chs l ↔ x.Sublist l
  | [], x => by simp [chs]
  | a :: t, x => by
    constructor
    · intro hx
      rw [chs] at hx
      rcases List.mem_cons.1 hx with rfl | hx
      · exact List.nil_sublist _
      · rcases List.mem_append.1 hx with hx | hx
        · obtain ⟨y, hy, rfl⟩ := List.mem_map.1 hx
          exact (mem_chs.1 hy).cons_cons a
        · exact (mem_chs.1 (List.mem_of_mem_tail hx)).cons a
    · intro hx
      rw [chs]
      cases hx with
      | cons _ hx =>
        have h := mem_chs.2 hx
        rw [chs_nil t] at h
        rcases List.mem_cons.1 h with rfl | h2
        · exact List.mem_cons_self
        · exact List.mem_cons_of_mem _ (List.mem_append_right _ h2)
      | cons_cons _ hx => exact List.mem_cons_of_mem _ (List.mem_append_left _ (List.mem_map.2 ⟨_, mem_chs.2 hx, rfl⟩))
def Lx : List Nat → List Nat → Prop
  | _, [] => False
  | [], _ :: _ => True
  | a :: x, b :: y => a < b ∨ (a = b ∧ Lx x y)
theorem Lx.asymm : ∀ {x y : List Nat}, Lx x y → Lx y x → False
  | [], [], h, _ => h
  | [], _ :: _, _, h => h
  | _ :: _, [], h, _ => h
  | a :: x, b :: y, h, g => by
    rcases h with h | ⟨rfl, h⟩
    · rcases g with g | ⟨g, _⟩ <;> omega
    · rcases g with g | ⟨_, g⟩
      · omega
      · exact h.asymm g
theorem Lx.total : ∀ (x y : List Nat), Lx x y ∨ x = y ∨ Lx y x
  | [], [] => .inr (.inl rfl)
  | [], _ :: _ => .inl trivial
  | _ :: _, [] => .inr (.inr trivial)
  | a :: x, b :: y => by
    rcases Nat.lt_trichotomy a b with h | rfl | h
    · exact .inl (.inl h)
    · rcases Lx.total x y with h | rfl | h
      · exact .inl (.inr ⟨rfl, h⟩)
      · exact .inr (.inl rfl)
      · exact .inr (.inr (.inr ⟨rfl, h⟩))
    · exact .inr (.inr (.inl h))
theorem Lx.lexLt : ∀ {x y : List Nat}, Lx x y → x.length = y.length → LexLt (fun k => x.getD k 0) (fun k => y.getD k 0) x.length
  | [], [], h, _ => h.elim
  | [], _ :: _, _, e => by cases e
  | _ :: _, [], h, _ => h.elim
  | a :: x, b :: y, h, e => by
    rcases h with h | ⟨rfl, h⟩
    · exact ⟨0, by simp, fun j hj => by omega, by simpa using h⟩
    · obtain ⟨i, h1, h2, h3⟩ := h.lexLt (by simpa using e)
      refine ⟨i + 1, by simpa using h1, fun j hj => ?_, by simpa using h3⟩
      cases j with
      | zero => simp
      | succ j => simpa using h2 j (by omega)
theorem chs_sorted : ∀ {l : List Nat}, l.Pairwise (· < ·) → (chs l).Pairwise Lx
  | [], _ => by simp [chs]
  | a :: t, h => by
    have h1 := chs_sorted (List.pairwise_cons.1 h).2
    have h2 := (List.pairwise_cons.1 h).1
    have h3 := h1
    rw [chs_nil t] at h3
    obtain ⟨h4, h5⟩ := List.pairwise_cons.1 h3
    rw [chs]
    refine List.pairwise_cons.2 ⟨fun y hy => ?_, List.pairwise_append.2 ⟨?_, h5, fun x hx y hy => ?_⟩⟩
    · rcases List.mem_append.1 hy with hy | hy
      · obtain ⟨z, _, rfl⟩ := List.mem_map.1 hy
        exact trivial
      · exact h4 y hy
    · exact List.pairwise_map.2 (h1.imp fun h => .inr ⟨rfl, h⟩)
    · obtain ⟨z, _, rfl⟩ := List.mem_map.1 hx
      have g1 := h4 y hy
      have g2 := mem_chs.1 (List.mem_of_mem_tail hy)
      cases y with
      | nil => exact g1.elim
      | cons b y => exact .inl (h2 b (g2.subset List.mem_cons_self))
theorem chs_before {l : List Nat} (h : l.Pairwise (· < ·)) {i j : Nat} (hij : i < j) (hj : j < (chs l).length) : Lx ((chs l).getD i []) ((chs l).getD j []) := by
  have := List.pairwise_iff_getElem.1 (chs_sorted h) i j (by omega) hj hij
  simpa [List.getD_eq_getElem?_getD, show i < (chs l).length by omega, hj] using this
theorem chs_at {l x : List Nat} (h : x.Sublist l) : ∃ i, i < (chs l).length ∧ (chs l).getD i [] = x := by
  obtain ⟨i, hi, e⟩ := List.getElem_of_mem (mem_chs.2 h)
  exact ⟨i, hi, by simpa [List.getD_eq_getElem?_getD, hi] using e⟩
theorem chs_sub {l : List Nat} {i : Nat} (hi : i < (chs l).length) : ((chs l).getD i []).Sublist l := by
  refine mem_chs.1 ?_
  have : (chs l).getD i [] = (chs l)[i] := by simp [List.getD_eq_getElem?_getD, hi]
  rw [this]
  exact List.getElem_mem _
section
open Classical
noncomputable def lng (P : List Nat → Prop) (L : List (List Nat)) : Nat → List Nat
  | 0 => []
  | i + 1 => if (lng P L i).length < (L.getD i []).length ∧ P (L.getD i []) then L.getD i [] else lng P L i
theorem lng_is (P : List Nat → Prop) (L : List (List Nat)) (hL : ∀ i j, i < j → j < L.length → Lx (L.getD i []) (L.getD j [])) : ∀ i, i ≤ L.length →
    (lng P L i = [] ∨ (P (lng P L i) ∧ ∃ j, j < i ∧ lng P L i = L.getD j [])) ∧ ∀ j, j < i → P (L.getD j []) → (L.getD j []).length ≤ (lng P L i).length ∧ ((L.getD j []).length = (lng P L i).length → ¬ Lx (L.getD j []) (lng P L i))
  | 0, _ => ⟨.inl rfl, fun j hj => by omega⟩
  | i + 1, hi => by
    obtain ⟨h1, h2⟩ := lng_is P L hL i (by omega)
    rw [lng]
    split
    · rename_i hc
      refine ⟨.inr ⟨hc.2, i, by omega, rfl⟩, fun j hj hp => ?_⟩
      by_cases e : j = i
      · subst e
        exact ⟨Nat.le_refl _, fun _ h => h.asymm h⟩
      · have := h2 j (by omega) hp
        exact ⟨by omega, fun _ => by omega⟩
    · rename_i hc
      refine ⟨h1.imp id fun ⟨g1, j, g2, g3⟩ => ⟨g1, j, by omega, g3⟩, fun j hj hp => ?_⟩
      by_cases e : j = i
      · subst e
        have hlen : (L.getD j []).length ≤ (lng P L j).length := by
          rcases Nat.lt_or_ge (lng P L j).length (L.getD j []).length with h | h
          · exact absurd ⟨h, hp⟩ hc
          · exact h
        refine ⟨hlen, fun e hx => ?_⟩
        rcases h1 with g | ⟨_, k, g1, g2⟩
        · rw [g] at hx
          cases hq : L.getD j [] <;> rw [hq] at hx <;> exact hx.elim
        · rw [g2] at hx
          exact (hL k j g1 (by omega)).asymm hx
      · exact h2 j (by omega) hp
noncomputable def sht (P : List Nat → Prop) (L : List (List Nat)) : Nat → Bool × List Nat
  | 0 => (false, [])
  | i + 1 => if ((sht P L i).1 = false ∨ (L.getD i []).length < (sht P L i).2.length) ∧ ¬ P (L.getD i []) then (true, L.getD i []) else sht P L i
theorem sht_is (P : List Nat → Prop) (L : List (List Nat)) (hL : ∀ i j, i < j → j < L.length → Lx (L.getD i []) (L.getD j [])) : ∀ i, i ≤ L.length →
    ((sht P L i).1 = false → (sht P L i).2 = [] ∧ ∀ j, j < i → P (L.getD j [])) ∧ ((sht P L i).1 = true → ¬ P (sht P L i).2 ∧ (∃ j, j < i ∧ (sht P L i).2 = L.getD j []) ∧ ∀ j, j < i → ¬ P (L.getD j []) → (sht P L i).2.length ≤ (L.getD j []).length ∧ ((sht P L i).2.length = (L.getD j []).length → ¬ Lx (L.getD j []) (sht P L i).2))
  | 0, _ => ⟨fun _ => ⟨rfl, fun j hj => by omega⟩, fun h => by simp [sht] at h⟩
  | i + 1, hi => by
    obtain ⟨h1, h2⟩ := sht_is P L hL i (by omega)
    rw [sht]
    split
    · rename_i hc
      refine ⟨fun h => by simp at h, fun _ => ⟨hc.2, ⟨i, by omega, rfl⟩, fun j hj hp => ?_⟩⟩
      by_cases e : j = i
      · subst e
        exact ⟨Nat.le_refl _, fun _ h => h.asymm h⟩
      · rcases hc.1 with g | g
        · exact absurd ((h1 g).2 j (by omega)) hp
        · cases hf : (sht P L i).1 with
          | false => exact absurd ((h1 hf).2 j (by omega)) hp
          | true =>
            have := ((h2 hf).2.2 j (by omega) hp).1
            exact ⟨by simp only; omega, fun e => by simp only at e; omega⟩
    · rename_i hc
      refine ⟨fun h => ⟨(h1 h).1, fun j hj => ?_⟩, fun h => ⟨(h2 h).1, ?_, fun j hj hp => ?_⟩⟩
      · by_cases e : j = i
        · subst e
          exact Classical.byContradiction fun hp => hc ⟨.inl h, hp⟩
        · exact (h1 h).2 j (by omega)
      · obtain ⟨j, g1, g2⟩ := (h2 h).2.1
        exact ⟨j, by omega, g2⟩
      · by_cases e : j = i
        · subst e
          have hlen : (sht P L j).2.length ≤ (L.getD j []).length := by
            rcases Nat.lt_or_ge (L.getD j []).length (sht P L j).2.length with g | g
            · exact absurd ⟨.inr g, hp⟩ hc
            · exact g
          refine ⟨hlen, fun e hx => ?_⟩
          obtain ⟨k, g1, g2⟩ := (h2 h).2.1
          rw [g2] at hx
          exact (hL k j g1 (by omega)).asymm hx
        · exact (h2 h).2.2 j (by omega) hp
end
def AgL (r : Rl) (sh : Nat → Sh) (x : List Nat) : Prop := AllAgree r (sel sh fun k => x.getD k 0) x.length
def maskL (x : List Nat) : Nat := x.foldl (fun b i => b + 2 ^ i) 0
theorem memb_mask : ∀ n : Fin 9, ∀ x ∈ chs (List.range n.val), maskL x < 256 ∧ memb (maskL x) n.val = x := by decide +kernel
theorem trust_lng {r : Rl} {sh : Nat → Sh} {n : Nat} (hn : n ≤ 8) : (lng (AgL r sh) (chs (List.range n)) (chs (List.range n)).length).length = bN r sh (2 ^ n) ∧ ∀ k, (lng (AgL r sh) (chs (List.range n)) (chs (List.range n)).length).getD k 0 = bF r sh (2 ^ n) k := by
  obtain ⟨h1, h2⟩ := lng_is (AgL r sh) (chs (List.range n)) (fun i j => chs_before List.pairwise_lt_range) _ (Nat.le_refl _)
  generalize hT : lng (AgL r sh) (chs (List.range n)) (chs (List.range n)).length = T at *
  obtain ⟨b, hb, e1, e2⟩ := trust_bits r sh (2 ^ n) (Nat.two_pow_pos n)
  have h256 := pow_le hn
  have em : memb b 8 = memb b n := by
    have := memb_mod ⟨n, by omega⟩ ⟨b, by omega⟩
    simpa [Nat.mod_eq_of_lt hb] using this
  have hB : (memb b 8).Sublist (List.range n) := by rw [em]; exact List.filter_sublist
  have aB : AgL r sh (memb b 8) := by
    have := trust_agree r sh (2 ^ n)
    rw [e1, e2] at this
    exact this
  have aT : AgL r sh T ∧ T.Sublist (List.range n) := by
    rcases h1 with rfl | ⟨g1, j, g2, g3⟩
    · exact ⟨fun i j _ hj => by simp at hj, List.nil_sublist _⟩
    · exact ⟨g1, by rw [g3]; exact chs_sub g2⟩
  obtain ⟨i, hi, ei⟩ := chs_at hB
  obtain ⟨g1, g2⟩ := h2 i hi (by rw [ei]; exact aB)
  rw [ei] at g1 g2
  obtain ⟨m1, m2⟩ := memb_mask ⟨n, by omega⟩ T (mem_chs.2 aT.2)
  simp only at m2
  have ht := trust_other (r := r) (sh := sh) (n := n) (b := maskL T) hn m1 (by rw [m2]; exact aT.1)
  rw [m2, e1, e2] at ht
  unfold mN mF at ht
  have hl : (memb b 8).length = T.length := by
    rcases Nat.lt_or_ge (memb b 8).length T.length with h | h
    · exact absurd (.inl h) ht
    · omega
  rcases Lx.total T (memb b 8) with h | rfl | h
  · exact absurd (.inr ⟨hl.symm, h.lexLt hl.symm⟩) ht
  · exact ⟨by rw [e1, mN], fun k => by rw [e2, mF]⟩
  · exact absurd h (g2 hl)
theorem sub_lt {n : Nat} {x : List Nat} (h : x.Sublist (List.range n)) {i j : Nat} (hij : i < j) (hj : j < x.length) : x.getD i 0 < x.getD j 0 ∧ x.getD j 0 < n := by
  have h1 := List.pairwise_iff_getElem.1 (List.pairwise_lt_range.sublist h) i j (by omega) hj hij
  have h2 := List.mem_range.1 (h.subset (List.getElem_mem hj))
  simpa [List.getD_eq_getElem?_getD, show i < x.length by omega, hj] using ⟨h1, h2⟩
theorem clash_sht_none {r : Rl} {sh : Nat → Sh} {n : Nat} (h : AllAgree r sh n) : (sht (AgL r sh) (chs (List.range n)) (chs (List.range n)).length).2 = [] := by
  obtain ⟨h1, h2⟩ := sht_is (AgL r sh) (chs (List.range n)) (fun i j => chs_before List.pairwise_lt_range) _ (Nat.le_refl _)
  cases hf : (sht (AgL r sh) (chs (List.range n)) (chs (List.range n)).length).1 with
  | false => exact (h1 hf).1
  | true =>
    obtain ⟨g1, ⟨j, g2, g3⟩, _⟩ := h2 hf
    refine absurd (fun a b hab hb => ?_) g1
    have := sub_lt (by rw [g3]; exact chs_sub g2) hab hb
    exact h _ _ this.1 this.2
theorem clash_sht {r : Rl} {sh : Nat → Sh} {n i j : Nat} (h : FirstClash r sh n i j) : (sht (AgL r sh) (chs (List.range n)) (chs (List.range n)).length).2 = [i, j] := by
  obtain ⟨h1, h2⟩ := sht_is (AgL r sh) (chs (List.range n)) (fun i j => chs_before List.pairwise_lt_range) _ (Nat.le_refl _)
  have hsub : [i, j].Sublist (List.range n) := by
    have hlt := h.lt
    have hlt' := h.lt'
    have : [i, j] = (List.range n).filter fun k => decide (k = i ∨ k = j) := by
      refine List.Perm.eq_of_pairwise (le := (· < ·)) (fun a b _ _ h1 h2 => by omega) ?_ ((List.pairwise_lt_range).filter _) ?_
      · simpa using hlt
      · refine (List.perm_ext_iff_of_nodup (by simp; omega) (List.nodup_range.filter _)).2 fun a => ?_
        simp [List.mem_filter]
        omega
    rw [this]
    exact List.filter_sublist
  obtain ⟨k, hk, ek⟩ := chs_at hsub
  have hno : ¬ AgL r sh [i, j] := fun hag => by
    have : agreeB r (sh i) (sh j) = true := hag 0 1 (by omega) (by simp)
    rw [h.no] at this
    cases this
  cases hf : (sht (AgL r sh) (chs (List.range n)) (chs (List.range n)).length).1 with
  | false => exact absurd (by rw [← ek]; exact (h1 hf).2 k hk) hno
  | true =>
    obtain ⟨g1, ⟨p, g2, g3⟩, g4⟩ := h2 hf
    have g5 := g4 k hk (by rw [ek]; exact hno)
    rw [ek] at g5
    have hs := chs_sub g2
    rw [← g3] at hs
    generalize (sht (AgL r sh) (chs (List.range n)) (chs (List.range n)).length).2 = x at *
    obtain ⟨g6, g7⟩ := g5
    match x, g1, g6, g7, hs with
    | [], g1, _, _, _ => exact absurd (fun a b _ hb => by simp at hb) g1
    | [a], g1, _, _, _ => exact absurd (fun a b hab hb => by simp at hb; omega) g1
    | [a, b], g1, _, g7, hs =>
      have hab := sub_lt hs (i := 0) (j := 1) (by omega) (by simp)
      simp at hab
      have hno2 : agreeB r (sh a) (sh b) = false := by
        cases hq : agreeB r (sh a) (sh b) with
        | false => rfl
        | true =>
          refine absurd (fun p q hpq hq' => ?_) g1
          simp at hq'
          obtain rfl : q = 1 := by omega
          obtain rfl : p = 0 := by omega
          exact hq
      have hx := g7 rfl
      rcases Nat.lt_trichotomy a i with h3 | rfl | h3
      · rw [h.rows a b h3 hab.1 hab.2] at hno2; cases hno2
      · rcases Nat.lt_trichotomy b j with h4 | rfl | h4
        · rw [h.row b hab.1 h4] at hno2; cases hno2
        · rfl
        · exact absurd (.inr ⟨rfl, .inl h4⟩) hx
      · exact absurd (.inl h3) hx
    | a :: b :: c :: y, _, g6, _, _ => simp at g6
end Go.Proofs.YtlabfeofejemjaaGreat
end
section
namespace Go.Proofs.YtlabfeofejemjaaGreat
open Go.RowKit
def pre (l : List Nat) : Nat → List (List Nat)
  | 0 => [[]]
  | i + 1 => pre l i ++ (chs (l.drop (i + 1))).map (fun x => l.getD i 0 :: x)
theorem pre_chs (l : List Nat) : ∀ i, i ≤ l.length → chs l = pre l i ++ (chs (l.drop i)).tail
  | 0, _ => by rw [List.drop_zero, pre]; exact chs_nil l
  | i + 1, hi => by
    rw [pre_chs l i (by omega), pre, List.append_assoc]
    congr 1
    rw [List.drop_eq_getElem_cons (by omega : i < l.length), chs]
    simp [List.getD_eq_getElem?_getD, show i < l.length by omega]
theorem pre_all (l : List Nat) : pre l l.length = chs l := by
  have := pre_chs l l.length (Nat.le_refl _)
  rw [this]
  simp [chs]
theorem chs_len : ∀ l : List Nat, (chs l).length = 2 ^ l.length
  | [] => rfl
  | a :: t => by
    have h := chs_len t
    have hp := Nat.two_pow_pos t.length
    rw [chs, List.length_cons, List.length_append, List.length_map, List.length_tail, h, List.length_cons, Nat.pow_succ]
    omega
theorem pre_len {l : List Nat} {i : Nat} (hi : i ≤ l.length) : (pre l i).length ≤ 2 ^ l.length := by
  rw [← chs_len, pre_chs l i hi, List.length_append]
  omega
def preK (l : List Nat) (i k : Nat) : List (List Nat) := pre l i ++ ((chs (l.drop (i + 1))).take k).map (fun x => l.getD i 0 :: x)
theorem preK_zero (l : List Nat) (i : Nat) : preK l i 0 = pre l i := by simp [preK]
theorem preK_next {l : List Nat} {i k : Nat} (hk : k < (chs (l.drop (i + 1))).length) : preK l i (k + 1) = preK l i k ++ [l.getD i 0 :: (chs (l.drop (i + 1))).getD k []] := by
  unfold preK
  rw [List.take_succ_eq_append_getElem hk, List.map_append, ← List.append_assoc]
  congr 1
  simp [List.getD_eq_getElem?_getD, hk]
theorem preK_all (l : List Nat) (i : Nat) : preK l i (chs (l.drop (i + 1))).length = pre l (i + 1) := by simp [preK, pre]
def ListAt (w : World) (base : Nat) (v : Value) (x : List Nat) : Prop := w.ownsRow base 3 1 v x.length (x.map intV)
def ListsAt (w : World) (base : Nat) (v : Value) (L : List (List Nat)) : Prop := ∃ vs : List Value, w.ownsRow base 36 1 v L.length vs ∧ ∀ k, k < L.length → ListAt w base (vs.getD k undef) (L.getD k [])
theorem ListAt.grown {w w' : World} {base : Nat} {v : Value} {x : List Nat} {row : Option Nat} (h : ListAt w base v x) (hg : w.grownBy w' row) (hr : ∀ g, row = some g → ∃ c t fz, w.heap[g]? = some (.cells c t fz) ∧ t = 36) : ListAt w' base v x := by
  refine World.ownsRow.kept h hg ?_
  cases hv : v.ownBlock with
  | none => exact .inl rfl
  | some g =>
    refine .inr fun e => ?_
    obtain ⟨c, t, fz, h1, h2⟩ := own_elem h g hv
    obtain ⟨c', t', fz', h3, h4⟩ := hr g e.symm
    rw [h1] at h3
    cases h3
    rw [h2] at h4
    exact absurd h4 (by decide)
theorem ListAt.below {w w' : World} {base : Nat} {v : Value} {x : List Nat} (h : ListAt w base v x) (hb : Below w.heap.size w w') : ListAt w' base v x := own_below h hb
theorem ListsAt.below {w w' : World} {base : Nat} {v : Value} {L : List (List Nat)} (h : ListsAt w base v L) (hb : Below w.heap.size w w') : ListsAt w' base v L := by
  obtain ⟨vs, h1, h2⟩ := h
  exact ⟨vs, own_below h1 hb, fun k hk => (h2 k hk).below hb⟩
theorem ListAt.mono {w : World} {base base' : Nat} {v : Value} {x : List Nat} (h : ListAt w base v x) (hb : base' ≤ base) : ListAt w base' v x := by
  obtain ⟨h1, h2 | ⟨g, cap, cur, rfl, q1, q2⟩⟩ := h
  · exact ⟨h1, .inl h2⟩
  · exact ⟨h1, .inr ⟨g, cap, cur, rfl, Nat.le_trans hb q1, q2⟩⟩
theorem ListAt.nil (w : World) (base : Nat) : ListAt w base (.slice none 0 0) [] := World.ownsRow_nil _ _ _ _
theorem ListAt.shape {w : World} {base : Nat} {v : Value} {x : List Nat} (h : ListAt w base v x) : ∃ LA lc, v = .slice LA x.length lc ∧ x.length ≤ lc ∧ IntsAt w LA x.length (fun k => ((x.getD k 0 : Nat) : Int)) := ints_own h
theorem ListsAt.more {w' : World} {base : Nat} {v' u : Value} {L : List (List Nat)} {x : List Nat} {vs : List Value} (h1 : w'.ownsRow base 36 1 v' (L.length + 1) (vs ++ [u])) (hvs : vs.length = L.length) (h2 : ∀ k, k < L.length → ListAt w' base (vs.getD k undef) (L.getD k [])) (h3 : ListAt w' base u x) : ListsAt w' base v' (L ++ [x]) := by
  refine ⟨vs ++ [u], by rw [List.length_append]; exact h1, fun k hk => ?_⟩
  rw [List.length_append, List.length_singleton] at hk
  by_cases e : k = L.length
  · subst e
    have a1 : (vs ++ [u]).getD L.length undef = u := by rw [← hvs]; simp [List.getD_eq_getElem?_getD]
    have a2 : (L ++ [x]).getD L.length [] = x := by simp [List.getD_eq_getElem?_getD]
    rw [a1, a2]
    exact h3
  · have hk' : k < L.length := by omega
    have a1 : (vs ++ [u]).getD k undef = vs.getD k undef := by simp [List.getD_eq_getElem?_getD, List.getElem?_append_left, hvs, hk']
    have a2 : (L ++ [x]).getD k [] = L.getD k [] := by simp [List.getD_eq_getElem?_getD, List.getElem?_append_left, hk']
    rw [a1, a2]
    exact h2 k hk'
section
variable {F : Fence} {nF : Nat} {P : Program} {ops : Array Oper} {Q : Exit → Act → World → Prop}
theorem wpOpIn_appendRow {j : Nat} {o : Oper} {K : Act → World → Prop} {a : Act} {w : World} (ho : ops[j]? = some o) (hg : o.guard = none) (s x : Operand) (t : TypeId) (hop : o.op = Op.call { callee := Callee.builtin Builtin.append, args := #[s, x], argTypes := #[t, t] })
    (base : Nat) (e : TypeId) (i : TypeInfo) (z : Value) (size bytes : Nat) (h1 : P.underlying t = some (.slice e)) (h2 : P.info? e = some i) (h3 : i.zero = some z) (h4 : i.size = size) (h5 : i.bytes = bytes) (h6 : z.cells.size = size) (h7 : 0 < size)
    (v : Value) (k : Nat) (xs : List Value) (hs : a.eval s = v) (hown : w.ownsRow base e size v k xs) (u : Value) (base2 m : Nat) (news : List Value) (hx : a.eval x = u) (hrow : w.ownsRow base2 e size u m news)
    (h1c : ∀ u ∈ news, u.oneCell' = true) (b1 : k + m ≤ maxLen) (b2 : (k + m) * bytes ≤ 140737488355328) (b3 : base ≤ w.heap.size)
    (hK : ∀ v' w', w'.ownsRow base e size v' (k + m) (xs ++ news) → w.grownBy w' v.ownBlock → (v'.ownBlock = v.ownBlock ∨ v'.ownBlock = some w.heap.size) → K (a.put o.dst v') w') : wpOpIn F nF P ops Q j K a w := by
  refine wpOpIn_step ho fun K' hK' => ?_
  rw [if_pos (by simp [Region.wanted, hg])]
  obtain ⟨v', w', hrun, r1, r2, r4⟩ : ∃ v' w', (Builtin.append_ #[t, t] o.type #[v, u]).run P w = .ok v' w' ∧ w'.ownsRow base e size v' (k + m) (xs ++ news) ∧ w.grownBy w' v.ownBlock ∧ (v'.ownBlock = v.ownBlock ∨ v'.ownBlock = some w.heap.size) := by
    rcases hrow.2 with ⟨rfl, rfl⟩ | ⟨g, cap, cur, rfl, _, _, _⟩
    · have hn : news = [] := List.eq_nil_of_length_eq_zero (by simpa using hrow.1)
      subst hn
      exact ⟨v, w, run_append_owned_none w base t o.type e i size h1 h2 v k xs hown, by simpa using hown, ⟨rfl, rfl, rfl, Nat.le_refl _, fun _ _ _ => rfl⟩, .inl rfl⟩
    · obtain ⟨v', w', q1, q2, q3, _, q5⟩ := run_append_own_at (P := P) w base t o.type e i z size bytes h1 h2 h3 h4 h5 h6 h7 v k xs hown ⟨g, 0, none⟩ m cap news hrow.1 (fun j u hj => by
        have hlt : j < news.length := (List.getElem?_eq_some_iff.1 hj).1
        rw [addr_add, Nat.zero_add, hrow.cellAt j (by rw [← hrow.1]; exact hlt), hj]) h1c b1 b2 b3
      exact ⟨v', w', q1, q2, q3, q5⟩
  unfold Oper.wpIn
  refine ⟨?_, ?_⟩
  · simp [Oper.about, hop, resolve, Target.leads, Sem.run_pure]
  · rw [Oper.semAt_plain F _ _ (by rw [hop]; intro c hc'; cases hc')]
    simp [execOp, hop, resolve, invoke, builtin, hs, hx, hrun, Result.andThen]
    exact hK' _ _ (hK v' w' r1 r2 r4)
end
end Go.Proofs.YtlabfeofejemjaaGreat
end
section
namespace Go.Proofs.YtlabfeofejemjaaGreat
open Go.RowKit
theorem box_one {W w : World} {r : Rl} {A : Option Addr} {n c : Nat} {t : TypeId} (h : Below (W.alloc (.cells #[.int .i64 r.ls, .int .i64 r.ms, .int .i64 r.wd, .int .i64 r.lt, .slice A n c] t)).heap.size (W.alloc (.cells #[.int .i64 r.ls, .int .i64 r.ms, .int .i64 r.wd, .int .i64 r.lt, .slice A n c] t)) w) :
    w.cell? ⟨W.heap.size, 0, none⟩ = some (.int .i64 r.ls) ∧ w.cell? ⟨W.heap.size, 1, none⟩ = some (.int .i64 r.ms) ∧ w.cell? ⟨W.heap.size, 2, none⟩ = some (.int .i64 r.wd) ∧ w.cell? ⟨W.heap.size, 3, none⟩ = some (.int .i64 r.lt) ∧ w.cell? ⟨W.heap.size, 4, none⟩ = some (.slice A n c) := by
  have h1 : (W.alloc (.cells #[.int .i64 r.ls, .int .i64 r.ms, .int .i64 r.wd, .int .i64 r.lt, .slice A n c] t)).heap[W.heap.size]? = some (.cells #[.int .i64 r.ls, .int .i64 r.ms, .int .i64 r.wd, .int .i64 r.lt, .slice A n c] t (0, 0)) := heap_top _ _ rfl
  exact five90 ((h.block W.heap.size (by simp)).trans h1)
theorem below_one (W : World) (X : Obj) : Below W.heap.size W (W.alloc X) := (Below.refl _ _).alloc (Nat.le_refl _) _
section
variable (r : Rl) (A : Option Addr) (n c : Nat) (sh : Nat → Sh) (W : World) (hn : n ≤ 20) (hc : n ≤ c) (hsh : Hid (ShotsAt W A n sh))
include hn hc hsh
theorem CheckCardA_any : CallsIn Fc 0 Tryz.prog 11 #[cardV r A n c] W (SaysInt (cardZ r sh n) W) := by
  have hck := fun w (hb : Below W.heap.size W w) => check_any r A n c sh w hn hc (Lib.hid (hsh.out.below hb))
  generalize cardZ r sh n = z at *
  have HCK := Lib.hid hck
  clear hck
  gi_enter Tryz.func11, Tryz.ntmps11
  gi_wp2_with (gi_at_call 46; refine (HCK.out _ (below_one _ _)).mono ?_; rintro e w2 ⟨rfl, hb2⟩; have HB2 := Lib.hid ((below_one _ _).trans (hb2.mono (below_one _ _).size)); clear hb2)
  go_ret
  exact ⟨rfl, HB2.out⟩
theorem askedShot_any (d : Int) : CallsIn Fc 0 Tryz.prog 49 #[cardV r A n c, .int .i64 d] W (SaysInt (firstL (wdL r sh n d)) W) := by
  have hck := fun w (hb : Below W.heap.size W w) => CheckCard_any r A n c sh w hn hc (Lib.hid (hsh.out.below hb))
  obtain ⟨z, hz⟩ : ∃ z, firstL (wdL r sh n d) = z := ⟨_, rfl⟩
  have h0 : cardZ r sh n = 0 → z = hasZ n d := fun h => by rw [← hz]; simp [wdL, firstL, firstZ, h]
  have h1 : cardZ r sh n ≠ 0 → z = cardZ r sh n := fun h => by rw [← hz]; simp [wdL, firstL, firstZ, h]
  rw [hz]
  clear hz
  generalize cardZ r sh n = y at *
  have HCK := Lib.hid hck
  clear hck
  gi_enter Tryz.func49, Tryz.ntmps49
  by_cases hy : y = 0
  · subst hy
    obtain rfl := h0 rfl
    clear h0 h1
    by_cases hin : 0 ≤ d ∧ d < n
    · have hz : hasZ n d = 0 := if_pos hin
      have hi : inB d 0 ((n : Int) - 1) = true := by rw [inB_iff]; omega
      rw [hz]
      have HI := Lib.hid hi
      clear hz hi hin
      gi_wp2_with (first
        | (gi_at_call 12; refine (HCK.out _ (below_one _ _)).mono ?_; rintro e w2 ⟨rfl, hb2⟩; obtain ⟨c0, c1, c2, c3, c4⟩ := box_one hb2; have HB2 := Lib.hid ((below_one _ _).trans (hb2.mono (below_one _ _).size)); clear hb2)
        | (gi_at_call 51; refine (in_any _ _ _ _).mono ?_; rw [HI.out]; rintro e w' ⟨rfl, rfl⟩))
      go_ret
      exact ⟨rfl, HB2.out⟩
    · have hz : hasZ n d = 6 := if_neg hin
      have hi : inB d 0 ((n : Int) - 1) = false := by
        cases h : inB d 0 ((n : Int) - 1) with
        | false => rfl
        | true => exact absurd (by have := inB_iff.1 h; omega) hin
      rw [hz]
      have HI := Lib.hid hi
      clear hz hi hin
      gi_wp2_with (first
        | (gi_at_call 12; refine (HCK.out _ (below_one _ _)).mono ?_; rintro e w2 ⟨rfl, hb2⟩; obtain ⟨c0, c1, c2, c3, c4⟩ := box_one hb2; have HB2 := Lib.hid ((below_one _ _).trans (hb2.mono (below_one _ _).size)); clear hb2)
        | (gi_at_call 51; refine (in_any _ _ _ _).mono ?_; rw [HI.out]; rintro e w' ⟨rfl, rfl⟩))
      go_ret
      exact ⟨rfl, HB2.out⟩
  · obtain rfl := h1 hy
    clear h0 h1
    gi_wp2_with (gi_at_call 12; refine (HCK.out _ (below_one _ _)).mono ?_; rintro e w2 ⟨rfl, hb2⟩; have HB2 := Lib.hid ((below_one _ _).trans (hb2.mono (below_one _ _).size)); clear hb2)
    go_ret
    exact ⟨rfl, HB2.out⟩
theorem RefFits_any : CallsIn Fc 0 Tryz.prog 14 #[cardV r A n c] W (SaysFits (AllAgree r sh n) (cardZ r sh n) W) := by
  have hck := fun w (hb : Below W.heap.size W w) => CheckCard_any r A n c sh w hn hc (Lib.hid (hsh.out.below hb))
  have hz := cardZ_ok (r := r) (sh := sh) (n := n)
  generalize cardZ r sh n = z at *
  have HCK := Lib.hid hck
  have HZ := Lib.hid hz
  clear hck hz
  gi_enter Tryz.func14, Tryz.ntmps14
  by_cases h0 : z = 0
  · have hok := Lib.hid (HZ.out.1 h0)
    have hn8 := hok.out.count
    subst h0
    gi_wp2_with (gi_at_call 12; refine (HCK.out _ (below_one _ _)).mono ?_; rintro e w2 ⟨rfl, hb2⟩; have HE := Lib.hid (box_one hb2); have HB2 := Lib.hid ((below_one _ _).trans (hb2.mono (below_one _ _).size)); clear hb2)
    obtain ⟨g, hg⟩ : ∃ g : Bool, (g = true ↔ AllAgree r sh n) := by
      by_cases h : AllAgree r sh n
      · exact ⟨true, by simp [h]⟩
      · exact ⟨false, by simp [h]⟩
    have HG := Lib.hid hg
    clear hg
    refine wpIn_region_H (R := [.val 10 (cardV r A n c), .val 11 (.pointer (some ⟨W.heap.size, 4, none⟩)), .val 12 (.slice A n c), .val 13 (.int .i64 n), .any 14, .val 15 (.bool g), .val 2 (.bool g), .val 3 (.int .i64 0)])
      (I := fun L V w => Below w2.heap.size w2 w ∧ (L 4 = true → UpRow n (V 4) w)) (z := 16) (by kernel_rfl) (by kernel_rfl) rfl (by kernel_rfl) rfl rfl ⟨(Below.refl _ _).drew, fun h => by cases h⟩ ?_ ?_
    · intro j L V a w hj hno hdep hah hd hz hold hv hV hI
      have HI := Lib.hid hI
      obtain ⟨e0, e1, e2, e3, e4⟩ := HE.out
      have c0 := Below.old hI.1 e0
      have c1 := Below.old hI.1 e1
      have c2 := Below.old hI.1 e2
      have c3 := Below.old hI.1 e3
      have c4 := Below.old hI.1 e4
      have s1 := at_slot hz (hold 1 (by kernel_rfl)) (by omega)
      clear hold
      have hjs : j = 0 ∨ j = 1 ∨ j = 2 ∨ j = 3 ∨ j = 4 ∨ j = 5 ∨ j = 6 ∨ j = 7 := by have : j < 8 := hj; omega
      rcases hjs with rfl | rfl | rfl | rfl | rfl | rfl | rfl | rfl
      · clear hdep hah hv hV hno hI
        refine wpOpIn_step rfl fun K hK => ?_
        go_simp
        exact hK _ _ ⟨rfl, rfl, HI.out⟩
      · clear hdep hah hv hV hno hI
        refine wpOpIn_step rfl fun K hK => ?_
        go_simp
        exact hK _ _ ⟨rfl, rfl, HI.out⟩
      · have f11 := at_slot hz (hv 1 11 _ (by kernel_rfl) rfl) (by omega)
        clear hdep hah hv hV hno hI
        refine wpOpIn_step rfl fun K hK => ?_
        go_simp
        exact hK _ _ ⟨rfl, rfl, HI.out⟩
      · have f12 := at_slot hz (hv 2 12 _ (by kernel_rfl) rfl) (by omega)
        clear hdep hah hv hV hno hI
        refine wpOpIn_step rfl fun K hK => ?_
        go_simp
        exact hK _ _ ⟨rfl, rfl, HI.out⟩
      · have f13 := at_slot hz (hv 3 13 _ (by kernel_rfl) rfl) (by omega)
        clear hdep hah hv hV hno hI
        refine wpOpIn_step rfl fun K hK => ?_
        go_simp
        refine (UpTo_any n w (by omega)).mono ?_
        rintro e w3 ⟨LA, lc, rfl, hlc, hints, hb'⟩
        exact hK _ _ ⟨rfl, _, rfl, ⟨HI.out.1.trans (hb'.mono HI.out.1.size), fun _ => ⟨LA, lc, rfl, hlc, hints⟩⟩⟩
      · have f10 := at_slot hz (hv 0 10 _ (by kernel_rfl) rfl) (by omega)
        have k4 := hdep 4 (by kernel_rfl) rfl
        have f14 := at_slot hz (hV 4 14 rfl) (by omega)
        obtain ⟨LA, lc, e14, hlc, hints⟩ := hI.2 k4
        rw [e14] at f14
        clear hdep hah hv hV hno hI
        refine wpOpIn_step rfl fun K hK => ?_
        go_simp
        refine (FitsOf_any r A n c sh LA n lc (fun k => k) w hc hn8 hlc hok (Lib.hid (hsh.out.below (HB2.out.trans (HI.out.1.mono HB2.out.size)))) (Lib.hid fun k hk => hk) (Lib.hid hints)).mono ?_
        rintro e w3 ⟨g', rfl, hg, hb'⟩; obtain rfl : g = g' := (by have h7 := HG.out; have h8 : (g' = true ↔ AllAgree r sh n) := hg; cases g <;> cases g' <;> simp_all)
        exact hK _ _ ⟨rfl, rfl, ⟨HI.out.1.trans (hb'.mono HI.out.1.size), fun h => (HI.out.2 h).below hb'⟩⟩
      · have f15 := at_slot hz (hv 5 15 _ (by kernel_rfl) rfl) (by omega)
        clear hdep hah hv hV hno hI
        refine wpOpIn_step rfl fun K hK => ?_
        go_simp
        exact hK _ _ ⟨rfl, rfl, HI.out⟩
      · clear hdep hah hv hV hno hI
        refine wpOpIn_step rfl fun K hK => ?_
        go_simp
        exact hK _ _ ⟨rfl, rfl, HI.out⟩
    intro L V w5 hL hI
    have HI := Lib.hid hI.1
    clear hI
    simp only [outsG, List.foldl_cons, List.foldl_nil, List.setIfInBounds_toArray, List.set_cons_succ, List.set_cons_zero]
    gi_wp2
    go_ret2
    exact ⟨g, rfl, fun _ => HG.out, fun h => absurd rfl h, HB2.out.trans (HI.out.mono HB2.out.size)⟩
  · gi_wp2_with (gi_at_call 12; refine (HCK.out _ (below_one _ _)).mono ?_; rintro e w2 ⟨rfl, hb2⟩; have HB2 := Lib.hid ((below_one _ _).trans (hb2.mono (below_one _ _).size)); clear hb2)
    go_ret2
    exact ⟨false, rfl, fun h => absurd h h0, fun _ => rfl, HB2.out⟩
end
end Go.Proofs.YtlabfeofejemjaaGreat
end
