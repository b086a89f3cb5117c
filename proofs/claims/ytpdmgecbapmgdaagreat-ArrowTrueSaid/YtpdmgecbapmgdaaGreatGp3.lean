/- A part of the proof that ArrowTrue returns true for every input: no further condition. -/
import Derived.Test.YtpdmgecbapmgdaaGreatGp2
import Derived.Test.YtpdmgecbapmgdaaGreatCx9
import Derived.Conc.Own4
import Derived.Test.YtpdmgecbapmgdaaGreatGp1
import Derived.Great.Frames
import Derived.Laws.Rows
import Derived.Stop.RegionWithIn
import Derived.Maps.OwnIn
set_option linter.unusedVariables false
set_option maxHeartbeats 2000000
set_option maxRecDepth 100000
section
namespace Go.Proofs.YtpdmgecbapmgdaaGreat
open Go.RowKit
section
variable {F : Fence} {n : Nat} {P : Program} {Post : Act → World → Prop} {a : Act} {w : World} {b : Frame} {k : List Item} {cs : List Frame}
def Through (Post : Act → World → Prop) : Exit → Act → World → Prop
  | .normal, a, w => Post a w
  | _, _, _ => False
abbrev Comes (F : Fence) (P : Program) (b : Frame) (cs : List Frame) (a : Act) (k : List Item) (w : World) (a' : Act) (k' : List Item) (w' : World) : Prop :=
  StepsIn (Machine.fenced P F) P (lone (b.atR a k) cs w) (lone (b.atR a' k') cs w')
theorem comes_code {c : Code} (h : c.wpIn F n P (Through Post) a w) (hro : b.roundOf = F.round) (hb : F.fn b.fn) (hr : F.room (cs.length + 1 + n)) :
    ∃ a' w', Post a' w' ∧ Comes F P b cs a (.code c :: k) w a' k w' := by
  obtain ⟨e, a', w', hp, harr⟩ := h b k cs hro hb hr
  cases e with
  | normal => exact ⟨a', w', hp, harr⟩
  | _ => exact hp.elim
theorem comes_seq {x y : Code} (hb : F.fn b.fn) (hr : F.room (cs.length + 1 + n)) : Comes F P b cs a (.code (.seq x y) :: k) w a (.code x :: .code y :: k) w :=
  .one (fenced_calm hb hr rfl) stepR_seq
theorem comes_cond {c : Operand} {x y : Code} {t : Bool} (hc : a.eval c = .bool t) (hb : F.fn b.fn) (hr : F.room (cs.length + 1 + n)) : Comes F P b cs a (.code (.cond c x y) :: k) w a (.code (if t then x else y) :: k) w :=
  .one (fenced_calm hb hr rfl) (stepR_cond hc)
theorem comes_region {id : Nat} {ops : Array Oper} (hb : F.fn b.fn) (hr : F.room (cs.length + 1 + n)) : Comes F P b cs a (.code (.region id ops false) :: k) w a (.inRegion ops (List.range ops.size) :: k) w :=
  .one (fenced_calm hb hr rfl) stepR_region
def reckons : Op → Bool
  | .move _ | .assign _ | .pick _ _ _ | .binOp _ _ _ _ _ => true
  | _ => false
theorem reckons_about {o : Oper} (h : reckons o.op = true) (P : Program) (w : World) (ρ : Operand → Value) : o.about P w ρ = none := by
  unfold Oper.about
  cases hop : o.op <;> simp_all [reckons]
theorem run_value {s : Sem Value} {P : Program} {w : World} : (∃ v w', (do let v ← s; pure (Next.value v) : Sem Next).run P w = .ok (.value v) w') ∨ ∃ x w', (do let v ← s; pure (Next.value v) : Sem Next).run P w = .halt x w' := by
  rw [Sem.run_bind]
  cases s.run P w with
  | ok v w' => exact .inl ⟨v, w', rfl⟩
  | halt x w' => exact .inr ⟨x, w', rfl⟩
theorem reckons_run {o : Oper} (h : reckons o.op = true) (P : Program) (w : World) (ρ : Operand → Value) : (∃ v w', (execOp ρ o).run P w = .ok (.value v) w') ∨ ∃ x w', (execOp ρ o).run P w = .halt x w' := by
  cases hop : o.op <;> simp only [hop, reckons] at h <;> try (cases h)
  all_goals unfold execOp; simp only [hop]
  case move x => exact .inl ⟨_, _, rfl⟩
  case assign x => exact .inl ⟨_, _, rfl⟩
  case pick c x y =>
    rw [Sem.run_bind]
    cases (asBool (ρ c)).run P w with
    | ok v w' => exact .inl ⟨_, w', rfl⟩
    | halt x w' => exact .inr ⟨x, w', rfl⟩
  case binOp op t x y u => exact run_value
theorem comes_pre {ops : Array Oper} (l : List Oper) : ∀ (i : Nat) (rest : List Nat) (a : Act) (w : World), (∀ j, j < l.length → ops[i + j]? = l[j]?) → (l.all fun o => reckons o.op) = true →
    wpListIn F n P ops (Through Post) l a w → b.roundOf = F.round → F.fn b.fn → F.room (cs.length + 1 + n) →
    ∃ a' w', Post a' w' ∧ Comes F P b cs a (.inRegion ops (List.range' i l.length ++ rest) :: k) w a' (.inRegion ops rest :: k) w' := by
  induction l with
  | nil => exact fun i rest a w _ _ h _ _ _ => ⟨a, w, h, .refl _⟩
  | cons o l ih =>
    intro i rest a w hops hall h hro hb hr
    have ho : ops[i]? = some o := by simpa using hops 0 (by simp)
    have hops' : ∀ j, j < l.length → ops[i + 1 + j]? = l[j]? := fun j hj => by
      have := hops (j + 1) (by simp; omega)
      simpa [Nat.add_assoc, Nat.add_comm 1 j] using this
    simp only [List.all_cons, Bool.and_eq_true] at hall
    have hab : ∀ f, o.about P w a.eval = some f → F.fn f := fun f hf => by rw [reckons_about hall.1] at hf; cases hf
    have h0 : (lone (b.atR a (.inRegion ops (i :: (List.range' (i + 1) l.length ++ rest)) :: k)) cs w).fenced P F := fenced_oper hb hr ho hab
    have hfin : ∀ v, (b.atR a (.inRegion ops (i :: (List.range' (i + 1) l.length ++ rest)) :: k)).finish v = b.atR (a.put o.dst v) (.inRegion ops (List.range' (i + 1) l.length ++ rest) :: k) := by
      intro v; rw [Frame.finish_atR, ho]; rfl
    simp only [wpListIn] at h
    rw [List.length_cons, List.range'_succ, List.cons_append]
    by_cases hw : Region.wanted o (yielded ops a.tmps) = true
    · rw [if_pos hw] at h
      have h2 := h.2
      have hsem : o.semAt F.round a.eval = execOp a.eval o := by
        refine Oper.semAt_eq _ _ _ fun c hc => ?_
        rw [hc] at hall
        exact absurd hall.1 (by simp [reckons])
      rw [hsem] at h2
      rcases reckons_run hall.1 P w a.eval with ⟨v, w1, hrun⟩ | ⟨x, w1, hrun⟩
      · rw [hrun] at h2
        obtain ⟨a', w', hp, hs⟩ := ih (i + 1) rest _ _ hops' hall.2 h2 hro hb hr
        refine ⟨a', w', hp, .head h0 (step_lone_go ?_) hs⟩
        rw [stepGR_op (P := P) ho hw, hro, hsem, ← hfin]
        simp [stepG.apply, hrun]
      · rw [hrun] at h2
        cases x with
        | panic v => exact h2.elim
        | _ => exact h2.elim
    · rw [if_neg hw] at h
      obtain ⟨a', w', hp, hs⟩ := ih (i + 1) rest _ _ hops' hall.2 h.2 hro hb hr
      have hk := stepR_op_skip (P := P) (b := b) (a := a) (k := k) (cs := cs) (w := w) (ops := ops) (i := i) (rest := List.range' (i + 1) l.length ++ rest) (by simp [ho]; simpa using hw)
      simp only [ho, Option.bind_some] at hk
      exact ⟨a', w', hp, .head h0 hk hs⟩
end
end Go.Proofs.YtpdmgecbapmgdaaGreat
end
section
namespace Go.Proofs.YtpdmgecbapmgdaaGreat
open Go.RowKit Go.Cx Go.Conc
open Go.ConcR (DC0)
section
variable {F : Fence} {n : Nat} {P : Program} {b : Frame} {cs : List Frame} {S : Act → List Item → World → Prop} {a : Act} {w : World} {k : List Item}
def Reach (F : Fence) (P : Program) (b : Frame) (cs : List Frame) (S : Act → List Item → World → Prop) (a : Act) (k : List Item) (w : World) : Prop :=
  ∃ a' k' w', S a' k' w' ∧ Comes F P b cs a k w a' k' w'
theorem Reach.here (h : S a k w) : Reach F P b cs S a k w := ⟨a, k, w, h, .refl _⟩
theorem reach_seq {x y : Code} (hb : F.fn b.fn) (hr : F.room (cs.length + 1 + n)) (h : Reach F P b cs S a (.code x :: .code y :: k) w) : Reach F P b cs S a (.code (.seq x y) :: k) w := by
  obtain ⟨a', k', w', h1, h2⟩ := h
  exact ⟨a', k', w', h1, (comes_seq hb hr).trans h2⟩
theorem reach_code {c : Code} (hro : b.roundOf = F.round) (hb : F.fn b.fn) (hr : F.room (cs.length + 1 + n))
    (h : ∀ R : Act → World → Prop, (∀ a' w', Reach F P b cs S a' k w' → R a' w') → c.wpIn F n P (Through R) a w) : Reach F P b cs S a (.code c :: k) w := by
  obtain ⟨a1, w1, ⟨a', k', w', h1, h2⟩, h3⟩ := comes_code (h (fun a' w' => Reach F P b cs S a' k w') fun a' w' h => h) hro hb hr
  exact ⟨a', k', w', h1, h3.trans h2⟩
theorem reach_cond {c : Operand} {x y : Code} (t : Bool) (hc : a.eval c = .bool t) (hb : F.fn b.fn) (hr : F.room (cs.length + 1 + n)) (h : Reach F P b cs S a (.code (if t then x else y) :: k) w) : Reach F P b cs S a (.code (.cond c x y) :: k) w := by
  obtain ⟨a', k', w', h1, h2⟩ := h
  exact ⟨a', k', w', h1, (comes_cond hc hb hr).trans h2⟩
theorem reach_skip (hb : F.fn b.fn) (hr : F.room (cs.length + 1 + n)) (hro : b.roundOf = F.round) (h : Reach F P b cs S a k w) : Reach F P b cs S a (.code .skip :: k) w :=
  reach_code (n := n) hro hb hr fun R hR => by
    gi_wp2
    exact hR _ _ h
theorem reach_region {id : Nat} {ops : Array Oper} (hb : F.fn b.fn) (hr : F.room (cs.length + 1 + n)) (h : Reach F P b cs S a (.inRegion ops (List.range ops.size) :: k) w) : Reach F P b cs S a (.code (.region id ops false) :: k) w := by
  obtain ⟨a', k', w', h1, h2⟩ := h
  exact ⟨a', k', w', h1, (comes_region hb hr).trans h2⟩
theorem reach_pre {ops : Array Oper} (l : List Oper) (rest : List Nat) (hops : ∀ j, j < l.length → ops[j]? = l[j]?) (hall : (l.all fun o => reckons o.op) = true) (hro : b.roundOf = F.round) (hb : F.fn b.fn) (hr : F.room (cs.length + 1 + n))
    (h : ∀ R : Act → World → Prop, (∀ a' w', Reach F P b cs S a' (.inRegion ops rest :: k) w' → R a' w') → wpListIn F n P ops (Through R) l a w) : Reach F P b cs S a (.inRegion ops (List.range' 0 l.length ++ rest) :: k) w := by
  obtain ⟨a1, w1, ⟨a', k', w', h1, h2⟩, h3⟩ := comes_pre (b := b) (cs := cs) (k := k) l 0 rest a w (fun j hj => by rw [Nat.zero_add]; exact hops j hj) hall (h (fun a' w' => Reach F P b cs S a' (.inRegion ops rest :: k) w') fun a' w' h => h) hro hb hr
  exact ⟨a', k', w', h1, h3.trans h2⟩
end
theorem put_same {a : Act} {d : Nat} {v : Value} (h : d < a.tmps.size) : (a.put (some d) v).tmps.getD d undef = v := by
  simp [Act.put, h]
theorem put_far {a : Act} {d e : Nat} {v : Value} (h : d ≠ e) : (a.put (some d) v).tmps.getD e undef = a.tmps.getD e undef := by
  simp [Act.put, h]
theorem put_size {a : Act} {d : Nat} {v : Value} : (a.put (some d) v).tmps.size = a.tmps.size := by simp [Act.put]
theorem put_defers {a : Act} {d : Nat} {v : Value} : (a.put (some d) v).defers = a.defers := rfl
abbrev lawFr (f : FuncId) : Frame := { (default : Frame) with fn := f, kind := .normal, roundOf := none }
structure EarlyAt (S : FuncId) (ops : Array Oper) (i j d r : Nat) : Prop where
  o : ∃ o, ops[i]? = some o ∧ o.op = .call { callee := .value (.func S), args := #[], argTypes := #[] } ∧ o.guard = none ∧ o.dst = some d
  p : ∃ o, ops[j]? = some o ∧ o.op = .assign (.tmp d) ∧ o.guard = none ∧ o.dst = some r
structure LateAt (S : FuncId) (ops : Array Oper) (i j1 j2 g c d e r : Nat) : Prop where
  o : ∃ o, ops[i]? = some o ∧ o.op = .call { callee := .value (.func S), args := #[], argTypes := #[] } ∧ o.guard = some (g, true) ∧ o.dst = some d
  g : (ops[g]?).bind (·.dst) = some c
  p : ∃ o, ops[j1]? = some o ∧ o.op = .pick (.tmp c) (.tmp d) (.const (.bool false)) ∧ o.guard = none ∧ o.dst = some e
  q : ∃ o, ops[j2]? = some o ∧ o.op = .assign (.tmp e) ∧ o.guard = none ∧ o.dst = some r
  ne : d ≠ c
inductive AtCallG (S : FuncId) (r z : Nat) : Act → List Item → Prop where
  | early (a : Act) (k : List Item) (ops : Array Oper) (i j d : Nat) (h : EarlyAt S ops i j d r) (hdz : d < z) (hd : a.defers = []) (hs : a.tmps.size = z) : AtCallG S r z a (.inRegion ops [i, j] :: .code .ret :: k)
  | late (a : Act) (k : List Item) (ops : Array Oper) (i j1 j2 g c d e : Nat) (h : LateAt S ops i j1 j2 g c d e r) (hdz : d < z) (hez : e < z) (hd : a.defers = []) (hs : a.tmps.size = z) (ht : a.tmps.getD c undef = .bool true) (hcz : c < z) : AtCallG S r z a (.inRegion ops [i, j1, j2] :: .code .ret :: k)
section
variable {P : Program} {S f : FuncId} {r z : Nat}
theorem call_step {a : Act} {k : List Item} (hS : ∃ fn, P.funcs[S]? = some fn ∧ (fn.name == "runtime.NumGoroutine") = false ∧ fn.body.isNone = false) (h : AtCallG S r z a k) (w : World) :
    stepG P true (G ((lawFr f).at a k) []) w = .go (G (Frame.enter P S #[] .normal) [(lawFr f).at a k]) w #[] := by
  obtain ⟨fn, hf, hn, hb⟩ := hS
  cases h with
  | early k ops i j d h hdz hd hs =>
    obtain ⟨o, ho, hop, hg, hdst⟩ := h.o
    have hw : Region.wanted o (yielded ops a.tmps) = true := by simp only [Region.wanted, hg]
    rw [stepG_enter ho hw (by intro h; cases h) (run_call_body hop hf hn hb)]
    have : listed P (lawFr f).fn a o w = #[] := by unfold listed; rw [events_call_body hop hf hn hb]; exact seen_none _ _
    rw [this]
    simp only [List.map_toArray, List.map_nil]
  | late k ops i j1 j2 g c d e h hdz hez hd hs ht hcz =>
    obtain ⟨o, ho, hop, hg, hdst⟩ := h.o
    have hw : Region.wanted o (yielded ops a.tmps) = true := by
      simp only [Region.wanted, hg]
      have hgc : a.tmps[c]? = some (.bool true) := by
        rw [Array.getD_eq_getD_getElem?, Array.getElem?_eq_getElem (by omega)] at ht
        rw [Array.getElem?_eq_getElem (by omega)]
        simpa using ht
      unfold yielded
      rw [h.g]
      simp [hgc]
    rw [stepG_enter ho hw (by intro h; cases h) (run_call_body hop hf hn hb)]
    have : listed P (lawFr f).fn a o w = #[] := by unfold listed; rw [events_call_body hop hf hn hb]; exact seen_none _ _
    rw [this]
    simp only [List.map_toArray, List.map_nil]
theorem goes_oneG {R : World → World → Prop} {Stop : Goroutine → World → Prop} {n : Nat} {g g' : Goroutine} {w : World} (hs : g.status = .running) (h : ∀ w1, stepG P true g w1 = .go g' w1 #[]) (hk : ∀ w1, R w w1 → Goes P true R DC0 Stop n g' w1) :
    Goes P true R DC0 Stop (n + 1) g w := Goes.step hs fun w1 h1 => by
  rw [h w1]
  exact ⟨⟨rfl, rfl⟩, hk w1 h1⟩
theorem step_assignG {a : Act} {k : List Item} {ops : Array Oper} {i : Nat} {rest : List Nat} {o : Oper} {x : Operand} (ho : ops[i]? = some o) (hg : o.guard = none) (hop : o.op = .assign x) (w : World) :
    stepG P true (G ((lawFr f).at a (.inRegion ops (i :: rest) :: k)) []) w = .go (G ((lawFr f).at (a.put o.dst (a.eval x)) (.inRegion ops rest :: k)) []) w #[] := by
  have hr : (execOp a.eval o).run P w = .ok (.value (a.eval x)) w := by unfold execOp; simp [hop]
  rw [stepG_value ho (by simp only [Region.wanted, hg]) (by intro h; cases h) hr]
  have : listed P (lawFr f).fn a o w = #[] := by
    unfold listed
    rw [show (execOp a.eval o).events P w #[] = #[] by unfold execOp; simp [hop]]
    exact seen_none _ _
  rw [this]
theorem step_pickG {a : Act} {k : List Item} {ops : Array Oper} {i : Nat} {rest : List Nat} {o : Oper} {c x y : Operand} (ho : ops[i]? = some o) (hg : o.guard = none) (hop : o.op = .pick c x y) (hc : a.eval c = .bool true) (w : World) :
    stepG P true (G ((lawFr f).at a (.inRegion ops (i :: rest) :: k)) []) w = .go (G ((lawFr f).at (a.put o.dst (a.eval x)) (.inRegion ops rest :: k)) []) w #[] := by
  have hr : (execOp a.eval o).run P w = .ok (.value (a.eval x)) w := by unfold execOp; simp [hop, hc, asBool]
  rw [stepG_value ho (by simp only [Region.wanted, hg]) (by intro h; cases h) hr]
  have : listed P (lawFr f).fn a o w = #[] := by
    unfold listed
    rw [show (execOp a.eval o).events P w #[] = #[] by unfold execOp; simp [hop, hc, asBool]]
    exact seen_none _ _
  rw [this]
theorem step_doneG {F : FuncId → Prop} {fl : Func} (hF : FenceOk P F) (hin : F f) (hfl : P.funcs[f]? = some fl) (hres : fl.results = #[.tmp r]) {a : Act} {k : List Item} (hd : a.defers = []) (h4 : a.tmps.getD r undef = .bool true) (w : World) :
    stepG P true (G { (lawFr f).at a (.code .ret :: k) with mode := .returning } []) w = .ended (.done (.bool true)) w #[] := by
  obtain ⟨fn, c, hk⟩ := hF f hin
  have hfn : fn = fl := Option.some.inj (hk.at_.symm.trans hfl)
  have h1 : (results fn a.tmps).run P w = .ok (.bool true) w := by
    rw [results_tmp (t := r) (by rw [hfn]; exact hres) a.tmps P w, h4]
  have h2 : (results fn a.tmps).events P w #[] = #[] := events_results_tmp (t := r) (by rw [hfn]; exact hres) _ _
  have e1 : ∀ (fr : Frame) (z : World), fr.kind = .normal → fr.fn = f → doReturn P true fr [] none (.bool true) z = .ended (.done (.bool true)) z := fun fr z h3 h4 => by simp [doReturn, h3, h4, hk.ini]
  simp only [G, stepG, unwind, Frame.at, hd, hk.at_, Sem.runT_eq, h1, h2]
  rw [e1 _ _ rfl rfl]
  simp [GStep.after, seen_none]
theorem after_retG {F : FuncId → Prop} {fl : Func} (hF : FenceOk P F) (hin : F f) (hfl : P.funcs[f]? = some fl) (hres : fl.results = #[.tmp r]) {a : Act} {k : List Item} {ops : Array Oper} {w w' : World} (he : Env (OldL w) w w') (hd : a.defers = []) (h4 : a.tmps.getD r undef = .bool true) :
    Goes P true (fun w0 w1 => Env (OldL w) w0 w1) DC0 (AtRet P (fun v w1 => v = .bool true ∧ Env (OldL w) w w1)) 2 (G ((lawFr f).at a (.inRegion ops [] :: .code .ret :: k)) []) w' := by
  refine goes_oneG rfl (fun w1 => stepG_region_end) fun w1 h1 => goes_oneG rfl (fun w1 => stepG_ret') fun w2 h2 => Goes.stop fun w3 h3 => ?_
  exact ⟨rfl, _, step_doneG hF hin hfl hres hd h4 w3, rfl, ((he.trans h1).trans h2).trans h3⟩
theorem after_callG {F : FuncId → Prop} {fl : Func} (hF : FenceOk P F) (hin : F f) (hfl : P.funcs[f]? = some fl) (hres : fl.results = #[.tmp r]) (hrz : r < z) {a : Act} {k : List Item} (h : AtCallG S r z a k) {w w' : World} (he : Env (OldL w) w w') :
    Goes P true (fun w0 w1 => Env (OldL w) w0 w1) DC0 (AtRet P (fun v w1 => v = .bool true ∧ Env (OldL w) w w1)) 4 (G (((lawFr f).at a k).finish (.bool true)) []) w' := by
  cases h with
  | early k ops i j d h hdz hd hs =>
    obtain ⟨o, ho, hop, hg, hdst⟩ := h.o
    obtain ⟨o2, ho2, hop2, hg2, hdst2⟩ := h.p
    rw [Frame.finish_at, ho]
    simp only [Option.bind_some, hdst]
    refine goes_oneG (g' := G ((lawFr f).at ((a.put (some d) (.bool true)).put (some r) (.bool true)) (.inRegion ops [] :: .code .ret :: k)) []) rfl (fun w1 => ?_) fun w1 h1 => Goes.more (after_retG hF hin hfl hres (a := (a.put (some d) (.bool true)).put (some r) (.bool true)) (ops := ops) (k := k) (he.trans h1) (by rw [put_defers, put_defers, hd]) (put_same (by rw [put_size]; omega)))
    have h := step_assignG (P := P) (f := f) (a := a.put (some d) (.bool true)) (k := .code .ret :: k) (ops := ops) (i := j) (rest := []) (x := .tmp d) ho2 hg2 hop2 w1
    rw [h, hdst2, show (a.put (some d) (.bool true)).eval (.tmp d) = .bool true from put_same (by omega)]
  | late k ops i j1 j2 g c d e h hdz hez hd hs ht hcz =>
    obtain ⟨o, ho, hop, hg, hdst⟩ := h.o
    obtain ⟨o2, ho2, hop2, hg2, hdst2⟩ := h.p
    obtain ⟨o3, ho3, hop3, hg3, hdst3⟩ := h.q
    rw [Frame.finish_at, ho]
    simp only [Option.bind_some, hdst]
    refine goes_oneG (g' := G ((lawFr f).at ((a.put (some d) (.bool true)).put (some e) (.bool true)) (.inRegion ops [j2] :: .code .ret :: k)) []) rfl (fun w1 => ?_) fun w1 h1 => ?_
    · have h := step_pickG (P := P) (f := f) (a := a.put (some d) (.bool true)) (k := .code .ret :: k) (ops := ops) (i := j1) (rest := [j2]) (c := .tmp c) (x := .tmp d) (y := .const (.bool false)) ho2 hg2 hop2 ((put_far h.ne).trans ht) w1
      rw [h, hdst2, show (a.put (some d) (.bool true)).eval (.tmp d) = .bool true from put_same (by omega)]
    · refine goes_oneG (g' := G ((lawFr f).at (((a.put (some d) (.bool true)).put (some e) (.bool true)).put (some r) (.bool true)) (.inRegion ops [] :: .code .ret :: k)) []) rfl (fun w2 => ?_) fun w2 h2 => after_retG hF hin hfl hres ((he.trans h1).trans h2) (by rw [put_defers, put_defers, put_defers, hd]) (put_same (by rw [put_size, put_size]; omega))
      have h := step_assignG (P := P) (f := f) (a := (a.put (some d) (.bool true)).put (some e) (.bool true)) (k := .code .ret :: k) (ops := ops) (i := j2) (rest := []) (x := .tmp e) ho3 hg3 hop3 w2
      rw [h, hdst3, show ((a.put (some d) (.bool true)).put (some e) (.bool true)).eval (.tmp e) = .bool true from put_same (by rw [put_size]; omega)]
end
end Go.Proofs.YtpdmgecbapmgdaaGreat
end
section
namespace Go.Proofs.YtpdmgecbapmgdaaGreat
open Go.RowKit
section
variable {F : Fence} {n : Nat} {P : Program} {ops : Array Oper} {Q : Exit → Act → World → Prop}
def dstAt (ops : Array Oper) (j : Nat) : Option Nat := (ops[j]?).bind (·.dst)
def supB (ops : Array Oper) (sup : Nat → List Nat) : Bool :=
  (List.range ops.size).all fun i => (sup i).all fun d => (List.range ops.size).all fun j => j == i || !(dstAt ops j == some d) || depB ops i j
theorem supB_use {sup : Nat → List Nat} (h : supB ops sup = true) {i j d : Nat} (hi : i < ops.size) (hj : j < ops.size) (hd : d ∈ sup i) (hji : j ≠ i) (e : dstAt ops j = some d) : depB ops i j = true := by
  unfold supB at h
  have h1 := List.all_eq_true.1 h i (List.mem_range.2 hi)
  have h2 := List.all_eq_true.1 h1 d hd
  have h3 := List.all_eq_true.1 h2 j (List.mem_range.2 hj)
  simpa [hji, e] using h3
abbrev vals (a : Act) (l : List Nat) : List Value := l.map fun s => a.eval (.tmp s)
structure RF (ops : Array Oper) (sup : Nat → List Nat) (Ψ : Nat → List Value → World → Prop) (I : World → Prop) (z : Nat) (a0 : Act) (listed : Array Bool) (a : Act) (w : World) : Prop where
  defers : a.defers = []
  size : a.tmps.size = z
  old : ∀ s, (∀ j, j < ops.size → dstAt ops j ≠ some s) → a.eval (.tmp s) = a0.eval (.tmp s)
  inv : I w
  fact : ∀ i, i < ops.size → listed.getD i false = true → Ψ i (vals a (sup i)) w
  closed : ∀ i, i < ops.size → listed.getD i false = true → ∀ j, depB ops i j = true → listed.getD j false = true
structure RFNext (ops : Array Oper) (sup : Nat → List Nat) (Ψ : Nat → List Value → World → Prop) (I : World → Prop) (listed : Array Bool) (j : Nat) (a : Act) (w : World) (a' : Act) (w' : World) : Prop where
  put : ∃ v, a' = a.put (dstAt ops j) v
  inv : I w'
  keep : ∀ i, i < ops.size → i ≠ j → listed.getD i false = true → Ψ i (vals a (sup i)) w → Ψ i (vals a (sup i)) w'
  own : Ψ j (vals a' (sup j)) w'
variable {sup : Nat → List Nat} {Ψ : Nat → List Value → World → Prop} {I : World → Prop} {z : Nat} {a0 : Act}
theorem RF.next (hs : supB ops sup = true) {listed : Array Bool} {a a' : Act} {w w' : World} {j : Nat} (h : RF ops sup Ψ I z a0 listed a w) (hj : j ∈ Region.ready .any ops listed) (hn : RFNext ops sup Ψ I listed j a w a' w') :
    RF ops sup Ψ I z a0 (listed.setIfInBounds j true) a' w' := by
  obtain ⟨v, rfl⟩ := hn.put
  have hjs : j < ops.size := by
    obtain ⟨_, o, h3, _⟩ := mem_ready.1 hj
    exact (Array.getElem?_eq_some_iff.1 h3).1
  refine ⟨by rw [show (a.put (dstAt ops j) v).defers = a.defers by unfold Act.put; split <;> rfl]; exact h.defers, by rw [Act.size_put]; exact h.size, fun s hs' => ?_, hn.inv, fun i hi hl => ?_, fun i hi hl k hk => ?_⟩
  · cases e : dstAt ops j with
    | none => exact h.old s hs'
    | some d =>
      rw [Act.eval_put_ne _ _ _ _ (fun e' => hs' j hjs (by rw [e, e']))]
      exact h.old s hs'
  · by_cases e : i = j
    · subst e; exact hn.own
    · rw [gset (fun e' => e e'.symm)] at hl
      have h1 := hn.keep i hi e hl (h.fact i hi hl)
      have h2 : vals (a.put (dstAt ops j) v) (sup i) = vals a (sup i) := by
        apply List.map_congr_left
        intro d hd
        cases e2 : dstAt ops j with
        | none => rfl
        | some d' =>
          refine Act.eval_put_ne _ _ _ _ fun e3 => ?_
          subst e3
          have h4 := h.closed i hi hl j (supB_use hs hi hjs hd (fun e' => e e'.symm) e2)
          rw [not_yet hj] at h4
          cases h4
      rw [h2]; exact h1
  · by_cases e : i = j
    · subst e
      by_cases e2 : i = k
      · subst e2; exact set_self hj
      · rw [gset e2]; exact dep hj hk
    · rw [gset (fun e' => e e'.symm)] at hl
      have h1 := h.closed i hi hl k hk
      by_cases e2 : j = k
      · subst e2; exact set_self hj
      · rw [gset e2]; exact h1
theorem wpIn_region_F {id : Nat} {w : World} (hm : P.follows .mixedOrders = true) (hb : backB .any ops = true) (hs : supB ops sup = true) (hd : a0.defers = []) (hz : a0.tmps.size = z)
    (h0 : I { w with drawn := w.drawn + 1 })
    (hJ : ∀ listed a w j, RF ops sup Ψ I z a0 listed a w → j ∈ Region.ready .any ops listed → wpOpIn F n P ops Q j (RFNext ops sup Ψ I listed j a w) a w)
    (hE : ∀ listed a w, RF ops sup Ψ I z a0 listed a w → (∀ i, i < ops.size → Ψ i (vals a (sup i)) w) → Q .normal a w) : (Code.region id ops true).wpIn F n P Q a0 w := by
  refine wpIn_region_J (J := RF ops sup Ψ I z a0) hm hb ⟨hd, hz, fun _ _ => rfl, h0, fun i hi hl => ?_, fun i hi hl => ?_⟩ (fun listed a w j hj hr => wpOpIn_mono (fun a' w' h => hj.next hs hr h) (hJ listed a w j hj hr)) fun listed a w hj hall => hE listed a w hj fun i hi => hj.fact i hi (hall i hi)
  · rw [Array.getD_eq_getD_getElem?] at hl; simp [hi] at hl
  · rw [Array.getD_eq_getD_getElem?] at hl; simp [hi] at hl
theorem RFNext.pure {listed : Array Bool} {j d : Nat} {a : Act} {w : World} {v : Value} (hd : dstAt ops j = some d) (hI : I w) (hz : d < a.tmps.size) (hsup : sup j = [d]) (hv : Ψ j [v] w) : RFNext ops sup Ψ I listed j a w (a.put (some d) v) w where
  put := ⟨v, by rw [hd]⟩
  inv := hI
  keep := fun _ _ _ _ h => h
  own := by
    rw [hsup]
    show Ψ j [(a.put (some d) v).eval (.tmp d)] w
    rw [Act.eval_put_same _ _ _ hz]
    exact hv
theorem RFNext.grow {listed : Array Bool} {j d : Nat} {a : Act} {w w' : World} {v : Value} (hg : ∀ i vs, Ψ i vs w → Ψ i vs w') (hd : dstAt ops j = some d) (hI : I w') (hz : d < a.tmps.size) (hsup : sup j = [d]) (hv : Ψ j [v] w') : RFNext ops sup Ψ I listed j a w (a.put (some d) v) w' where
  put := ⟨v, by rw [hd]⟩
  inv := hI
  keep := fun i _ _ _ h => hg i _ h
  own := by
    rw [hsup]
    show Ψ j [(a.put (some d) v).eval (.tmp d)] w'
    rw [Act.eval_put_same _ _ _ hz]
    exact hv
theorem act_out (a : Act) (hd : a.defers = []) : a = { tmps := ((List.range a.tmps.size).map fun s => a.eval (.tmp s)).toArray, defers := [] } := by
  obtain ⟨t, d⟩ := a
  simp only at hd
  subst hd
  congr 1
  apply Array.ext_getElem?
  intro i
  simp only [Act.eval, List.getElem?_toArray, List.getElem?_map]
  rcases Nat.lt_or_ge i t.size with h | h
  · rw [List.getElem?_range h]
    simp [h]
  · rw [Array.getElem?_eq_none h]
    simp [h]
end
end Go.Proofs.YtpdmgecbapmgdaaGreat
end
section
namespace Go.Proofs.YtpdmgecbapmgdaaGreat
open Go.RowKit
abbrev spanV (u v : Int) : Value := .agg #[.int .i64 u, .int .i64 v]
def SaysSpan (u v : Int) (w : World) (e : Ending) (w' : World) : Prop := e = .returned (.agg #[.int .i64 u, .int .i64 v]) ∧ Below w.heap.size w w'
theorem u52 : (match Tryz.prog.underlying 52 with | some (.struct _) => true | _ => false) = true := by kernel_rfl
theorem i52 : (Tryz.prog.info? 52).map (·.size) = some 2 := by kernel_rfl
theorem results_span {fn : Func} {tmps : Array Value} {w : World} {g : Nat} {u v : Int} (h : fn.results = #[.cell 4 52]) (ht : tmps.getD 4 undef = .pointer (some ⟨g, 0, none⟩)) (hb : SpanAt w g u v) : (results fn tmps).run Tryz.prog w = .ok (spanV u v) w := by
  have e := u52
  split at e
  · next fs hu => exact results_cell_row h tmps w g 52 _ (0, 0) (.struct fs) ht hb hu rfl i52
  · cases e
theorem span_new (w : World) (u v : Int) : SpanAt (w.alloc (.cells #[.int .i64 u, .int .i64 v] 52)) w.heap.size u v := by
  unfold SpanAt; exact heap_alloc_new _ _
theorem span_mid (w : World) (A C : Obj) (u v : Int) : SpanAt (((w.alloc A).alloc (.cells #[.int .i64 u, .int .i64 v] 52)).alloc C) (w.heap.size + 1) u v := by
  have h := (span_new (w.alloc A) u v).below ((Below.refl _ _).alloc (Nat.le_refl _) C)
  simpa using h
theorem to_any (u v : Int) (w : World) : CallsIn Fc 0 Tryz.prog 37 #[.int .i64 u, .int .i64 v] w (SaysSpan u v w) := by
  gi_enter Tryz.func37, Tryz.ntmps37
  gi_wp2
  refine bodyPost_ret (v := spanV u v) (results_span rfl rfl (span_new w u v)) rfl ?_
  exact ⟨rfl, (Below.refl _ _).alloc (Nat.le_refl _) _⟩
theorem Measured_any (x : Shaft) (m : Nat) (hm : m < 3) (w : World) : CallsIn Fc 0 Tryz.prog 36 #[shaftV x, .int .i64 m] w (SaysSpan (spanA x m) (spanB x m) w) := by
  have h3 : m = 0 ∨ m = 1 ∨ m = 2 := by omega
  rcases h3 with rfl | rfl | rfl
  all_goals
    gi_enter Tryz.func36, Tryz.ntmps36
    gi_wp2
    refine bodyPost_ret (v := spanV _ _) (results_span rfl rfl (span_mid _ _ _ _ _)) rfl ?_
    exact ⟨rfl, (((Below.refl _ _).alloc (Nat.le_refl _) _).alloc (by simp) _).alloc (by simp; omega) _⟩
theorem Allowed_any (rs rl rw many : Int) (m : Nat) (hm : m < 3) (w : World) : CallsIn Fc 0 Tryz.prog 82 #[.agg #[.int .i64 rs, .int .i64 rl, .int .i64 rw, .int .i64 many], .int .i64 m] w (SaysInt (allowOf rs rl rw m) w) := by
  have h3 : m = 0 ∨ m = 1 ∨ m = 2 := by omega
  rcases h3 with rfl | rfl | rfl
  all_goals
    gi_enter Tryz.func82, Tryz.ntmps82
    gi_wp2
    go_ret
    exact ⟨rfl, ((Below.refl _ _).alloc (Nat.le_refl _) _).alloc (by simp) _⟩
def PicksAt (w : World) (A : Option Addr) (n : Nat) (p : Nat → Int) : Prop := ∀ k, k < n → ∃ b o, A = some ⟨b, o, none⟩ ∧ w.cell? ⟨b, o + k, none⟩ = some (.int .u16 (p k)) ∧ 0 ≤ p k ∧ p k ≤ 65535
def choiceZ (n : Nat) (p : Nat → Int) (k : Nat) : Int := if k < n then p k else 0
theorem choice_le {w : World} {A : Option Addr} {n : Nat} {p : Nat → Int} (h : PicksAt w A n p) (k : Nat) : 0 ≤ choiceZ n p k ∧ choiceZ n p k ≤ 65535 := by
  unfold choiceZ
  split
  · next h1 => obtain ⟨_, _, _, _, h2, h3⟩ := h k h1; exact ⟨h2, h3⟩
  · omega
theorem PicksAt.below {W w : World} (h : Below W.heap.size W w) {A : Option Addr} {n : Nat} {p : Nat → Int} (hx : PicksAt W A n p) : PicksAt w A n p := fun k hk => by
  obtain ⟨b, o, rfl, h1, h2⟩ := hx k hk
  exact ⟨b, o, rfl, Below.old h h1, h2⟩
theorem Choice_any (A : Option Addr) (n c : Nat) (p : Nat → Int) (k : Nat) (w : World) (hc : n ≤ c) (hk : k < 100) (hp : Hid (PicksAt w A n p)) : CallsIn Fc 0 Tryz.prog 84 #[.slice A n c, .int .i64 k] w fun e w' => e = .returned (.int .i64 (choiceZ n p k)) ∧ w = w' := by
  by_cases h : k < n
  · obtain ⟨b, o, rfl, h1, h2, h3⟩ := hp.out k h
    have hb : b < w.heap.size := World.block_lt_of_cell? w _ h1
    have hcz : choiceZ n p k = p k := by simp [choiceZ, h]
    rw [hcz]
    gi_enter Tryz.func84, Tryz.ntmps84
    gi_wp2
    go_ret
    exact ⟨rfl, rfl⟩
  · have hcz : choiceZ n p k = 0 := by simp [choiceZ, h]
    rw [hcz]
    gi_enter Tryz.func84, Tryz.ntmps84
    gi_wp2
    go_ret
    exact ⟨rfl, rfl⟩
def pickZ (u v n : Int) : Int := u + n.tmod (v - u + 1)
theorem pickZ_in {u v n : Int} (h : u ≤ v) (hn : 0 ≤ n) : u ≤ pickZ u v n ∧ pickZ u v n ≤ v := by
  unfold pickZ
  rw [Int.tmod_eq_emod_of_nonneg hn]
  have h1 := Int.emod_nonneg n (show v - u + 1 ≠ 0 by omega)
  have h2 := Int.emod_lt_of_pos n (show 0 < v - u + 1 by omega)
  omega
theorem Pick_any (u v n : Int) (w : World) (h0 : 0 ≤ u) (h1 : u ≤ v) (h2 : v ≤ 9999) (hn0 : 0 ≤ n) (hn1 : n ≤ 65535) : CallsIn Fc 0 Tryz.prog 83 #[spanV u v, .int .i64 n] w (SaysInt (pickZ u v n) w) := by
  have w1 : IntKind.wrap .i64 (v - u) = v - u := by simp [IntKind.wrap, IntKind.signed, IntKind.bits]; omega
  have w2 : IntKind.wrap .i64 (v - u + 1) = v - u + 1 := by simp [IntKind.wrap, IntKind.signed, IntKind.bits]; omega
  have hne : ¬ (v - u + 1 = 0) := by omega
  have hmod := pickZ_in h1 hn0
  unfold pickZ at hmod
  have w3 : IntKind.wrap .i64 (u + n.tmod (v - u + 1)) = u + n.tmod (v - u + 1) := by simp [IntKind.wrap, IntKind.signed, IntKind.bits]; omega
  gi_enter Tryz.func83, Tryz.ntmps83
  gi_wp2
  gi_region_with (fail)
  all_goals
    gi_wp2
    go_ret
    exact ⟨rfl, ((Below.refl _ _).alloc (Nat.le_refl _) _).drew⟩
def realZ (sh : Nat → Shaft) (pn : Nat) (p : Nat → Int) (k m : Nat) : Int := pickZ (spanA (sh k) m) (spanB (sh k) m) (choiceZ pn p (3 * k + m))
theorem real_any (rs rl rw many : Int) (A : Option Addr) (n c k m : Nat) (sh : Nat → Shaft) (PA : Option Addr) (pn pc : Nat) (p : Nat → Int) (W : World) (hk : k < n) (hc : n ≤ c) (hm : m < 3) (hpc : pn ≤ pc) (hst : Hid (StockOk rs rl rw many n sh)) (hsh : Hid (ShaftsAt W A n sh)) (hp : Hid (PicksAt W PA pn p)) :
    CallsIn Fc 0 Tryz.prog 41 #[stockV rs rl rw many A n c, .int .i64 k, .int .i64 m, .slice PA pn pc] W (SaysInt (realZ sh pn p k m) W) := by
  have hn := hst.out.count
  obtain ⟨b, o, rfl, hx⟩ := hsh.out k hk
  have hB1 : ∀ x, Below W.heap.size W (W.alloc x) := fun x => (Below.refl _ _).alloc (Nat.le_refl _) _
  have HB1 := Lib.hid hB1
  clear hB1
  have hlb : b < W.heap.size := hx.lt
  obtain ⟨x0, x1, x2, x3, x4, x5, x6⟩ := hx
  have hsp := (hst.out.each k hk).spans
  have sp0 := hsp.least m hm
  have sp1 := hsp.up m hm
  have sp2 := hsp.most m hm
  have hch := choice_le hp.out (3 * k + m)
  have w1 : IntKind.wrap .i64 (3 * (k : Int)) = 3 * (k : Int) := by simp [IntKind.wrap, IntKind.signed, IntKind.bits]; omega
  have w2 : IntKind.wrap .i64 (3 * (k : Int) + m) = ((3 * k + m : Nat) : Int) := by simp [IntKind.wrap, IntKind.signed, IntKind.bits]; omega
  clear hsp
  gi_enter Tryz.func41, Tryz.ntmps41
  gi_wp2_with (first
    | (gi_at_call 36; refine (Measured_any (sh k) m hm _).mono ?_; rintro e w2 ⟨rfl, hb2⟩
       have HB2 := Lib.hid ((HB1.out _).trans (hb2.mono (HB1.out _).size))
       clear hb2)
    | (gi_at_call 84; refine (Choice_any PA pn pc p (3 * k + m) _ hpc (by omega) (Lib.hid (hp.out.below HB2.out))).mono ?_; rintro e w3 ⟨rfl, rfl⟩)
    | (gi_at_call 83; refine (Pick_any _ _ _ _ sp0 sp1 sp2 hch.1 hch.2).mono ?_; rintro e w4 ⟨rfl, hb4⟩; have HB4 := Lib.hid (HB2.out.trans (hb4.mono HB2.out.size)); clear hb4))
  go_ret
  exact ⟨rfl, HB4.out⟩
end Go.Proofs.YtpdmgecbapmgdaaGreat
end
section
namespace Go.Proofs.YtpdmgecbapmgdaaGreat
open Go.RowKit
section
variable {F : Fence} {n : Nat} {P : Program} {ops : Array Oper} {Q : Exit → Act → World → Prop} {I : World → Prop} {z : Nat} {a0 : Act}
theorem wpIn_region_V (V : Nat → Value) {id : Nat} {w : World} (hm : P.follows .mixedOrders = true) (hb : backB .any ops = true) (hs : supB ops (fun j => match dstAt ops j with | some d => [d] | none => []) = true) (hd : a0.defers = []) (hz : a0.tmps.size = z) (hdst : ∀ j, j < ops.size → ∃ d, dstAt ops j = some d ∧ d < z)
    (h0 : I { w with drawn := w.drawn + 1 })
    (hJ : ∀ j a w, j < ops.size → a.defers = [] → a.tmps.size = z → (∀ s, (∀ j, j < ops.size → dstAt ops j ≠ some s) → a.eval (.tmp s) = a0.eval (.tmp s)) → (∀ k d, depB ops j k = true → k < ops.size → dstAt ops k = some d → a.eval (.tmp d) = V k) → I w →
      wpOpIn F n P ops Q j (fun a' w' => ∃ d, dstAt ops j = some d ∧ a'.defers = [] ∧ a'.tmps = a.tmps.setIfInBounds d (V j) ∧ I w') a w)
    (hE : ∀ a w, a.defers = [] → a.tmps.size = z → (∀ s, (∀ j, j < ops.size → dstAt ops j ≠ some s) → a.eval (.tmp s) = a0.eval (.tmp s)) → (∀ k d, k < ops.size → dstAt ops k = some d → a.eval (.tmp d) = V k) → I w → Q .normal a w) : (Code.region id ops true).wpIn F n P Q a0 w := by
  refine wpIn_region_F (sup := fun j => match dstAt ops j with | some d => [d] | none => []) (Ψ := fun j vs _ => vs = [V j]) (I := I) hm hb hs hd hz h0 (fun listed a w j hj hr => ?_) fun listed a w hj hall => ?_
  · have hjs : j < ops.size := by
      obtain ⟨_, o, h3, _⟩ := mem_ready.1 hr
      exact (Array.getElem?_eq_some_iff.1 h3).1
    refine wpOpIn_mono (fun a' w' h => ?_) (hJ j a w hjs hj.defers hj.size hj.old (fun k d hk hks hd => ?_) hj.inv)
    · obtain ⟨d, hd', e1, e2, hI⟩ := h
      obtain ⟨d', e3, hdz⟩ := hdst j hjs
      rw [hd'] at e3
      cases e3
      obtain rfl : a' = a.put (dstAt ops j) (V j) := by
        obtain ⟨t, df⟩ := a'
        simp only at e1 e2
        rw [e1, e2, hd']
        show _ = Act.mk _ _
        rw [hj.defers]
      refine ⟨⟨_, rfl⟩, hI, fun _ _ _ _ h => h, ?_⟩
      simp only [hd', vals, List.map_cons, List.map_nil]
      rw [Act.eval_put_same _ _ _ (by rw [hj.size]; exact hdz)]
    · have h1 := hj.fact k hks (dep hr hk)
      simpa [hd, vals] using h1
  · refine hE a w hj.defers hj.size hj.old (fun k d hk hd' => ?_) hj.inv
    have h1 := hall k hk
    simpa [hd', vals] using h1
end
def oldB (ops : Array Oper) (s : Nat) : Bool := (List.range ops.size).all fun j => !(dstAt ops j == some s)
theorem oldB_use {ops : Array Oper} {s : Nat} (h : oldB ops s = true) : ∀ j, j < ops.size → dstAt ops j ≠ some s := fun j hj e => by
  have h1 := List.all_eq_true.1 h j (List.mem_range.2 hj)
  simp [e] at h1
theorem at_slot {a : Act} {z d : Nat} {V : Value} (hz : a.tmps.size = z) (h : a.eval (.tmp d) = V) (hd : d < z) : a.tmps[d]'(by omega) = V := by
  rw [← h]
  simp [Act.eval, show d < a.tmps.size by omega]
section
variable {F : Fence} {n : Nat} {P : Program} {ops : Array Oper} {Q : Exit → Act → World → Prop} {I : World → Prop} {z : Nat} {a0 : Act}
def dstsB (ops : Array Oper) (D : List Nat) : Bool := decide (D.length = ops.size) && (List.range ops.size).all fun j => dstAt ops j == D[j]?
theorem fold_set (a : Act) : ∀ (l : List (Nat × Value)) (t : Array Value), t.size = a.tmps.size → (∀ x ∈ l, a.eval (.tmp x.1) = x.2) → (∀ s, (∀ x ∈ l, x.1 ≠ s) → t.getD s undef = a.eval (.tmp s)) → l.foldl (fun t x => t.setIfInBounds x.1 x.2) t = a.tmps
  | [], t, hz, _, h => by
    apply Array.ext hz
    intro i h1 h2
    have := h i (fun x hx => by cases hx)
    simpa [Act.eval, h1, h2] using this
  | x :: l, t, hz, hv, h => by
    rw [List.foldl_cons]
    refine fold_set a l _ (by simpa using hz) (fun y hy => hv y (List.mem_cons_of_mem _ hy)) fun s hs => ?_
    by_cases e : x.1 = s
    · subst e
      rw [hv x (List.mem_cons_self ..)]
      have hx := hv x (List.mem_cons_self ..)
      rcases Nat.lt_or_ge x.1 t.size with h1 | h1
      · simp [h1]
      · have h2 : a.eval (.tmp x.1) = undef := by simp [Act.eval, show ¬ x.1 < a.tmps.size by omega]
        rw [← hx, h2]
        simp [show ¬ x.1 < t.size by omega]
    · have h1 := h s fun y hy => by
        rcases List.mem_cons.1 hy with rfl | hy
        · exact e
        · exact hs y hy
      rw [← h1]
      simp [e]
theorem wpIn_region_D (D : List (Nat × Value)) {id : Nat} {w : World} (hm : P.follows .mixedOrders = true) (hb : backB .any ops = true) (hs : supB ops (fun j => match dstAt ops j with | some d => [d] | none => []) = true) (hD : dstsB ops (D.map (·.1)) = true) (hDz : (D.map (·.1)).all (fun d => decide (d < z)) = true) (hd : a0.defers = []) (hz : a0.tmps.size = z)
    (h0 : I { w with drawn := w.drawn + 1 })
    (hJ : ∀ j a w, j < ops.size → a.defers = [] → a.tmps.size = z → (∀ s, oldB ops s = true → a.eval (.tmp s) = a0.eval (.tmp s)) → (∀ k d v, depB ops j k = true → D[k]? = some (d, v) → a.eval (.tmp d) = v) → I w →
      wpOpIn F n P ops Q j (fun a' w' => ∃ d v, D[j]? = some (d, v) ∧ a'.defers = [] ∧ a'.tmps = a.tmps.setIfInBounds d v ∧ I w') a w)
    (hE : ∀ w, I w → Q .normal { tmps := D.foldl (fun t x => t.setIfInBounds x.1 x.2) a0.tmps, defers := [] } w) : (Code.region id ops true).wpIn F n P Q a0 w := by
  unfold dstsB at hD
  simp only [Bool.and_eq_true, decide_eq_true_eq] at hD
  obtain ⟨hlen, hdst⟩ := hD
  rw [List.length_map] at hlen
  have hat : ∀ j, j < ops.size → dstAt ops j = (D[j]?).map (·.1) := fun j hj => by
    have h1 := List.all_eq_true.1 hdst j (List.mem_range.2 hj)
    rw [List.getElem?_map] at h1
    simpa using h1
  have hin : ∀ j, j < ops.size → ∃ d v, D[j]? = some (d, v) ∧ dstAt ops j = some d ∧ d < z := fun j hj => by
    have hj' : j < D.length := by omega
    refine ⟨D[j].1, D[j].2, by simp [hj'], by rw [hat j hj]; simp [hj'], ?_⟩
    exact of_decide_eq_true (List.all_eq_true.1 hDz D[j].1 (List.mem_map.2 ⟨D[j], List.getElem_mem hj', rfl⟩))
  refine wpIn_region_V (V := fun j => ((D[j]?).map (·.2)).getD undef) (I := I) hm hb hs hd hz (fun j hj => by obtain ⟨d, v, _, h1, h2⟩ := hin j hj; exact ⟨d, h1, h2⟩) h0 (fun j a w hj hd hz hold hf hI => ?_) fun a w hd hz' hold hf hI => ?_
  · refine wpOpIn_mono (fun a' w' h => ?_) (hJ j a w hj hd hz (fun s hs => hold s (oldB_use hs)) (fun k d v hk e => ?_) hI)
    · obtain ⟨d, v, e, h1, h2, h3⟩ := h
      obtain ⟨d', v', e', h4, _⟩ := hin j hj
      rw [e] at e'
      cases e'
      exact ⟨d, h4, h1, by rw [h2, e]; rfl, h3⟩
    · have hk' : k < ops.size := by rw [← hlen]; exact (List.getElem?_eq_some_iff.1 e).1
      have := hf k d hk hk' (by rw [hat k hk', e]; rfl)
      rw [this, e]; rfl
  · have e : D.foldl (fun t x => t.setIfInBounds x.1 x.2) a0.tmps = a.tmps := by
      refine fold_set a D a0.tmps (by rw [hz, hz']) (fun x hx => ?_) fun s hs => ?_
      · obtain ⟨j, hj, rfl⟩ := List.mem_iff_getElem.1 hx
        have hj' : j < ops.size := by omega
        have := hf j D[j].1 hj' (by rw [hat j hj']; simp [hj])
        rw [this]; simp [hj]
      · refine (hold s fun j hj e => ?_).symm
        obtain ⟨d, v, e1, e2, _⟩ := hin j hj
        rw [e2] at e
        cases e
        exact hs _ (List.mem_iff_getElem?.2 ⟨j, e1⟩) rfl
    have h1 := hE w hI
    rw [e] at h1
    obtain ⟨t, df⟩ := a
    simp only at hd
    subst hd
    exact h1
end
end Go.Proofs.YtpdmgecbapmgdaaGreat
end
section
namespace Go.Proofs.YtpdmgecbapmgdaaGreat
open Go.RowKit
theorem box_cells {W w : World} {rs rl rw many : Int} {A : Option Addr} {n c : Nat} (h : Below (W.heap.size + 1) (W.alloc (.cells #[.int .i64 rs, .int .i64 rl, .int .i64 rw, .int .i64 many, .slice A n c] 26)) w) :
    w.cell? ⟨W.heap.size, 0, none⟩ = some (.int .i64 rs) ∧ w.cell? ⟨W.heap.size, 1, none⟩ = some (.int .i64 rl) ∧ w.cell? ⟨W.heap.size, 2, none⟩ = some (.int .i64 rw) ∧ w.cell? ⟨W.heap.size, 3, none⟩ = some (.int .i64 many) ∧ w.cell? ⟨W.heap.size, 4, none⟩ = some (.slice A n c) := by
  refine ⟨?_, ?_, ?_, ?_, ?_⟩ <;> (rw [h.cell (by simp)]; go_simp)
def SaysMatched (p : Prop) (w : World) (e : Ending) (w' : World) : Prop := ∃ b : Bool, e = .returned (.bool b) ∧ (b = true ↔ p) ∧ Below w.heap.size w w'
theorem matched_any (rs rl rw many : Int) (A : Option Addr) (n c : Nat) (sh : Nat → Shaft) (LA : Option Addr) (m lc : Nat) (l : Nat → Nat) (PA : Option Addr) (pn pc : Nat) (p : Nat → Int) (W : World) (hc : n ≤ c) (hpc : pn ≤ pc) (hm : m ≤ 9) (hmc : m ≤ lc)
    (hst : Hid (StockOk rs rl rw many n sh)) (hsh : Hid (ShaftsAt W A n sh)) (hl : Hid (∀ k, k < m → l k < n)) (hi : Hid (IntsAt W LA m fun k => (l k : Int))) (hp : Hid (PicksAt W PA pn p)) :
    CallsIn Fc 0 Tryz.prog 35 #[stockV rs rl rw many A n c, .slice LA m lc, .slice PA pn pc] W (SaysMatched (MatchedP rs rl rw (realZ sh pn p) l m) W) := by
  have hn := hst.out.count
  obtain ⟨B, hB⟩ : ∃ B : Obj, B = .cells #[.int .i64 rs, .int .i64 rl, .int .i64 rw, .int .i64 many, .slice A n c] 26 := ⟨_, rfl⟩
  gi_enter Tryz.func35, Tryz.ntmps35
  gi_wp2
  rw [← hB]
  gi_loopw [7] (fun v wr => ∃ x : Nat, x ≤ 3 ∧ v = .int .i64 x ∧ Below (W.heap.size + 1) (W.alloc B) wr ∧ ∀ y, y < x → ∀ i, i < m → ∀ k, k < m → realZ sh pn p (l i) y - realZ sh pn p (l k) y ≤ allowOf rs rl rw y) (fun v _ => 3 - (intOf v).toNat)
  case atStart => exact ⟨0, by omega, rfl, Below.refl _ _, fun y h => by omega⟩
  case round =>
    obtain ⟨x, hx, rfl, hb, hall⟩ := hrel
    have HB := Lib.hid hb
    have HALL := Lib.hid hall
    clear hb hall
    by_cases hlt : x < 3
    · gi_wp2
      gi_loopw [8] (fun v wr => ∃ i : Nat, i ≤ m ∧ v = .int .i64 i ∧ Below (W.heap.size + 1) (W.alloc B) wr ∧ ∀ t, t < i → ∀ k, k < m → realZ sh pn p (l t) x - realZ sh pn p (l k) x ≤ allowOf rs rl rw x) (fun v _ => m - (intOf v).toNat)
      case atStart => exact ⟨0, by omega, rfl, HB.out, fun t h => by omega⟩
      case round =>
        obtain ⟨i, hi', rfl, hb, hall⟩ := hrel
        have HB := Lib.hid hb
        have HROW := Lib.hid hall
        clear hb hall
        by_cases hli : i < m
        · gi_wp2
          gi_loopw [9] (fun v wr => ∃ k : Nat, k ≤ m ∧ v = .int .i64 k ∧ Below (W.heap.size + 1) (W.alloc B) wr ∧ ∀ t, t < k → realZ sh pn p (l i) x - realZ sh pn p (l t) x ≤ allowOf rs rl rw x) (fun v _ => m - (intOf v).toNat)
          case atStart => exact ⟨0, by omega, rfl, HB.out, fun t h => by omega⟩
          case round =>
            obtain ⟨k, hk', rfl, hb, hall⟩ := hrel
            have HB := Lib.hid hb
            have HCOL := Lib.hid hall
            clear hb hall
            by_cases hlk : k < m
            · obtain ⟨b, o, rfl, hci⟩ := hi.out i hli
              obtain ⟨b', o', e', hck⟩ := hi.out k hlk
              cases e'
              have hwr : ∀ i k, i < m → k < m → IntKind.wrap .i64 (realZ sh pn p (l i) x - realZ sh pn p (l k) x) = realZ sh pn p (l i) x - realZ sh pn p (l k) x := fun i k h1 h2 => by
                have a1 := (hst.out.each _ (hl.out i h1)).spans
                have a2 := (hst.out.each _ (hl.out k h2)).spans
                have b1 := pickZ_in (a1.up x hlt) (choice_le hp.out (3 * l i + x)).1
                have b2 := pickZ_in (a2.up x hlt) (choice_le hp.out (3 * l k + x)).1
                have c1 := a1.least x hlt
                have c2 := a1.most x hlt
                have c3 := a2.least x hlt
                have c4 := a2.most x hlt
                unfold realZ
                simp [IntKind.wrap, IntKind.signed, IntKind.bits]
                omega
              gi_wp2
              refine wpIn_region_D (D := [(26, stockV rs rl rw many A n c), (27, .slice (some ⟨b, o, none⟩) m lc), (28, .int .i64 i), (29, .pointer (some ⟨b, o + i, none⟩)), (30, .int .i64 (l i)), (31, .int .i64 x), (32, .slice PA pn pc), (33, .int .i64 (realZ sh pn p (l i) x)), (34, stockV rs rl rw many A n c), (35, .slice (some ⟨b, o, none⟩) m lc), (36, .int .i64 k), (37, .pointer (some ⟨b, o + k, none⟩)), (38, .int .i64 (l k)), (39, .int .i64 x), (40, .slice PA pn pc), (41, .int .i64 (realZ sh pn p (l k) x)), (42, .int .i64 (realZ sh pn p (l i) x - realZ sh pn p (l k) x)), (43, .pointer (some ⟨W.heap.size, 0, none⟩)), (44, .agg #[.int .i64 rs, .int .i64 rl, .int .i64 rw, .int .i64 many]), (45, .int .i64 x), (46, .int .i64 (allowOf rs rl rw x)), (47, .bool (decide (realZ sh pn p (l i) x - realZ sh pn p (l k) x > allowOf rs rl rw x)))])
                (I := fun w => Below (W.heap.size + 1) (W.alloc B) w) (z := 48) (by kernel_rfl) (by kernel_rfl) (by kernel_rfl) (by kernel_rfl) (by kernel_rfl) rfl rfl HB.out.drew ?_ ?_
              · intro j a w hj hd hz hold hf hI
                rw [hB] at hI
                obtain ⟨c0, c1, c2, c3, c4⟩ := box_cells hI
                have HIB : Hid (Below (W.heap.size + 1) (W.alloc B) w) := Lib.hid (by rw [hB]; exact hI)
                have HSZ : W.heap.size + 1 ≤ w.heap.size := by have := hI.size; simpa using this
                have hBW : Below W.heap.size W w := ((Below.refl W.heap.size W).alloc (Nat.le_refl _) _).trans (hI.mono (by omega))
                have d1 := Below.old hBW hci
                have d2 := Below.old hBW hck
                have HBW := Lib.hid hBW
                clear hI hBW
                have w16 : IntKind.wrap .i64 (realZ sh pn p (l i) x - realZ sh pn p (l k) x) = realZ sh pn p (l i) x - realZ sh pn p (l k) x := hwr i k hli hlk
                have s1 := at_slot hz (hold 1 (by kernel_rfl)) (by omega)
                have s2 := at_slot hz (hold 2 (by kernel_rfl)) (by omega)
                have s3 := at_slot hz (hold 3 (by kernel_rfl)) (by omega)
                have s7 := at_slot hz (hold 7 (by kernel_rfl)) (by omega)
                have s8 := at_slot hz (hold 8 (by kernel_rfl)) (by omega)
                have s9 := at_slot hz (hold 9 (by kernel_rfl)) (by omega)
                clear hold
                have hjs : j = 0 ∨ j = 1 ∨ j = 2 ∨ j = 3 ∨ j = 4 ∨ j = 5 ∨ j = 6 ∨ j = 7 ∨ j = 8 ∨ j = 9 ∨ j = 10 ∨ j = 11 ∨ j = 12 ∨ j = 13 ∨ j = 14 ∨ j = 15 ∨ j = 16 ∨ j = 17 ∨ j = 18 ∨ j = 19 ∨ j = 20 ∨ j = 21 := by have : j < 22 := hj; omega
                rcases hjs with rfl | rfl | rfl | rfl | rfl | rfl | rfl | rfl | rfl | rfl | rfl | rfl | rfl | rfl | rfl | rfl | rfl | rfl | rfl | rfl | rfl | rfl
                · refine wpOpIn_step rfl fun K hK => ?_
                  go_simp
                  exact hK _ _ ⟨_, _, rfl, rfl, rfl, HIB.out⟩
                · refine wpOpIn_step rfl fun K hK => ?_
                  go_simp
                  exact hK _ _ ⟨_, _, rfl, rfl, rfl, HIB.out⟩
                · refine wpOpIn_step rfl fun K hK => ?_
                  go_simp
                  exact hK _ _ ⟨_, _, rfl, rfl, rfl, HIB.out⟩
                · have f27 := at_slot hz (hf 1 27 _ (by kernel_rfl) rfl) (by omega)
                  have f28 := at_slot hz (hf 2 28 _ (by kernel_rfl) rfl) (by omega)
                  refine wpOpIn_step rfl fun K hK => ?_
                  go_simp
                  exact hK _ _ ⟨_, _, rfl, rfl, rfl, HIB.out⟩
                · have f29 := at_slot hz (hf 3 29 _ (by kernel_rfl) rfl) (by omega)
                  refine wpOpIn_step rfl fun K hK => ?_
                  go_simp
                  exact hK _ _ ⟨_, _, rfl, rfl, rfl, HIB.out⟩
                · refine wpOpIn_step rfl fun K hK => ?_
                  go_simp
                  exact hK _ _ ⟨_, _, rfl, rfl, rfl, HIB.out⟩
                · refine wpOpIn_step rfl fun K hK => ?_
                  go_simp
                  exact hK _ _ ⟨_, _, rfl, rfl, rfl, HIB.out⟩
                · have f26 := at_slot hz (hf 0 26 _ (by kernel_rfl) rfl) (by omega)
                  have f30 := at_slot hz (hf 4 30 _ (by kernel_rfl) rfl) (by omega)
                  have f31 := at_slot hz (hf 5 31 _ (by kernel_rfl) rfl) (by omega)
                  have f32 := at_slot hz (hf 6 32 _ (by kernel_rfl) rfl) (by omega)
                  refine wpOpIn_step rfl fun K hK => ?_
                  go_simp
                  refine (real_any rs rl rw many A n c (l i) x sh PA pn pc p _ (hl.out i hli) hc hlt hpc hst (Lib.hid (hsh.out.below HBW.out)) (Lib.hid (hp.out.below HBW.out))).mono ?_
                  rintro e w' ⟨rfl, hb'⟩
                  exact hK _ _ ⟨_, _, rfl, rfl, rfl, HIB.out.trans (hb'.mono HSZ)⟩
                · refine wpOpIn_step rfl fun K hK => ?_
                  go_simp
                  exact hK _ _ ⟨_, _, rfl, rfl, rfl, HIB.out⟩
                · refine wpOpIn_step rfl fun K hK => ?_
                  go_simp
                  exact hK _ _ ⟨_, _, rfl, rfl, rfl, HIB.out⟩
                · refine wpOpIn_step rfl fun K hK => ?_
                  go_simp
                  exact hK _ _ ⟨_, _, rfl, rfl, rfl, HIB.out⟩
                · have f35 := at_slot hz (hf 9 35 _ (by kernel_rfl) rfl) (by omega)
                  have f36 := at_slot hz (hf 10 36 _ (by kernel_rfl) rfl) (by omega)
                  refine wpOpIn_step rfl fun K hK => ?_
                  go_simp
                  exact hK _ _ ⟨_, _, rfl, rfl, rfl, HIB.out⟩
                · have f37 := at_slot hz (hf 11 37 _ (by kernel_rfl) rfl) (by omega)
                  refine wpOpIn_step rfl fun K hK => ?_
                  go_simp
                  exact hK _ _ ⟨_, _, rfl, rfl, rfl, HIB.out⟩
                · refine wpOpIn_step rfl fun K hK => ?_
                  go_simp
                  exact hK _ _ ⟨_, _, rfl, rfl, rfl, HIB.out⟩
                · refine wpOpIn_step rfl fun K hK => ?_
                  go_simp
                  exact hK _ _ ⟨_, _, rfl, rfl, rfl, HIB.out⟩
                · have f34 := at_slot hz (hf 8 34 _ (by kernel_rfl) rfl) (by omega)
                  have f38 := at_slot hz (hf 12 38 _ (by kernel_rfl) rfl) (by omega)
                  have f39 := at_slot hz (hf 13 39 _ (by kernel_rfl) rfl) (by omega)
                  have f40 := at_slot hz (hf 14 40 _ (by kernel_rfl) rfl) (by omega)
                  refine wpOpIn_step rfl fun K hK => ?_
                  go_simp
                  refine (real_any rs rl rw many A n c (l k) x sh PA pn pc p _ (hl.out k hlk) hc hlt hpc hst (Lib.hid (hsh.out.below HBW.out)) (Lib.hid (hp.out.below HBW.out))).mono ?_
                  rintro e w' ⟨rfl, hb'⟩
                  exact hK _ _ ⟨_, _, rfl, rfl, rfl, HIB.out.trans (hb'.mono HSZ)⟩
                · have f33 := at_slot hz (hf 7 33 _ (by kernel_rfl) rfl) (by omega)
                  have f41 := at_slot hz (hf 15 41 _ (by kernel_rfl) rfl) (by omega)
                  refine wpOpIn_step rfl fun K hK => ?_
                  go_simp
                  exact hK _ _ ⟨_, _, rfl, rfl, rfl, HIB.out⟩
                · refine wpOpIn_step rfl fun K hK => ?_
                  go_simp
                  exact hK _ _ ⟨_, _, rfl, rfl, rfl, HIB.out⟩
                · have f43 := at_slot hz (hf 17 43 _ (by kernel_rfl) rfl) (by omega)
                  refine wpOpIn_step rfl fun K hK => ?_
                  go_simp
                  exact hK _ _ ⟨_, _, rfl, rfl, rfl, HIB.out⟩
                · refine wpOpIn_step rfl fun K hK => ?_
                  go_simp
                  exact hK _ _ ⟨_, _, rfl, rfl, rfl, HIB.out⟩
                · have f44 := at_slot hz (hf 18 44 _ (by kernel_rfl) rfl) (by omega)
                  have f45 := at_slot hz (hf 19 45 _ (by kernel_rfl) rfl) (by omega)
                  refine wpOpIn_step rfl fun K hK => ?_
                  go_simp
                  refine (Allowed_any rs rl rw many x hlt _).mono ?_
                  rintro e w' ⟨rfl, hb'⟩
                  exact hK _ _ ⟨_, _, rfl, rfl, rfl, HIB.out.trans (hb'.mono HSZ)⟩
                · have f42 := at_slot hz (hf 16 42 _ (by kernel_rfl) rfl) (by omega)
                  have f46 := at_slot hz (hf 20 46 _ (by kernel_rfl) rfl) (by omega)
                  refine wpOpIn_step rfl fun K hK => ?_
                  go_simp
                  exact hK _ _ ⟨_, _, rfl, rfl, rfl, HIB.out⟩
              · intro w hI
                have HI := Lib.hid hI
                clear hI
                simp only [List.foldl_cons, List.foldl_nil, List.setIfInBounds_toArray, List.set_cons_succ, List.set_cons_zero]
                by_cases hgt : realZ sh pn p (l i) x - realZ sh pn p (l k) x > allowOf rs rl rw x
                · simp only [hgt, decide_true]
                  gi_wp2
                  go_ret
                  refine ⟨false, rfl, ⟨fun h => (by cases h), fun h => absurd (h x hlt i hli k hlk) (by omega)⟩, ?_⟩
                  exact ((Below.refl W.heap.size W).alloc (Nat.le_refl _) _).trans (HI.out.mono (by omega))
                · simp only [hgt, decide_false]
                  gi_wp2
                  go_roundw
                  case rel => exact ⟨k + 1, by omega, by go_num, (by first | exact HI.out | (rw [← hB]; exact HI.out)), fun t ht => by
                    rcases Nat.lt_succ_iff_lt_or_eq.1 ht with ht | rfl
                    · exact HCOL.out t ht
                    · omega⟩
                  case measure => simp [intOf]; omega
            · gi_wp2
              obtain rfl : k = m := by omega
              go_roundw
              case rel => exact ⟨i + 1, by omega, by go_num, HB.out, fun t ht => by
                rcases Nat.lt_succ_iff_lt_or_eq.1 ht with ht | rfl
                · exact HROW.out t ht
                · exact HCOL.out⟩
              case measure => simp [intOf]; omega
        · gi_wp2
          obtain rfl : i = m := by omega
          go_roundw
          case rel => exact ⟨x + 1, by omega, by go_num, HB.out, fun y hy => by
            rcases Nat.lt_succ_iff_lt_or_eq.1 hy with hy | rfl
            · exact HALL.out y hy
            · exact HROW.out⟩
          case measure => simp [intOf]; omega
    · gi_wp2
      obtain rfl : x = 3 := by omega
      go_ret
      exact ⟨true, rfl, ⟨fun _ => HALL.out, fun _ => rfl⟩, ((Below.refl W.heap.size W).alloc (Nat.le_refl _) _).trans (HB.out.mono (by omega))⟩
end Go.Proofs.YtpdmgecbapmgdaaGreat
end
section
namespace Go.Proofs.YtpdmgecbapmgdaaGreat
open Go.RowKit
theorem wrap_small (k : Nat) (h : k ≤ 100) : IntKind.wrap .i64 ((k : Int) + 1) = (k : Int) + 1 := by
  simp [IntKind.wrap, IntKind.signed, IntKind.bits]
  omega
theorem wpIn_cutR {F : Fence} {n : Nat} {P : Program} {c : Code} {Q : Exit → Act → World → Prop} {M : Act → World → Prop} {a : Act} {w : World} (h1 : c.wpIn F n P (fun e a w => match e with | .normal => M a w | _ => False) a w) (h2 : ∀ a' w', M a' w' → Q .normal a' w') : c.wpIn F n P Q a w := by
  intro b k cs hro hb hr
  obtain ⟨e, a', w', hp, harr⟩ := h1 b k cs hro hb hr
  cases e with
  | normal => exact ⟨.normal, a', w', h2 _ _ hp, harr⟩
  | _ => exact hp.elim
structure Ap where
  one : Nat
  two : Nat
  what : Nat
  sure : Int
def apV (x : Ap) : List Value := [.int .i64 x.one, .int .i64 x.two, .int .i64 x.what, .int .i64 x.sure]
def apVs (l : List Ap) : List Value := l.flatMap apV
section
variable (rs rl rw : Int) (sh : Nat → Shaft) (l : Nat → Nat)
def apCell (i k : Nat) : Nat → List Ap
  | 0 => []
  | w + 1 => apCell i k w ++ (if nearOf rs rl rw (sh (l i)) (sh (l k)) w = 1 then [] else [⟨l i, l k, w, nearOf rs rl rw (sh (l i)) (sh (l k)) w⟩])
def apRow (i : Nat) : Nat → List Ap
  | 0 => []
  | t + 1 => apRow i t ++ apCell rs rl rw sh l i (i + 1 + t) 3
def apAll (m : Nat) : Nat → List Ap
  | 0 => []
  | i + 1 => apAll m i ++ apRow rs rl rw sh l i (m - (i + 1))
end
theorem apCell_yes {rs rl rw : Int} {sh : Nat → Shaft} {l : Nat → Nat} {i k x : Nat} (h : nearOf rs rl rw (sh (l i)) (sh (l k)) x = 1) : apCell rs rl rw sh l i k (x + 1) = apCell rs rl rw sh l i k x := by
  simp [apCell, h]
theorem apCell_no {rs rl rw : Int} {sh : Nat → Shaft} {l : Nat → Nat} {i k x : Nat} (h : ¬ nearOf rs rl rw (sh (l i)) (sh (l k)) x = 1) : apCell rs rl rw sh l i k (x + 1) = apCell rs rl rw sh l i k x ++ [⟨l i, l k, x, nearOf rs rl rw (sh (l i)) (sh (l k)) x⟩] := by
  simp [apCell, h]
theorem ap_snoc (L M : List Ap) (x : Ap) : apVs (L ++ (M ++ [x])) = apVs (L ++ M) ++ apV x := by simp [apVs]
theorem ap_snoc_len (L M : List Ap) (x : Ap) : (L ++ (M ++ [x])).length = (L ++ M).length + 1 := by simp; omega
theorem cells_new (w : World) (cs : List Value) (e : TypeId) : ∀ (j : Nat) (u : Value), cs[j]? = some u → (w.alloc (.cells cs.toArray e)).cell? (Addr.add ⟨w.heap.size, 0, none⟩ j) = some u := by
  intro j u h
  have e1 : Addr.add ⟨w.heap.size, 0, none⟩ j = ⟨w.heap.size, j, none⟩ := by unfold Addr.add; split <;> simp_all
  rw [e1]
  simp [h]
section
variable (rs rl rw : Int) (sh : Nat → Shaft) (l : Nat → Nat)
theorem apCell_len (i k : Nat) : ∀ x, (apCell rs rl rw sh l i k x).length ≤ x
  | 0 => by simp [apCell]
  | x + 1 => by
    have := apCell_len i k x
    simp only [apCell, List.length_append]
    split <;> simp <;> omega
theorem apRow_len (i : Nat) : ∀ t, (apRow rs rl rw sh l i t).length ≤ 3 * t
  | 0 => by simp [apRow]
  | t + 1 => by
    have h1 := apRow_len i t
    have h2 := apCell_len rs rl rw sh l i (i + 1 + t) 3
    simp only [apRow, List.length_append]
    omega
theorem apAll_len {m : Nat} (hm : m ≤ 9) : ∀ i, (apAll rs rl rw sh l m i).length ≤ 27 * i
  | 0 => by simp [apAll]
  | i + 1 => by
    have h1 := apAll_len hm i
    have h2 := apRow_len rs rl rw sh l i (m - (i + 1))
    simp only [apAll, List.length_append]
    omega
theorem ap_len2 {m i t x : Nat} (hm : m ≤ 9) (hi : i ≤ m) (ht : t ≤ 9) (hx : x ≤ 3) : (apAll rs rl rw sh l m i ++ apRow rs rl rw sh l i t ++ apCell rs rl rw sh l i (i + 1 + t) x).length ≤ 300 := by
  have h1 := apAll_len rs rl rw sh l hm i
  have h2 := apRow_len rs rl rw sh l i t
  have h3 := apCell_len rs rl rw sh l i (i + 1 + t) x
  simp only [List.length_append]
  omega
theorem ap_len {m i t x : Nat} (hm : m ≤ 9) (hi : i ≤ m) (ht : t ≤ 9) (hx : x ≤ 3) : (apAll rs rl rw sh l m i ++ apRow rs rl rw sh l i t ++ apCell rs rl rw sh l i (i + 1 + t) x).length + 1 ≤ maxLen := by
  have := ap_len2 rs rl rw sh l hm hi ht hx
  simp only [maxLen]
  omega
end
def HandsApart (L : List Ap) (W : World) (e : Ending) (w' : World) : Prop := ∃ (sl : Value) (base : Nat), e = .returned (.tuple #[sl, .int .i64 0]) ∧ w'.ownsRow base 62 4 sl L.length (apVs L) ∧ W.heap.size ≤ base ∧ Below W.heap.size W w'
theorem ut35 : Tryz.prog.underlying 35 = some (.slice 62) := by kernel_rfl
theorem it62 : (Tryz.prog.info? 62).map (fun i => (i.zero, i.size, i.bytes)) = some (some (.agg #[.int .i64 0, .int .i64 0, .int .i64 0, .int .i64 0]), 4, 32) := by kernel_rfl
theorem Apart_any (rs rl rw many : Int) (A : Option Addr) (n c : Nat) (sh : Nat → Shaft) (LA : Option Addr) (m lc : Nat) (l : Nat → Nat) (W : World) (hc : n ≤ c) (hst : Hid (StockOk rs rl rw many n sh)) (hsh : Hid (ShaftsAt W A n sh))
    (hm : m ≤ 9) (hmc : m ≤ lc) (hl : Hid (∀ k, k < m → l k < n)) (hasc : Hid (∀ j k, j < k → k < m → l j < l k)) (hi : Hid (IntsAt W LA m fun k => (l k : Int))) :
    CallsIn Fc 0 Tryz.prog 19 #[stockV rs rl rw many A n c, .slice LA m lc] W (HandsApart (apAll rs rl rw sh l m m) W) := by
  obtain ⟨i0, hi0, hz0, hz1, hz2⟩ := info_parts it62
  have HI0 := Lib.hid hi0
  have HZ0 := Lib.hid hz0
  have HZ1 := Lib.hid hz1
  have HZ2 := Lib.hid hz2
  clear hi0 hz0 hz1 hz2
  have hn := hst.out.count
  have hB2 : ∀ x y, Below W.heap.size W (((W.alloc x).alloc y).drew) := fun x y => (((Below.refl _ _).alloc (Nat.le_refl _) _).alloc (by simp) _).drew
  have HB2 := Lib.hid hB2
  have hlo : ListOk (fun k => (l k : Int)) m n := ⟨fun k hk => ⟨Int.natCast_nonneg _, Int.ofNat_lt.2 (hl.out k hk)⟩, fun k hk => Int.ofNat_lt.2 (hasc.out k (k + 1) (by omega) hk)⟩
  have HLO := Lib.hid hlo
  clear hB2 hlo
  gi_enter Tryz.func19, Tryz.ntmps19
  gi_wp2
  refine wpIn_cutR (M := fun a w => ∃ x18 x19 x20 x21 x22 x23 x24 : Value, a = { tmps := #[stockV rs rl rw many A n c, .slice LA m lc, .pointer (some ⟨W.heap.size, 0, none⟩), undef, .slice none 0 0, .int .i64 0, .pointer (some ⟨W.heap.size + 1, 0, none⟩), .int .i64 0, undef, undef, undef, undef, undef, undef, undef, undef, stockV rs rl rw many A n c, stockV rs rl rw many A n c, x18, x19, x20, x21, x22, x23, x24, undef, undef, undef, undef, undef, undef, undef, undef, undef, undef, undef, undef, undef, undef, undef, undef, undef, undef, undef, undef, undef, undef, undef, undef, undef, undef, undef, undef, undef, undef, undef, undef, undef, undef, undef, undef, undef, undef, undef, undef, undef, undef, undef, undef, undef], defers := [] } ∧ Below W.heap.size W w ∧ w.cell? ⟨W.heap.size + 1, 0, none⟩ = some (.int .i64 rs) ∧ w.cell? ⟨W.heap.size + 1, 1, none⟩ = some (.int .i64 rl) ∧ w.cell? ⟨W.heap.size + 1, 2, none⟩ = some (.int .i64 rw) ∧ w.cell? ⟨W.heap.size + 1, 3, none⟩ = some (.int .i64 many) ∧ w.cell? ⟨W.heap.size + 1, 4, none⟩ = some (.slice A n c)) ?_ ?_
  · gi_region_with (first
      | (gi_at_call 57; refine (hasList_any LA m lc rs rl rw many A n c _).mono ?_; rintro e w5 ⟨lp, sp, rfl, hbox, hb5⟩
         have e0 : w5.cell? ⟨W.heap.size + 1, 0, none⟩ = some (.int .i64 rs) := Below.old hb5 (by go_simp)
         have e1 : w5.cell? ⟨W.heap.size + 1, 1, none⟩ = some (.int .i64 rl) := Below.old hb5 (by go_simp)
         have e2 : w5.cell? ⟨W.heap.size + 1, 2, none⟩ = some (.int .i64 rw) := Below.old hb5 (by go_simp)
         have e3 : w5.cell? ⟨W.heap.size + 1, 3, none⟩ = some (.int .i64 many) := Below.old hb5 (by go_simp)
         have e4 : w5.cell? ⟨W.heap.size + 1, 4, none⟩ = some (.slice A n c) := Below.old hb5 (by go_simp)
         have HBX := Lib.hid hbox
         have HB5 := Lib.hid ((HB2.out _ _).trans (hb5.mono (HB2.out _ _).size))
         clear hbox hb5)
      | (gi_at_call 55
         refine (firstFoul_ok _ 2 _ _ (by omega) (Lib.hid fun u hu => by
           have h2 : u = 0 ∨ u = 1 := by omega
           rcases h2 with rfl | rfl
           · exact ⟨.func (.func 56) #[stockV rs rl rw many A n c] #[], by go_simp, .inl ⟨56, _, by simp, rfl, fun w' hb => check_ok rs rl rw many A n c sh w' hc hst (Lib.hid ((hsh.out.below (HB5.out.alloc HB5.out.size _)).below hb))⟩⟩
           · exact ⟨.func (.func 99) #[] #[ptr lp, ptr sp], by go_simp, .inr (.inr ⟨lp, sp, rfl, fun w' hb => hasList1_ok lp sp LA m lc _ rs rl rw many A n c w' hn (by omega) (Lib.hid (HBX.out.below (((Below.refl _ _).alloc (Nat.le_refl _) _).trans (hb.mono (by simp))))) HLO (Lib.hid ((hi.out.below (HB5.out.alloc HB5.out.size _)).below hb))⟩)⟩)).mono ?_
         rintro e w6 ⟨rfl, hb6⟩
         have f0 := Below.old hb6 (Below.old ((Below.refl _ _).alloc (Nat.le_refl _) _) e0)
         have f1 := Below.old hb6 (Below.old ((Below.refl _ _).alloc (Nat.le_refl _) _) e1)
         have f2 := Below.old hb6 (Below.old ((Below.refl _ _).alloc (Nat.le_refl _) _) e2)
         have f3 := Below.old hb6 (Below.old ((Below.refl _ _).alloc (Nat.le_refl _) _) e3)
         have f4 := Below.old hb6 (Below.old ((Below.refl _ _).alloc (Nat.le_refl _) _) e4)
         have HB6 := Lib.hid ((HB5.out.alloc HB5.out.size _).trans (hb6.mono (HB5.out.alloc HB5.out.size _).size))
         clear hb6 e0 e1 e2 e3 e4))
    all_goals exact ⟨_, _, _, _, _, _, _, rfl, HB6.out, f0, f1, f2, f3, f4⟩
  · rintro a w6 ⟨x18, x19, x20, x21, x22, x23, x24, rfl, hb6, f0, f1, f2, f3, f4⟩
    have HB6 := Lib.hid hb6
    clear hb6
    gi_wp2
    gi_loopw [8, 30] (fun sl iv wr => ∃ i : Nat, i ≤ m ∧ iv = .int .i64 i ∧ wr.ownsRow w6.heap.size 62 4 sl (apAll rs rl rw sh l m i).length (apVs (apAll rs rl rw sh l m i)) ∧ Below w6.heap.size w6 wr) (fun _ iv _ => m - (intOf iv).toNat)
    case atStart => exact ⟨0, by omega, rfl, ⟨rfl, .inl ⟨rfl, rfl⟩⟩, Below.refl _ _⟩
    case round =>
      obtain ⟨i, hi', rfl, hown, hb⟩ := hrel
      have HO := Lib.hid hown
      have HB := Lib.hid hb
      clear hown hb
      by_cases hli : i < m
      · obtain ⟨b0, o0, rfl, hci⟩ := hi.out i hli
        have hci := Below.old HB6.out hci
        have hci := Below.old HB.out hci
        have hi9 : i < 9 := by omega
        have hw := wrap_small i (by omega)
        have hs1 : i + 1 ≤ lc := by omega
        have hs2 : (i : Int) + 1 ≤ lc := by omega
        have hs3 : (0 : Int) ≤ (i : Int) + 1 := by omega
        have hs4 : (i : Int) + 1 ≤ m := by omega
        have hs5 : i + 1 ≤ m := by omega
        gi_wp2
        case inl =>
          have hz : m - (i + 1) = 0 := by omega
          gi_loopw [8, 40] (fun sl kv wr => ∃ t : Nat, t ≤ m - (i + 1) ∧ kv = .int .i64 t ∧ wr.ownsRow w6.heap.size 62 4 sl (apAll rs rl rw sh l m i ++ apRow rs rl rw sh l i t).length (apVs (apAll rs rl rw sh l m i ++ apRow rs rl rw sh l i t)) ∧ Below w6.heap.size w6 wr) (fun _ kv _ => (m - (i + 1)) - (intOf kv).toNat)
          case atStart => exact ⟨0, by omega, rfl, by simpa [apRow] using HO.out, HB.out⟩
          case round =>
            obtain ⟨t, ht, rfl, hown, hb⟩ := hrel
            have HO := Lib.hid hown
            have HB := Lib.hid hb
            clear hown hb
            obtain rfl : t = 0 := by omega
            gi_wp2
            go_roundw
            case rel =>
              have hlc : lc = i + 1 := by omega
              rw [hlc]
              refine ⟨_, _, _, _, _, _, _, _, _, _, _, _, _, _, _, _, _, _, _, _, _, _, _, _, _, _, _, _, _, _, _, _, _, _, _, _, _, _, _, _, _, _, _, _, _, _, ⟨i + 1, by omega, by go_num, by simpa [apAll, apRow, hz] using HO.out, HB.out⟩, rfl⟩
            case measure => simp [intOf]; omega
        case inr =>
          gi_loopw [8, 40] (fun sl kv wr => ∃ t : Nat, t ≤ m - (i + 1) ∧ kv = .int .i64 t ∧ wr.ownsRow w6.heap.size 62 4 sl (apAll rs rl rw sh l m i ++ apRow rs rl rw sh l i t).length (apVs (apAll rs rl rw sh l m i ++ apRow rs rl rw sh l i t)) ∧ Below w6.heap.size w6 wr) (fun _ kv _ => (m - (i + 1)) - (intOf kv).toNat)
          case atStart => exact ⟨0, by omega, rfl, by simpa [apRow] using HO.out, HB.out⟩
          case round =>
            obtain ⟨t, ht, rfl, hown, hb⟩ := hrel
            have HO := Lib.hid hown
            have HB := Lib.hid hb
            clear hown hb
            by_cases hlt : t < m - (i + 1)
            · obtain ⟨b0', o0', e', hck⟩ := hi.out (i + 1 + t) (by omega)
              cases e'
              have hck := Below.old HB6.out hck
              have hck := Below.old HB.out hck
              rw [← Nat.add_assoc] at hck
              gi_wp2_with (gi_at_call 65; refine (measures_any _).mono ?_; rintro e w' ⟨rfl, rfl⟩)
              rename World => wo
              have hsz6 := HB.out.size
              gi_loopw [8, 46] (fun sl xv wi => ∃ x : Nat, x ≤ 3 ∧ xv = .int .i64 x ∧ wi.ownsRow w6.heap.size 62 4 sl (apAll rs rl rw sh l m i ++ apRow rs rl rw sh l i t ++ apCell rs rl rw sh l i (i + 1 + t) x).length (apVs (apAll rs rl rw sh l m i ++ apRow rs rl rw sh l i t ++ apCell rs rl rw sh l i (i + 1 + t) x)) ∧ Below w6.heap.size w6 wi ∧ wi.heap[wo.heap.size]? = some (.cells measuresV 119 (0, 0))) (fun _ xv _ => 3 - (intOf xv).toNat)
              case atStart => exact ⟨0, by omega, rfl, by simpa [apCell] using HO.out.alloc _, HB.out.alloc (by omega) _, heap_new _ _⟩
              case round =>
                obtain ⟨x, hx, rfl, hown, hb, hmv⟩ := hrel
                have m0 : wr.cell? ⟨wo.heap.size, 0, none⟩ = some (.func (.func 105) #[] #[]) := by simp [World.cell?, hmv, measuresV]
                have m1 : wr.cell? ⟨wo.heap.size, 1, none⟩ = some (.func (.func 106) #[] #[]) := by simp [World.cell?, hmv, measuresV]
                have m2 : wr.cell? ⟨wo.heap.size, 2, none⟩ = some (.func (.func 107) #[] #[]) := by simp [World.cell?, hmv, measuresV]
                have m3 : wr.cell? ⟨wo.heap.size, 3, none⟩ = some (.func (.func 108) #[] #[]) := by simp [World.cell?, hmv, measuresV]
                have m4 : wr.cell? ⟨wo.heap.size, 4, none⟩ = some (.func (.func 109) #[] #[]) := by simp [World.cell?, hmv, measuresV]
                have m5 : wr.cell? ⟨wo.heap.size, 5, none⟩ = some (.func (.func 110) #[] #[]) := by simp [World.cell?, hmv, measuresV]
                have HMV := Lib.hid hmv
                have HO := Lib.hid hown
                have HB := Lib.hid hb
                have g0 := Below.old hb f0
                have g1 := Below.old hb f1
                have g2 := Below.old hb f2
                have g3 := Below.old hb f3
                have g4 := Below.old hb f4
                have hz1 : W.heap.size + 1 < wr.heap.size := World.block_lt_of_cell? _ _ g0
                have hz2 : wo.heap.size < wr.heap.size := World.block_lt_of_cell? _ _ m0
                clear hown hb hmv
                by_cases hlx : x < 3
                · obtain ⟨b1, o1, rfl, _⟩ := hsh.out (l i) (hl.out i hli)
                  have HS := Lib.hid (hsh.out.below (HB6.out.trans (HB.out.mono HB6.out.size)))
                  have h3 : x = 0 ∨ x = 1 ∨ x = 2 := by omega
                  rcases h3 with rfl | rfl | rfl
                  · by_cases hy : nearOf rs rl rw (sh (l i)) (sh (l (i + 1 + t))) 0 = 1
                    · gi_wp2_with (gi_at_call 66; refine (near_any0 rs rl rw many b1 o1 n c (l i) (l (i + 1 + t)) sh _ (hl.out i hli) (hl.out (i + 1 + t) (by omega)) hn hst (Lib.hid (HS.out.below ((Below.refl _ _).alloc (Nat.le_refl _) _)))).mono ?_; rintro e w9 ⟨rfl, hb9⟩; rw [show nearZ (allowOf rs rl rw 0) (spanA (sh (l i)) 0) (spanB (sh (l i)) 0) (spanA (sh (l (i + 1 + t))) 0) (spanB (sh (l (i + 1 + t))) 0) = 1 from hy])
                      go_roundw
                      case rel =>
                        refine ⟨0 + 1, by omega, by first | rfl | go_num, ?_, (HB.out.alloc (by omega) _).trans (hb9.mono (by simp; omega)), ?_⟩
                        · have h := own_below (HO.out.alloc _) hb9
                          rw [apCell_yes hy]
                          exact h
                        · rw [hb9.block _ (by simp; omega), heap_alloc_old _ _ hz2]
                          exact HMV.out
                      case measure => simp [intOf]
                    · have hy' : ¬ nearZ (allowOf rs rl rw 0) (spanA (sh (l i)) 0) (spanB (sh (l i)) 0) (spanA (sh (l (i + 1 + t))) 0) (spanB (sh (l (i + 1 + t))) 0) = 1 := hy
                      gi_wp2_with (first
                        | (gi_at_call 66; refine (near_any0 rs rl rw many b1 o1 n c (l i) (l (i + 1 + t)) sh _ (hl.out i hli) (hl.out (i + 1 + t) (by omega)) hn hst (Lib.hid (HS.out.below ((Below.refl _ _).alloc (Nat.le_refl _) _)))).mono ?_; rintro e w9 ⟨rfl, hb9⟩; have HO9 := Lib.hid (own_below (HO.out.alloc _) hb9); have HB9 := Lib.hid ((HB.out.alloc (by omega) _).trans (hb9.mono (by simp; omega))); have HM9 : Hid (w9.heap[wo.heap.size]? = some (.cells measuresV 119 (0, 0))) := Lib.hid (by rw [hb9.block _ (by simp; omega), heap_alloc_old _ _ hz2]; exact HMV.out); clear hb9)
                        | (gi_at_builtin; refine wpListIn_append_own _ rfl _ _ 35 rfl w6.heap.size 62 i0 (.agg #[.int .i64 0, .int .i64 0, .int .i64 0, .int .i64 0]) 4 32 ut35 HI0.out HZ0.out HZ1.out HZ2.out rfl (by decide) _ _ _ rfl (HO9.out.alloc _) ⟨w9.heap.size, 0, none⟩ 1 1 (apV ⟨l i, l (i + 1 + t), 0, nearZ (allowOf rs rl rw 0) (spanA (sh (l i)) 0) (spanB (sh (l i)) 0) (spanA (sh (l (i + 1 + t))) 0) (spanB (sh (l (i + 1 + t))) 0)⟩) rfl rfl (cells_new _ _ _) (by simp [apV, Value.oneCell']) (ap_len rs rl rw sh l hm hi' (by omega) (by omega)) (by have := ap_len2 rs rl rw sh l hm hi' (t := t) (x := 0) (by omega) (by omega); omega) (by have := HB9.out.size; simp; omega) ?_; intro v' w4 hown4 hg4 hnil4))
                      go_roundw
                      case rel =>
                        have hx4 := HO9.out.alloc (.cells #[.int .i64 (l i), .int .i64 (l (i + 1 + t)), .int .i64 0, .int .i64 (nearZ (allowOf rs rl rw 0) (spanA (sh (l i)) 0) (spanB (sh (l i)) 0) (spanA (sh (l (i + 1 + t))) 0) (spanB (sh (l (i + 1 + t))) 0))] 62)
                        refine ⟨0 + 1, by omega, by first | rfl | go_num, ?_, (HB9.out.alloc HB9.out.size _).grown hg4 (by have := HB9.out.size; simp; omega) (fun g hg => (hx4.lt g hg).1), ?_⟩
                        · rw [apCell_no hy, ap_snoc_len, ap_snoc]
                          exact hown4
                        · have hz9 : wo.heap.size < w9.heap.size := (Array.getElem?_eq_some_iff.1 HM9.out).1
                          rw [hg4.block _ (by simp; omega) (fun e => by
                            obtain ⟨c', t', fz', h1, h2⟩ := own_elem hx4 _ e.symm
                            rw [heap_alloc_old _ _ hz9, HM9.out] at h1
                            cases h1
                            cases h2), heap_alloc_old _ _ hz9]
                          exact HM9.out
                      case measure => simp [intOf]
                  · by_cases hy : nearOf rs rl rw (sh (l i)) (sh (l (i + 1 + t))) 1 = 1
                    · gi_wp2_with (gi_at_call 66; refine (near_any1 rs rl rw many b1 o1 n c (l i) (l (i + 1 + t)) sh _ (hl.out i hli) (hl.out (i + 1 + t) (by omega)) hn hst (Lib.hid (HS.out.below ((Below.refl _ _).alloc (Nat.le_refl _) _)))).mono ?_; rintro e w9 ⟨rfl, hb9⟩; rw [show nearZ (allowOf rs rl rw 1) (spanA (sh (l i)) 1) (spanB (sh (l i)) 1) (spanA (sh (l (i + 1 + t))) 1) (spanB (sh (l (i + 1 + t))) 1) = 1 from hy])
                      go_roundw
                      case rel =>
                        refine ⟨1 + 1, by omega, by first | rfl | go_num, ?_, (HB.out.alloc (by omega) _).trans (hb9.mono (by simp; omega)), ?_⟩
                        · have h := own_below (HO.out.alloc _) hb9
                          rw [apCell_yes hy]
                          exact h
                        · rw [hb9.block _ (by simp; omega), heap_alloc_old _ _ hz2]
                          exact HMV.out
                      case measure => simp [intOf]
                    · have hy' : ¬ nearZ (allowOf rs rl rw 1) (spanA (sh (l i)) 1) (spanB (sh (l i)) 1) (spanA (sh (l (i + 1 + t))) 1) (spanB (sh (l (i + 1 + t))) 1) = 1 := hy
                      gi_wp2_with (first
                        | (gi_at_call 66; refine (near_any1 rs rl rw many b1 o1 n c (l i) (l (i + 1 + t)) sh _ (hl.out i hli) (hl.out (i + 1 + t) (by omega)) hn hst (Lib.hid (HS.out.below ((Below.refl _ _).alloc (Nat.le_refl _) _)))).mono ?_; rintro e w9 ⟨rfl, hb9⟩; have HO9 := Lib.hid (own_below (HO.out.alloc _) hb9); have HB9 := Lib.hid ((HB.out.alloc (by omega) _).trans (hb9.mono (by simp; omega))); have HM9 : Hid (w9.heap[wo.heap.size]? = some (.cells measuresV 119 (0, 0))) := Lib.hid (by rw [hb9.block _ (by simp; omega), heap_alloc_old _ _ hz2]; exact HMV.out); clear hb9)
                        | (gi_at_builtin; refine wpListIn_append_own _ rfl _ _ 35 rfl w6.heap.size 62 i0 (.agg #[.int .i64 0, .int .i64 0, .int .i64 0, .int .i64 0]) 4 32 ut35 HI0.out HZ0.out HZ1.out HZ2.out rfl (by decide) _ _ _ rfl (HO9.out.alloc _) ⟨w9.heap.size, 0, none⟩ 1 1 (apV ⟨l i, l (i + 1 + t), 1, nearZ (allowOf rs rl rw 1) (spanA (sh (l i)) 1) (spanB (sh (l i)) 1) (spanA (sh (l (i + 1 + t))) 1) (spanB (sh (l (i + 1 + t))) 1)⟩) rfl rfl (cells_new _ _ _) (by simp [apV, Value.oneCell']) (ap_len rs rl rw sh l hm hi' (by omega) (by omega)) (by have := ap_len2 rs rl rw sh l hm hi' (t := t) (x := 1) (by omega) (by omega); omega) (by have := HB9.out.size; simp; omega) ?_; intro v' w4 hown4 hg4 hnil4))
                      go_roundw
                      case rel =>
                        have hx4 := HO9.out.alloc (.cells #[.int .i64 (l i), .int .i64 (l (i + 1 + t)), .int .i64 1, .int .i64 (nearZ (allowOf rs rl rw 1) (spanA (sh (l i)) 1) (spanB (sh (l i)) 1) (spanA (sh (l (i + 1 + t))) 1) (spanB (sh (l (i + 1 + t))) 1))] 62)
                        refine ⟨1 + 1, by omega, by first | rfl | go_num, ?_, (HB9.out.alloc HB9.out.size _).grown hg4 (by have := HB9.out.size; simp; omega) (fun g hg => (hx4.lt g hg).1), ?_⟩
                        · rw [apCell_no hy, ap_snoc_len, ap_snoc]
                          exact hown4
                        · have hz9 : wo.heap.size < w9.heap.size := (Array.getElem?_eq_some_iff.1 HM9.out).1
                          rw [hg4.block _ (by simp; omega) (fun e => by
                            obtain ⟨c', t', fz', h1, h2⟩ := own_elem hx4 _ e.symm
                            rw [heap_alloc_old _ _ hz9, HM9.out] at h1
                            cases h1
                            cases h2), heap_alloc_old _ _ hz9]
                          exact HM9.out
                      case measure => simp [intOf]
                  · by_cases hy : nearOf rs rl rw (sh (l i)) (sh (l (i + 1 + t))) 2 = 1
                    · gi_wp2_with (gi_at_call 66; refine (near_any2 rs rl rw many b1 o1 n c (l i) (l (i + 1 + t)) sh _ (hl.out i hli) (hl.out (i + 1 + t) (by omega)) hn hst (Lib.hid (HS.out.below ((Below.refl _ _).alloc (Nat.le_refl _) _)))).mono ?_; rintro e w9 ⟨rfl, hb9⟩; rw [show nearZ (allowOf rs rl rw 2) (spanA (sh (l i)) 2) (spanB (sh (l i)) 2) (spanA (sh (l (i + 1 + t))) 2) (spanB (sh (l (i + 1 + t))) 2) = 1 from hy])
                      go_roundw
                      case rel =>
                        refine ⟨2 + 1, by omega, by first | rfl | go_num, ?_, (HB.out.alloc (by omega) _).trans (hb9.mono (by simp; omega)), ?_⟩
                        · have h := own_below (HO.out.alloc _) hb9
                          rw [apCell_yes hy]
                          exact h
                        · rw [hb9.block _ (by simp; omega), heap_alloc_old _ _ hz2]
                          exact HMV.out
                      case measure => simp [intOf]
                    · have hy' : ¬ nearZ (allowOf rs rl rw 2) (spanA (sh (l i)) 2) (spanB (sh (l i)) 2) (spanA (sh (l (i + 1 + t))) 2) (spanB (sh (l (i + 1 + t))) 2) = 1 := hy
                      gi_wp2_with (first
                        | (gi_at_call 66; refine (near_any2 rs rl rw many b1 o1 n c (l i) (l (i + 1 + t)) sh _ (hl.out i hli) (hl.out (i + 1 + t) (by omega)) hn hst (Lib.hid (HS.out.below ((Below.refl _ _).alloc (Nat.le_refl _) _)))).mono ?_; rintro e w9 ⟨rfl, hb9⟩; have HO9 := Lib.hid (own_below (HO.out.alloc _) hb9); have HB9 := Lib.hid ((HB.out.alloc (by omega) _).trans (hb9.mono (by simp; omega))); have HM9 : Hid (w9.heap[wo.heap.size]? = some (.cells measuresV 119 (0, 0))) := Lib.hid (by rw [hb9.block _ (by simp; omega), heap_alloc_old _ _ hz2]; exact HMV.out); clear hb9)
                        | (gi_at_builtin; refine wpListIn_append_own _ rfl _ _ 35 rfl w6.heap.size 62 i0 (.agg #[.int .i64 0, .int .i64 0, .int .i64 0, .int .i64 0]) 4 32 ut35 HI0.out HZ0.out HZ1.out HZ2.out rfl (by decide) _ _ _ rfl (HO9.out.alloc _) ⟨w9.heap.size, 0, none⟩ 1 1 (apV ⟨l i, l (i + 1 + t), 2, nearZ (allowOf rs rl rw 2) (spanA (sh (l i)) 2) (spanB (sh (l i)) 2) (spanA (sh (l (i + 1 + t))) 2) (spanB (sh (l (i + 1 + t))) 2)⟩) rfl rfl (cells_new _ _ _) (by simp [apV, Value.oneCell']) (ap_len rs rl rw sh l hm hi' (by omega) (by omega)) (by have := ap_len2 rs rl rw sh l hm hi' (t := t) (x := 2) (by omega) (by omega); omega) (by have := HB9.out.size; simp; omega) ?_; intro v' w4 hown4 hg4 hnil4))
                      go_roundw
                      case rel =>
                        have hx4 := HO9.out.alloc (.cells #[.int .i64 (l i), .int .i64 (l (i + 1 + t)), .int .i64 2, .int .i64 (nearZ (allowOf rs rl rw 2) (spanA (sh (l i)) 2) (spanB (sh (l i)) 2) (spanA (sh (l (i + 1 + t))) 2) (spanB (sh (l (i + 1 + t))) 2))] 62)
                        refine ⟨2 + 1, by omega, by first | rfl | go_num, ?_, (HB9.out.alloc HB9.out.size _).grown hg4 (by have := HB9.out.size; simp; omega) (fun g hg => (hx4.lt g hg).1), ?_⟩
                        · rw [apCell_no hy, ap_snoc_len, ap_snoc]
                          exact hown4
                        · have hz9 : wo.heap.size < w9.heap.size := (Array.getElem?_eq_some_iff.1 HM9.out).1
                          rw [hg4.block _ (by simp; omega) (fun e => by
                            obtain ⟨c', t', fz', h1, h2⟩ := own_elem hx4 _ e.symm
                            rw [heap_alloc_old _ _ hz9, HM9.out] at h1
                            cases h1
                            cases h2), heap_alloc_old _ _ hz9]
                          exact HM9.out
                      case measure => simp [intOf]
                · gi_wp2
                  obtain rfl : x = 3 := by omega
                  go_roundw
                  case rel => exact ⟨t + 1, by omega, by go_num, by rw [show apRow rs rl rw sh l i (t + 1) = apRow rs rl rw sh l i t ++ apCell rs rl rw sh l i (i + 1 + t) 3 from rfl, ← List.append_assoc]; exact HO.out, HB.out⟩
                  case measure => simp [intOf]; omega
            · gi_wp2
              obtain rfl : t = m - (i + 1) := by omega
              go_roundw
              case rel => exact ⟨i + 1, by omega, by go_num, by simpa [apAll] using HO.out, HB.out⟩
              case measure => simp [intOf]; omega
      · gi_wp2
        go_ret2
        obtain rfl : i = m := by omega
        exact ⟨_, _, rfl, HO.out, HB6.out.size, HB6.out.trans (HB.out.mono HB6.out.size)⟩
end Go.Proofs.YtpdmgecbapmgdaaGreat
end
