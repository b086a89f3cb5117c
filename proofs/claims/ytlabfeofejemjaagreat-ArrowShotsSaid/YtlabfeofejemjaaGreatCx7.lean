/- Ground of the proofs of statements about package arrow: it says nothing of a statement by itself, and has no condition. -/
import Derived.Test.YtlabfeofejemjaaGreatCx6
import Derived.Test.YtlabfeofejemjaaGreatCx5
set_option linter.unusedSectionVars false
set_option linter.unusedSimpArgs false
set_option linter.unusedVariables false
set_option maxRecDepth 100000
section
namespace Go.Cx
open Go.Conc (G)
variable {p : Tab} {f : Inj} {Mi Sh : Loc → Prop} {main : Bool} {h h' : AHeap} {w : World} {bot0 : List Frame}
theorem quiet_not_loud : ∀ {phs : List Phase} {q : Nat}, (opsOf phs).Nodup → q ∈ quiets phs → q ∉ louds phs
  | ph :: phs, q, hnd, hq => by
    simp only [opsOf] at hnd
    obtain ⟨n1, n2, n3⟩ := List.nodup_append.1 hnd
    simp only [quiets, List.mem_append] at hq
    intro hl
    simp only [louds] at hl
    rcases hq with hq | hq
    · cases el : ph.loud with
      | none => rw [el] at hl; exact n3 q (List.mem_append.2 (.inl hq)) q (louds_ops hl) rfl
      | some j =>
        rw [el] at hl n1
        rcases List.mem_cons.1 hl with rfl | hl
        · exact (List.nodup_append.1 n1).2.2 q hq q (by simp) rfl
        · exact n3 q (List.mem_append.2 (.inl hq)) q (louds_ops hl) rfl
    · cases el : ph.loud with
      | none => rw [el] at hl; exact quiet_not_loud n2 hq hl
      | some j =>
        rw [el] at hl n3
        rcases List.mem_cons.1 hl with rfl | hl
        · exact n3 q (List.mem_append.2 (.inr (by simp))) q (quiets_ops hq) rfl
        · exact quiet_not_loud n2 hq hl
theorem RegAt.first {ops : Array Oper} {phs : List Phase} (h : PlanOk ops phs) (t : Nat) : RegAt ops phs phs [] none (fun _ => False) (Region.schedule true ops t) :=
  { plan := h
    quiet := fun q hq => quiet_not_loud h.nd (by simpa using hq)
    lin := lin_schedule h.dn t
    closed := .none
    nd := h.nd
    lt := h.lt
    fut := fun _ _ h => h
    cov := fun i hi => .inr (.inr (h.cov i hi))
    prevD := fun i e => by cases e
    qlt := fun _ h => absurd h (by simp)
    apartq := fun _ h => absurd h (by simp)
    ok := h.ok }
theorem begin_draw (hmix : p.prog.follows .mixedOrders = true) {s : S} {id : Nat} {ops : Array Oper} {k : List AI} {phs : List Phase} {lay : List Lay} {g : Goroutine} (hat : drawAt s.fr = some (id, ops, k)) (hok : planOk ops phs = true) (hr : XRel f Mi Sh bot0 ⟨s, none, lay⟩ g w) :
    LAdv p.prog main f Mi Sh bot0 g w ⟨{ s with fr := { s.fr with todo := k } }, some (ops, phs), lay⟩ := by
  cases hr with
  | plain hs hB hl =>
  rename_i bot Bd
  obtain ⟨tmps, todo, defers, round, cs, rfl, hsz, ht, hk, hd, hro, hcs, hr⟩ := hs.out
  unfold drawAt at hat
  split at hat
  · next id' ops' k' e1 e2 =>
    cases hat
    generalize etodo : s.fr.todo = td at hk e2
    subst e2
    cases hk with
    | cons hi hkk =>
    rename_i it kk
    cases hi with
    | code c =>
    refine ⟨G (realF { s.fr with todo := k } tmps (.inRegion ops (Region.schedule true ops (w.tape w.drawn (.order s.fr.fn id))) :: kk) defers round) (cs ++ bot), { w with drawn := w.drawn + 1 }, #[], Mi, f, ?_, f.le_refl, ⟨env_drew _ w, fun l => ⟨.inl, fun h => h.elim (fun h => h) fun ⟨b, _, h1, h2⟩ => absurd h2 (Nat.not_lt.2 h1)⟩, fun e he => absurd he (by simp)⟩,
      .reg (fr := { s.fr with todo := k }) (Bd' := s.h.next) e1 (.first (planOk_spec hok) _) hsz (fun i _ => ht i) (fun q hq => absurd hq (by simp)) (fun q hq => absurd hq (by simp)) hkk hd hro hcs (hr.of_heap rfl) hB hl⟩
    simp [G, realF, e1, stepG, stepG.exec, choose, Sem.run, Question.forced, Question.cut, hmix]
  · cases hat
theorem XRel.running {x : L} {g : Goroutine} (hr : XRel f Mi Sh bot0 x g w) : g.status = .running := by
  cases hr with
  | plain hs _ _ => exact hs.running
  | reg => rfl
theorem nodup_length : ∀ (n : Nat) (l : List Nat), l.Nodup → (∀ x ∈ l, x < n) → l.length ≤ n
  | 0, [], _, _ => Nat.le_refl _
  | 0, x :: _, _, h => absurd (h x (by simp)) (by omega)
  | n + 1, l, hnd, h => by
    have h1 := nodup_length n (l.erase n) (hnd.erase n) fun x hx => by
      have h2 := h x (List.mem_of_mem_erase hx)
      have h3 : x ≠ n := by
        rintro rfl
        exact (List.Nodup.mem_erase_iff hnd).1 hx |>.1 rfl
      omega
    have h2 := List.length_erase (a := n) (l := l)
    split at h2 <;> omega
theorem Lin.notD {ops : Array Oper} : ∀ {l : List Nat} {D : Nat → Prop}, Lin ops D l → ∀ i ∈ l, ¬ D i
  | _, _, .nil _, _, h => by cases h
  | _, _, .cons ho hn he t, j, h => by
    rcases List.mem_cons.1 h with rfl | h
    · exact hn
    · exact fun hd => t.notD j h (.inl hd)
theorem Lin.nodup {ops : Array Oper} : ∀ {l : List Nat} {D : Nat → Prop}, Lin ops D l → l.Nodup
  | _, _, .nil _ => List.nodup_nil
  | _, _, .cons ho hn he t => List.nodup_cons.2 ⟨fun h => t.notD _ h (.inr rfl), t.nodup⟩
theorem Lin.length {ops : Array Oper} {l : List Nat} {D : Nat → Prop} (h : Lin ops D l) : l.length ≤ ops.size := nodup_length _ _ h.nodup h.in_range
def costOf (x : L) : Nat := match x.reg with | none => 1 | some (ops, _) => ops.size + 1
def costL (p : Tab) (pl : T (T (List Phase))) : Nat → L → Nat
  | 0, _ => 0
  | n + 1, x => match stepL p pl x with | .next x1 => costOf x + costL p pl n x1 | _ => 0
theorem stepL_sound {L0 : World → Prop} (hp : TabOk p) (hmix : p.prog.follows .mixedOrders = true) {pl : T (T (List Phase))} {x x' : L} {g : Goroutine} (hs : stepL p pl x = .next x') (hr : XRel f Mi Sh bot0 x g w) :
    GoesX p.prog main Sh L0 (fun Mi' g' w' => ∃ f', f.le f' ∧ XRel f' Mi' Sh bot0 x' g' w') (costOf x) Mi g w := by
  have one : g.status = .running → (∀ w1, Env (fun l => Mi l ∨ Sh l) w w1 → LAdv p.prog main f Mi Sh bot0 g w1 x') → GoesX p.prog main Sh L0 (fun Mi' g' w' => ∃ f', f.le f' ∧ XRel f' Mi' Sh bot0 x' g' w') 1 Mi g w := by
    intro hg h
    refine .step (n := 0) hg fun w1 he => ?_
    obtain ⟨g', w', es, Mi', f', a, b, c, d⟩ := h w1 he.1
    exact ⟨g', w', es, Mi', a, c, .here fun w2 h2 => ⟨f', b, d.env h2.1⟩⟩
  have hg := hr.running
  unfold stepL at hs
  cases hr with
  | plain hsr hB hl =>
    rename_i s lay bot Bd
    simp only [] at hs
    cases hat : drawAt s.fr with
    | some y =>
      obtain ⟨id, ops, k⟩ := y
      rw [hat] at hs
      simp only [] at hs
      split at hs
      · split at hs
        · split at hs
          · next hok => cases hs; exact one hg fun w1 he => begin_draw hmix hat hok (.plain (hsr.env he) hB hl)
          · cases hs
        · cases hs
      · cases hs
    | none =>
      rw [hat] at hs
      simp only [] at hs
      cases est : step p s with
      | next s1 =>
        rw [est] at hs
        cases hs
        refine one hg fun w1 he => ?_
        obtain ⟨g', w', es, Mi', f', a, b, c, d, e⟩ := step_sound (main := main) hp est (hsr.env he)
        exact ⟨g', w', es, Mi', f', a, b, c, .plain d (Nat.le_trans hB e.next) (hl.old b fun l a b _ => e.lonely a b)⟩
      | stop s1 => rw [est] at hs; cases hs
      | stuck => rw [est] at hs; cases hs
      | done v h2 =>
        rw [est] at hs
        simp only [] at hs
        cases hl with
        | nil => cases hs
        | cons hB1 hret1 ho hreg hsz ht hpd hdst hdiff hk hd hro hcs t =>
        rename_i Bd1 y lay bot full qd D i rest a k' defers round cs
        simp only [] at hs
        split at hs
        · next t2 edf ep =>
          cases hs
          refine one hg fun w1 he => ?_
          obtain ⟨v', w', es, Mi', f', a1, a2, a3, a4, a5, a6⟩ := done_sound (main := main) hp est edf (hsr.env he)
          rw [finish_head ho] at a1
          refine ⟨_, w', es, Mi', f', a1, a2, a4, .reg (fr := { y.fr with tmps := t2 }) hret1 hreg (by rw [putDst_size]; exact hsz) ((ht.mono a2).put ep a3 hsz) ((hpd.old fun l a b _ => a6.lonely a b).put ep hdiff) hdst (hk.mono a2) (hd.mono a2) (hro.mono a2) (hcs.mono a2) a5 (Nat.le_trans hB1 (Nat.le_trans hB a6.next)) (t.old a2 fun l a b _ => a6.lonely a b)⟩
        · cases hs
  | reg hret hreg hsz ht hpd hdst hk hd hro hcs hr hB hl =>
    rename_i fr as h ops full phs lay bot Bd Bd' qd prev D rest a k' defers round cs
    simp only [] at hs
    cases phs with
    | nil => cases hs
    | cons ph phs =>
    simp only [] at hs
    cases eph : phaseA p ops fr ph h with
    | none => rw [eph] at hs; cases hs
    | some y =>
      obtain ⟨t1, h1⟩ := y
      rw [eph] at hs
      simp only [] at hs
      obtain ⟨hready, hold⟩ := phase_ready hreg hsz ht hpd hdst hr hB eph
      have hl1 : LaysRel f h1 bot0 Bd lay bot := hl.old f.le_refl fun l a b _ => hold.lonely a b
      have hB1 : Bd ≤ h1.next := Nat.le_trans hB hold.next
      have hlen : rest.length ≤ ops.size := hreg.lin.length
      refine GoesX.more (n := rest.length + 1) ?_ (by simp only [costOf]; omega)
      refine GoesX.bind (m := 1) ?_ (ready_run (main := main) (Sh := Sh) (L := L0) (fr := { fr with tmps := t1 }) (k' := k') (defers := defers) (round := round) (cs := cs) hp hret rest hready hl1)
      intro Mi2 g2 w2 hQ
      obtain ⟨f2, D2, rest2, a2, rfl, b2, b3, b4, b5, b6, b7⟩ := hQ w2 (.refl _ _ _)
      have hturn := hreg.turn b3.lin b3.closed b5 b6 b7
      cases el : ph.loud with
      | none =>
        rw [el] at hs hturn
        obtain ⟨rfl, rfl⟩ := hturn
        simp only [] at hs
        cases hs
        refine .step (n := 0) rfl fun w3 he => ?_
        have b3' := b3.env he.1
        have hall : ∀ i, i < ops.size → D2 i := by
          cases b3'.lin with
          | nil h => exact h
        have htr : TRel f2 t1 a2 := fun i => b3'.temps i fun q hq hn => absurd (hall q (by
          rcases List.mem_append.1 hq with hq | hq
          · exact hreg.lt q (by simp only [opsOf, List.mem_append]; exact .inl (.inl hq))
          · exact hreg.qlt q hq)) hn
        refine ⟨_, w3, #[], Mi2, ?_, .quiet, .here fun w4 h4 => ⟨f2, b2, .plain (s := ⟨{ fr with tmps := t1 }, as, h1⟩) ⟨⟨realF { fr with tmps := t1 } a2 k' defers round, cs, rfl, ⟨_, _, _, _, rfl, b3'.size, htr, hk.mono b2, hd.mono b2, hro.mono b2⟩, hcs.mono b2⟩, b3'.heap.env h4.1⟩ hB1 b4⟩⟩
        simp [G, realF, hret, stepG, stepG.exec]
      | some i =>
        rw [el] at hs hturn
        obtain ⟨r, rfl⟩ := hturn
        simp only [] at hs
        cases eo : ops[i]? with
        | none => rw [eo] at hs; cases hs
        | some o =>
          rw [eo] at hs
          simp only [] at hs
          refine .step (n := 0) rfl fun w3 he => ?_
          obtain ⟨g', w', es, Mi', f', c1, c2, c3, c4⟩ := loud_sound (main := main) (fr := fr) (as := as) (lay := lay) (x := ⟨⟨fr, as, h⟩, some (ops, ph :: phs), lay⟩) hp rfl rfl rfl hret hreg el (b3.env he.1) b5 b6 eo (hk.mono b2) (hd.mono b2) (hro.mono b2) (hcs.mono b2) hB1 b4 hs
          exact ⟨g', w', es, Mi', c1, c3, .here fun w4 h4 => ⟨f', f.le_trans b2 c2, c4.env h4.1⟩⟩
theorem runL_sound {L0 : World → Prop} (hp : TabOk p) (hmix : p.prog.follows .mixedOrders = true) {pl : T (T (List Phase))} : ∀ (n : Nat) {x x' : L} {f : Inj} {Mi : Loc → Prop} {g : Goroutine} {w : World}, runL p pl n x = .next x' → XRel f Mi Sh bot0 x g w →
    GoesX p.prog main Sh L0 (fun Mi' g' w' => ∃ f', f.le f' ∧ XRel f' Mi' Sh bot0 x' g' w') (costL p pl n x) Mi g w
  | 0, x, x', f, Mi, g, w, h, hr => by
    cases h
    exact .here fun w1 he => ⟨f, f.le_refl, hr.env he.1⟩
  | n + 1, x, x', f, Mi, g, w, h, hr => by
    simp only [runL] at h
    cases e : stepL p pl x with
    | next x1 =>
      rw [e] at h
      simp only [costL, e]
      refine GoesX.bind ?_ (stepL_sound hp hmix e hr)
      intro Mi2 g2 w2 hQ
      obtain ⟨f2, a, b⟩ := hQ w2 (.refl _ _ _)
      exact (runL_sound hp hmix n h b).mono fun Mi3 g3 w3 ⟨f3, c, d⟩ => ⟨f3, f.le_trans a c, d⟩
    | done v h1 => rw [e] at h; cases h
    | stop s1 => rw [e] at h; cases h
    | stuck => rw [e] at h; cases h
end Go.Cx
end
section
namespace Go.Cx
def runTo (p : Tab) (pl : T (T (List Phase))) (q : L → Bool) : Nat → L → Option L
  | 0, _ => none
  | n + 1, x =>
    match q x with
    | true => some x
    | false => match stepL p pl x with
      | .next x => runTo p pl q n x
      | _ => none
def opAt (x : L) : Option (Array Oper × Nat × Oper × List Oper × List AI) :=
  match x.reg, x.s.fr.ret, x.s.fr.todo with
  | none, false, .reg ops i (o :: rest) :: k => some (ops, i, o, rest, k)
  | _, _, _ => none
def callsFn (fn : FuncId) (x : L) : Bool :=
  match opAt x with
  | some (_, _, o, _, _) => match o.op with
    | .call c => match c.callee with
      | .value v => match x.s.fr.ev v with
        | some (.func (.func g) _ _) => Nat.beq g fn
        | _ => false
      | _ => false
    | _ => false
  | none => false
def goesAt (x : L) : Bool :=
  match opAt x with
  | some (_, _, o, _, _) => match o.op with
    | .go _ => true
    | _ => false
  | none => false
def backFrom (p : Tab) (fn : FuncId) (chk : List Value → Bool) (x : L) : Option L :=
  match x.lay, x.s.fr.round, opAt x with
  | [], none, some (ops, i, o, rest, k) =>
    match wantedA ops x.s.fr o, aop p x.s.h x.s.fr.ev o, setDst x.s.fr o (.tuple #[]) (.reg ops (Nat.succ i) rest :: k) with
    | true, some (.call g args h), some fr => match Nat.beq g fn && chk args with
      | true => some ⟨{ x.s with fr, h }, none, []⟩
      | false => none
    | _, _, _ => none
  | _, _, _ => none
def argsWg (bW : Nat) (args : List Value) : Bool := match args with | [.pointer (some ⟨b, 0, none⟩)] => Nat.beq b bW | _ => false
def argsAdd (bW : Nat) (args : List Value) : Bool := match args with | [.pointer (some ⟨b, 0, none⟩), .int .i64 1] => Nat.beq b bW | _ => false
def forkA (x : L) : Option (FuncId × List Value × AF) :=
  match x.lay, x.s.fr.round, opAt x with
  | [], none, some (ops, i, o, rest, k) =>
    match o.op with
    | .go c => match c.callee with
      | .value v => match wantedA ops x.s.fr o, c.args.toList, x.s.fr.ev v, setDst x.s.fr o undef (.reg ops (Nat.succ i) rest :: k) with
        | true, [], some (.func (.func fn) first captured), some fr => match first.toList with
          | [] => some (fn, captured.toList, fr)
          | _ :: _ => none
        | _, _, _, _ => none
      | _ => none
    | _ => none
  | _, _, _ => none
def allNone : List (Option Value) → Bool
  | [] => true
  | none :: l => allNone l
  | some _ :: _ => false
def blankAt (h : AHeap) (bB n : Nat) : Bool :=
  match h.objs.get bB with
  | some (.cells c _ r ba m) => allNone c && Nat.beq c.length n && Nat.beq r bB && Nat.beq ba 0 && (match m with | [b] => Nat.beq b bB | _ => false)
  | _ => false
def endsOk (p : Tab) (x : L) : Bool :=
  match opAt x, x.s.fr.defers, x.s.cs with
  | some (_, _, _, [], []), [], [c] => x.s.fr.deferred && c.ret && c.deferred && (match c.defers, c.round with | [], none => true | _, _ => false)
      && (match p.funcs.get x.s.fr.fn, p.funcs.get c.fn with | some a, some b => (match a.results.toList, b.results.toList with | [], [] => true | _, _ => false) | _, _ => false)
  | _, _, _ => false
structure Cfg where
  add : FuncId
  done : FuncId
  wait : FuncId
  bW : Nat
  bB : Nat
  dB : Nat
  bR : Nat
  dR : Nat
  nR : Nat
  n : Nat
  fuel : Nat
def workerA (p : Tab) (pl : T (T (List Phase))) (c : Cfg) (k : Nat) (x : L) : Option (List Value) :=
  match runTo p pl (callsFn c.done) c.fuel x with
  | some x => match backFrom p c.done (argsWg c.bW) x with
    | some y => match endsOk p x, y.s.h.read c.bB (Nat.mul 2 k) 2 with
      | true, some vals => match vals.all (closed 1) with
        | true => some vals
        | false => none
      | _, _ => none
    | none => none
  | none => none
def startsA (p : Tab) (pl : T (T (List Phase))) (c : Cfg) : Nat → Nat → L → Option (List (List Value) × L)
  | 0, _, x => match runTo p pl (callsFn c.wait) c.fuel x with
    | some x => match backFrom p c.wait (argsWg c.bW) x with
      | some y => some ([], y)
      | none => none
    | none => none
  | r + 1, k, x =>
    match runTo p pl (callsFn c.add) c.fuel x with
    | none => none
    | some x => match backFrom p c.add (argsAdd c.bW) x with
      | none => none
      | some x => match runTo p pl goesAt c.fuel x with
        | none => none
        | some x => match forkA x, blankAt x.s.h c.bB (Nat.mul 2 c.n) with
          | some (fn, args, fr), true => match enterA p fn args true with
            | none => none
            | some cf =>
              let h := x.s.h
              match workerA p pl c k ⟨⟨cf, [], { h with lo := h.next, wl := [(c.bB, Nat.mul 2 k, 2)] }⟩, none, []⟩ with
              | none => none
              | some vals => match startsA p pl c r (Nat.succ k) ⟨{ x.s with fr, h := { h with lo := h.next, wl := [] } }, none, []⟩ with
                | some (l, y) => some (vals :: l, y)
                | none => none
          | _, _ => none
def refill (t : T AObj) (b : Nat) (cs : List (Option Value)) : T AObj :=
  match t.get b with
  | some (.cells _ u r ba m) => t.set b (.cells cs u r ba m)
  | _ => t
def blank (t : T AObj) (b : Nat) : T AObj :=
  match t.get b with
  | some (.cells c u r ba m) => t.set b (.cells (c.map fun _ => none) u r ba m)
  | _ => t
def demoteA (c : Cfg) (h : AHeap) : AHeap := { objs := blank (blank (blank h.objs c.bW) c.bB) c.bR, next := h.next, lo := h.next, wl := [], no := h.no }
def pointsTo (t : T Value) (d b : Nat) : Bool := match t.get d with | some (.pointer (some ⟨b', 0, none⟩)) => Nat.beq b' b | _ => false
def allocA (p : Tab) (c : Cfg) (tWg : TypeId) (x : L) : Option L :=
  match x.lay, x.s.fr.round, opAt x with
  | [], none, some (ops, i, o, rest, k) =>
    match o.op with
    | .alloc t => match Nat.beq t tWg && wantedA ops x.s.fr o && Nat.beq x.s.h.next c.bW, p.zero t, setDst x.s.fr o (.pointer (some ⟨x.s.h.next, 0, none⟩)) (.reg ops (Nat.succ i) rest :: k) with
      | true, some z, some fr => match z.cells.toList with
        | [.int .u64 0, .int .u32 0] => some ⟨{ x.s with fr, h := x.s.h.row z.cells.toList 0 }, none, []⟩
        | _ => none
      | _, _, _ => none
    | _ => none
  | _, _, _ => none
def okVals (n : Nat) (vals : List (List Value)) : Bool := Nat.beq vals.length n && vals.all fun l => Nat.beq l.length 2 && l.all (closed 1)
def fillA (c : Cfg) (vals : List (List Value)) (h : AHeap) : Option AHeap :=
  match blankAt h c.bB (Nat.mul 2 c.n) && blankAt h c.bW 2 && okVals c.n vals with
  | true => some { objs := refill h.objs c.bB (vals.flatten.map some), next := h.next, lo := 0, wl := [], no := c.bW }
  | false => none
def readyA (c : Cfg) (y0 : L) (h : AHeap) : Bool :=
  blankAt h c.bB (Nat.mul 2 c.n) && blankAt h c.bW 2 && y0.s.h.owns c.bB && y0.s.h.owns c.bW && not (Nat.beq c.bB c.bW) && pointsTo y0.s.fr.tmps c.dB c.bB && pointsTo y0.s.fr.tmps c.dR c.bR && blankAt h c.bR c.nR && Nat.ble c.n c.nR && not (Nat.beq c.bR c.bB) && not (Nat.beq c.bR c.bW)
def startsN (p : Tab) (pl : T (T (List Phase))) (c : Cfg) : Nat → Nat → L → Option (List (List Value) × L)
  | 0, _, x => some ([], x)
  | r + 1, k, x =>
    match runTo p pl (callsFn c.add) c.fuel x with
    | none => none
    | some x => match backFrom p c.add (argsAdd c.bW) x with
      | none => none
      | some x => match runTo p pl goesAt c.fuel x with
        | none => none
        | some x => match forkA x, blankAt x.s.h c.bB (Nat.mul 2 c.n) with
          | some (fn, args, fr), true => match enterA p fn args true with
            | none => none
            | some cf =>
              let h := x.s.h
              match workerA p pl c k ⟨⟨cf, [], { h with lo := h.next, wl := [(c.bB, Nat.mul 2 k, 2)] }⟩, none, []⟩ with
              | none => none
              | some vals => match startsN p pl c r (Nat.succ k) ⟨{ x.s with fr, h := { h with lo := h.next, wl := [] } }, none, []⟩ with
                | some (l, y) => some (vals :: l, y)
                | none => none
          | _, _ => none
theorem startsA_split (p : Tab) (pl : T (T (List Phase))) (c : Cfg) : ∀ (j k r : Nat) {x z y : L} {l1 l2 : List (List Value)}, startsN p pl c j k x = some (l1, z) → startsA p pl c r (k + j) z = some (l2, y) → startsA p pl c (j + r) k x = some (l1 ++ l2, y)
  | 0, k, r, x, z, y, l1, l2, h1, h2 => by
    simp only [startsN] at h1
    cases h1
    rw [Nat.zero_add]
    exact h2
  | j + 1, k, r, x, z, y, l1, l2, h1, h2 => by
    rw [show j + 1 + r = (j + r) + 1 by omega]
    simp only [startsN] at h1
    simp only [startsA]
    split at h1
    · cases h1
    next x1 e1 =>
    split at h1
    · cases h1
    next x2 e2 =>
    split at h1
    · cases h1
    next x3 e3 =>
    split at h1
    · next fn args fr e4 e5 =>
      split at h1
      · cases h1
      next cf e6 =>
      split at h1
      · cases h1
      next vk e7 =>
      split at h1
      · next l' y' e8 =>
        cases h1
        have := startsA_split p pl c j (k + 1) r e8 (by rw [show k + 1 + j = k + (j + 1) by omega]; exact h2)
        simp only [e1, e2, e3, e4, e5, e6, e7, this]
        rfl
      · cases h1
    · cases h1
end Go.Cx
end
section
namespace Go.Cx
open Go.Conc (G)
section
variable {p : Tab} {f : Inj} {Mi Sh : Loc → Prop} {main : Bool} {w : World} {bot : List Frame}
theorem XRel.flat {s : S} {g : Goroutine} (h : XRel f Mi Sh bot ⟨s, none, []⟩ g w) : SRel f Mi Sh bot s g w := by
  cases h with
  | plain hs hB hl => cases hl; exact hs
theorem SRel.flat {s : S} {g : Goroutine} (h : SRel f Mi Sh bot s g w) : XRel f Mi Sh bot ⟨s, none, []⟩ g w := .plain h (Nat.le_refl s.h.next) .nil
structure OpAt (f : Inj) (bot : List Frame) (s : S) (ops : Array Oper) (i : Nat) (o : Oper) (rest : List Oper) (k : List AI) (g : Goroutine) (tmps : Array Value) (k' : List Item) (defers : List Deferred) (cs : List Frame) : Prop where
  g : g = G (realF s.fr tmps (.inRegion ops (List.range' i (o :: rest).length) :: k') defers none) (cs ++ bot)
  ret : s.fr.ret = false
  round : s.fr.round = none
  todo : s.fr.todo = .reg ops i (o :: rest) :: k
  drop : o :: rest = ops.toList.drop i
  size : tmps.size = s.fr.nt
  temps : TRel f s.fr.tmps tmps
  k : IsRel f k k'
  defs : DsRel f s.fr.defers defers
  cs : FsRel f s.cs cs
theorem opAt_some {x : L} {ops : Array Oper} {i : Nat} {o : Oper} {rest : List Oper} {k : List AI} (h : opAt x = some (ops, i, o, rest, k)) : x.reg = none ∧ x.s.fr.ret = false ∧ x.s.fr.todo = .reg ops i (o :: rest) :: k := by
  unfold opAt at h
  split at h
  · next e1 e2 e3 => cases h; exact ⟨e1, e2, e3⟩
  · cases h
theorem SRel.opAt {s : S} {g : Goroutine} {ops : Array Oper} {i : Nat} {o : Oper} {rest : List Oper} {k : List AI} (h : SRel f Mi Sh bot s g w) (hret : s.fr.ret = false) (hround : s.fr.round = none) (ht : s.fr.todo = .reg ops i (o :: rest) :: k) :
    ∃ tmps k' defers cs, OpAt f bot s ops i o rest k g tmps k' defers cs := by
  obtain ⟨tmps, todo, defers, round, cs, rfl, hsz, htr, hk, hd, hro, hcs, hr⟩ := h.out
  rw [ht] at hk
  cases hk with
  | cons hi hkk =>
    cases hi with
    | reg hdrop =>
      rw [hround] at hro
      cases hro
      exact ⟨tmps, _, defers, cs, rfl, hret, hround, ht, hdrop, hsz, htr, hkk, hd, hcs⟩
theorem call_step (hp : TabOk p) {s : S} {g : Goroutine} {ops : Array Oper} {i : Nat} {o : Oper} {rest : List Oper} {k : List AI} {tmps : Array Value} {k' : List Item} {defers : List Deferred} {cs : List Frame} {fn : FuncId} {args : List Value} {h' : AHeap}
    (ha : OpAt f bot s ops i o rest k g tmps k' defers cs) (hw : wantedA ops s.fr o = true) (ea : aop p s.h s.fr.ev o = some (.call fn args h')) (hr : HRel f (fun l => Mi l ∨ Sh l) Mi s.h w) :
    ∃ w' es Mi' f' args', stepG p.prog main g w = .go (G (Frame.enter p.prog fn args' .normal) (realF s.fr tmps (.inRegion ops (List.range' i (o :: rest).length) :: k') defers none :: (cs ++ bot))) w' es ∧ f.le f' ∧ Did Mi Sh w w' es Mi' ∧
      VsRel f' args args'.toList ∧ HRel f' (fun l => Mi' l ∨ Sh l) Mi' h' w' := by
  obtain ⟨rfl, hret, hround, htodo, hdrop, hsz, ht, hk, hd, hcs⟩ := ha
  obtain ⟨ho, hrest⟩ := drop_cons hdrop
  have hev := ht.ev (fr := realF s.fr tmps (.inRegion ops (List.range' i (o :: rest).length) :: k') defers none) rfl
  obtain ⟨r', w', f', Mi', h1, h2, h3, h4, h5, h6⟩ := aop_sound (w := w) hp hr hev ea
  have hst := stepG_at (p := p) (main := main) (s := s) (rest := rest) (k' := k') (cs := cs ++ bot) (w := w) (defers := defers) (round := none) (tmps := tmps) hret ho (by rw [wanted_rel ht]; exact hw) (fun _ _ => rfl)
  cases h3 with
  | call hv =>
    rename_i args'
    refine ⟨w', _, Mi', f', args', ?_, h2, h4.seen p.prog s.fr.fn, hv, h5⟩
    rw [hst, apply_ok (fun _ _ _ _ h => by cases h) h1 (.inr (.inr (.inl ⟨_, _, rfl⟩)))]
    simp only [outcome, GStep.after, Array.append_empty]
theorem call_back {s : S} {g : Goroutine} {ops : Array Oper} {i : Nat} {o : Oper} {rest : List Oper} {k : List AI} {tmps : Array Value} {k' : List Item} {defers : List Deferred} {cs : List Frame} {fr : AF} {v v' : Value} {h' : AHeap}
    (ha : OpAt f bot s ops i o rest k g tmps k' defers cs) (hs : setDst s.fr o v (.reg ops (Nat.succ i) rest :: k) = some fr) {f' : Inj} (hf : f.le f') (hv : VRel f' v v') {Mi' : Loc → Prop} (hr : HRel f' (fun l => Mi' l ∨ Sh l) Mi' h' w) :
    SRel f' Mi' Sh bot { s with fr, h := h' } (G (realF s.fr (putDst o.dst tmps v') (.inRegion ops (List.range' (i + 1) rest.length) :: k') defers none) (cs ++ bot)) w := by
  obtain ⟨rfl, hret, hround, htodo, hdrop, hsz, ht, hk, hd, hcs⟩ := ha
  obtain ⟨ho, hrest⟩ := drop_cons hdrop
  obtain ⟨q1, q2, q3, q4⟩ := setDst_rel (f := f') hs hv hsz (ht.mono hf) (k' := .inRegion ops (List.range' (i + 1) rest.length) :: k') (defers := defers) (round := none) (.cons (.reg hrest) (hk.mono hf)) (hd.mono hf) (by rw [hround]; exact .none)
  exact ⟨⟨_, cs, rfl, q1, hcs.mono hf⟩, hr⟩
theorem realF_at {a : AF} {tmps : Array Value} {todo : List Item} {defers : List Deferred} (hret : a.ret = false) (tmps0 : Array Value) (todo0 : List Item) (defers0 : List Deferred) :
    realF a tmps todo defers none = (realF a tmps0 todo0 defers0 none).at ⟨tmps, defers⟩ todo := by
  simp [realF, Frame.at, hret]
theorem put_eq (dst : Option Tmp) (tmps : Array Value) (defers : List Deferred) (v : Value) : (Act.put ⟨tmps, defers⟩ dst v) = ⟨putDst dst tmps v, defers⟩ := by
  cases dst <;> rfl
theorem alloc_step (hp : TabOk p) {s s' : S} {g : Goroutine} {ops : Array Oper} {i : Nat} {o : Oper} {rest : List Oper} {k : List AI} {tmps : Array Value} {k' : List Item} {defers : List Deferred} {cs : List Frame} {ty : TypeId} {z : Value} {fr : AF}
    (ha : OpAt f bot s ops i o rest k g tmps k' defers cs) (hw : wantedA ops s.fr o = true) (eo : o.op = .alloc ty) (ez : p.zero ty = some z)
    (hs : setDst s.fr o (.pointer (some ⟨s.h.next, 0, none⟩)) (.reg ops (Nat.succ i) rest :: k) = some fr) (hr : HRel f (fun l => Mi l ∨ Sh l) Mi s.h w) :
    ∃ g', stepG p.prog main g w = .go g' (pushed w (.cells z.cells ty (0, 0))) #[] ∧
      f.le (f.put s.h.next ⟨w.heap.size, 0, 0, z.cells.size⟩) ∧ Did Mi Sh w (pushed w (.cells z.cells ty (0, 0))) #[] (fun l => Mi l ∨ NewIn w.heap.size (w.heap.size + 1) l) ∧
      SRel (f.put s.h.next ⟨w.heap.size, 0, 0, z.cells.size⟩) (fun l => Mi l ∨ NewIn w.heap.size (w.heap.size + 1) l) Sh bot { s with fr, h := s.h.row z.cells.toList 0 } g' (pushed w (.cells z.cells ty (0, 0))) := by
  have hz := (closed_rel (f := f) _ _ (zero_closed ez).1).cells
  obtain ⟨w', r1, r2, r3, r4⟩ := newRow_sound (Sh := Sh) hr p.prog ty hz 0
  have hw' : w' = pushed w (.cells z.cells ty (0, 0)) := by
    have : (newRow ty z.cells).run p.prog w = .ok ⟨w.heap.size, 0, none⟩ (pushed w (.cells z.cells ty (0, 0))) := rfl
    rw [this] at r1
    cases r1
    rfl
  subst hw'
  have hrun : (execOp (realF s.fr tmps (.inRegion ops (List.range' i (o :: rest).length) :: k') defers none).eval o).run p.prog w = .ok (.value (.pointer (some ⟨w.heap.size, 0, none⟩))) (pushed w (.cells z.cells ty (0, 0))) := by
    simp only [execOp, eo, Instr.alloc, Sem.run_bind, run_zeroValue' hp w ez, Result.andThen_ok, newVar, r1, Sem.run_pure]
  have hevs : (execOp (realF s.fr tmps (.inRegion ops (List.range' i (o :: rest).length) :: k') defers none).eval o).events p.prog w #[] = #[] := by
    simp only [execOp, eo, Instr.alloc, Sem.events_bind, Sem.run_bind, run_zeroValue' hp w ez, events_zeroValue, Result.evThen_ok, Result.andThen_ok, newVar, r1, r2, Sem.run_pure, Sem.events_pure]
  have hst := stepG_at (p := p) (main := main) (s := s) (rest := rest) (k' := k') (cs := cs ++ bot) (w := w) (defers := defers) (round := none) (tmps := tmps) ha.ret (drop_cons ha.drop).1 (by rw [wanted_rel ha.temps]; exact hw) (fun _ _ => rfl)
  refine ⟨_, ?_, put_le hr _, r3, call_back ha hs (put_le hr _) (v' := .pointer (some ⟨w.heap.size, 0, none⟩)) (.ptr (Inj.put_same _ _ _)) r4⟩
  rw [ha.g, hst, apply_ok (fun _ _ _ _ h => by cases h) hrun (.inl ⟨_, rfl⟩), hevs]
  simp only [outcome, finish_at (drop_cons ha.drop).1, GStep.after]
  simp [seen]
end
end Go.Cx
end
section
namespace Go.Cx
open Go.Conc Go.ConcN Go.RowKit Go.Conc.Lib Go.ConcR.Gen Go.ConcN.Gen
variable {P : Program} {L : WgLink}
theorem enter_done (H : WgLib P L) (a : Value) : Frame.enter P L.done #[a] .normal = (base L.done).at ⟨#[a, undef, undef, undef], []⟩ [.code (body_done L)] := by
  simp only [Frame.enter, H.f_done, Option.map_some, Option.getD_some, Option.bind_some]
  rfl
theorem arr115 (a b : Value) : #[a, b] ++ Array.replicate 115 undef = #[a, b, undef, undef, undef, undef, undef, undef, undef, undef, undef, undef, undef, undef, undef, undef, undef, undef, undef, undef, undef, undef, undef, undef, undef, undef, undef, undef, undef, undef, undef, undef, undef, undef, undef, undef, undef, undef, undef, undef, undef, undef, undef, undef, undef, undef, undef, undef, undef, undef, undef, undef, undef, undef, undef, undef, undef, undef, undef, undef, undef, undef, undef, undef, undef, undef, undef, undef, undef, undef, undef, undef, undef, undef, undef, undef, undef, undef, undef, undef, undef, undef, undef, undef, undef, undef, undef, undef, undef, undef, undef, undef, undef, undef, undef, undef, undef, undef, undef, undef, undef, undef, undef, undef, undef, undef, undef, undef, undef, undef, undef, undef, undef, undef, undef, undef, undef] := by
  apply Array.toList_inj.1
  simp only [Array.toList_append, Array.toList_replicate]
  rfl
theorem arr83 (a : Value) : #[a] ++ Array.replicate 83 undef = #[a, undef, undef, undef, undef, undef, undef, undef, undef, undef, undef, undef, undef, undef, undef, undef, undef, undef, undef, undef, undef, undef, undef, undef, undef, undef, undef, undef, undef, undef, undef, undef, undef, undef, undef, undef, undef, undef, undef, undef, undef, undef, undef, undef, undef, undef, undef, undef, undef, undef, undef, undef, undef, undef, undef, undef, undef, undef, undef, undef, undef, undef, undef, undef, undef, undef, undef, undef, undef, undef, undef, undef, undef, undef, undef, undef, undef, undef, undef, undef, undef, undef, undef, undef] := by
  apply Array.toList_inj.1
  simp only [Array.toList_append, Array.toList_replicate]
  rfl
theorem enter_gen {fn : Func} {f : FuncId} {args : Array Value} {n : Nat} {c : Code} (hf : P.funcs[f]? = some fn) (hn : fn.ntmps - args.size = n) (hb : fn.body = some c) :
    Frame.enter P f args .normal = (base f).at ⟨args ++ Array.replicate n undef, []⟩ [.code c] := by
  subst hn
  simp only [Frame.enter, hf, Option.map_some, Option.getD_some, Option.bind_some, hb]
  rfl
theorem enter_add (H : WgLib P L) (a b : Value) : Frame.enter P L.add #[a, b] .normal = (base L.add).at ⟨#[a, b, undef, undef, undef, undef, undef, undef, undef, undef, undef, undef, undef, undef, undef, undef, undef, undef, undef, undef, undef, undef, undef, undef, undef, undef, undef, undef, undef, undef, undef, undef, undef, undef, undef, undef, undef, undef, undef, undef, undef, undef, undef, undef, undef, undef, undef, undef, undef, undef, undef, undef, undef, undef, undef, undef, undef, undef, undef, undef, undef, undef, undef, undef, undef, undef, undef, undef, undef, undef, undef, undef, undef, undef, undef, undef, undef, undef, undef, undef, undef, undef, undef, undef, undef, undef, undef, undef, undef, undef, undef, undef, undef, undef, undef, undef, undef, undef, undef, undef, undef, undef, undef, undef, undef, undef, undef, undef, undef, undef, undef, undef, undef, undef, undef, undef, undef], []⟩ [.code (body_add L)] := by
  rw [enter_gen (n := 115) (c := body_add L) H.f_add rfl rfl, arr115]
theorem enter_wait (H : WgLib P L) (a : Value) : Frame.enter P L.wait #[a] .normal = (base L.wait).at ⟨#[a, undef, undef, undef, undef, undef, undef, undef, undef, undef, undef, undef, undef, undef, undef, undef, undef, undef, undef, undef, undef, undef, undef, undef, undef, undef, undef, undef, undef, undef, undef, undef, undef, undef, undef, undef, undef, undef, undef, undef, undef, undef, undef, undef, undef, undef, undef, undef, undef, undef, undef, undef, undef, undef, undef, undef, undef, undef, undef, undef, undef, undef, undef, undef, undef, undef, undef, undef, undef, undef, undef, undef, undef, undef, undef, undef, undef, undef, undef, undef, undef, undef, undef, undef], []⟩ [.code (body_wait L)] := by
  rw [enter_gen (n := 83) (c := body_wait L) H.f_wait rfl rfl, arr83]
end Go.Cx
end
section
namespace Go.Cx
open Go.Conc Go.ConcN
open Go.ConcR (KK wgBlock WgAt stA smA rd wr mk Payload DC0)
theorem runTo_some {p : Tab} {pl : T (T (List Phase))} {q : L → Bool} : ∀ {n : Nat} {x x' : L}, runTo p pl q n x = some x' → q x' = true ∧ ∃ m, runL p pl m x = .next x'
  | 0, _, _, h => by cases h
  | n + 1, x, x', h => by
    simp only [runTo] at h
    cases hq : q x with
    | true => rw [hq] at h; cases h; exact ⟨hq, 0, rfl⟩
    | false =>
      rw [hq] at h
      simp only [] at h
      cases e : stepL p pl x with
      | next x1 =>
        rw [e] at h
        obtain ⟨h1, m, h2⟩ := runTo_some h
        exact ⟨h1, m + 1, by simp only [runL, e]; exact h2⟩
      | done v h1 => rw [e] at h; cases h
      | stop y => rw [e] at h; cases h
      | stuck => rw [e] at h; cases h
structure BackAt (p : Tab) (fn : FuncId) (chk : List Value → Bool) (x y : L) (ops : Array Oper) (i : Nat) (o : Oper) (rest : List Oper) (k : List AI) (args : List Value) (h : AHeap) (fr : AF) : Prop where
  ex : x = ⟨x.s, none, []⟩
  ret : x.s.fr.ret = false
  round : x.s.fr.round = none
  todo : x.s.fr.todo = .reg ops i (o :: rest) :: k
  wanted : wantedA ops x.s.fr o = true
  aop : aop p x.s.h x.s.fr.ev o = some (.call fn args h)
  dst : setDst x.s.fr o (.tuple #[]) (.reg ops (Nat.succ i) rest :: k) = some fr
  chk : chk args = true
  ey : y = ⟨{ x.s with fr, h }, none, []⟩
theorem backFrom_some {p : Tab} {fn : FuncId} {chk : List Value → Bool} {x y : L} (h : backFrom p fn chk x = some y) : ∃ ops i o rest k args h' fr, BackAt p fn chk x y ops i o rest k args h' fr := by
  unfold backFrom at h
  split at h
  · next ops i o rest k e1 e2 e3 =>
    split at h
    · next g args h' fr e4 e5 e6 =>
      split at h
      · next e7 =>
        rw [Bool.and_eq_true] at e7
        obtain rfl := Nat.eq_of_beq_eq_true e7.1
        cases h
        obtain ⟨a, b, c⟩ := opAt_some e3
        refine ⟨ops, i, o, rest, k, args, h', fr, ?_, b, e2, c, e4, e5, e6, e7.2, rfl⟩
        obtain ⟨s, reg, lay⟩ := x
        simp only at a e1
        subst a; subst e1
        rfl
      · cases h
    · cases h
  · cases h
section
variable {p : Tab} {pl : T (T (List Phase))} {f : Inj} {Mi Sh : Loc → Prop} {main : Bool} {w : World} {bot : List Frame} {L0 : World → Prop}
theorem toCall {Q : (Loc → Prop) → Goroutine → World → Prop} {mQ : Nat} (hp : TabOk p) (hmix : p.prog.follows .mixedOrders = true) {fn : FuncId} {chk : List Value → Bool} {q : L → Bool} {n : Nat} {x x1 y : L} {g : Goroutine}
    (h1 : runTo p pl q n x = some x1) (h2 : backFrom p fn chk x1 = some y) (hr : XRel f Mi Sh bot x g w)
    (hQ : ∀ {f' : Inj} {Mi' : Loc → Prop} {w' : World} {ops : Array Oper} {i : Nat} {o : Oper} {rest : List Oper} {k : List AI} {args : List Value} {h : AHeap} {fr : AF} {tmps : Array Value} {k' : List Item} {defers : List Deferred} {cs : List Frame} {args' : Array Value} {g1 : Goroutine} {f1 : Inj},
      BackAt p fn chk x1 y ops i o rest k args h fr → OpAt f1 bot x1.s ops i o rest k g1 tmps k' defers cs → f.le f1 → f1.le f' → VsRel f' args args'.toList → HRel f' (fun l => Mi' l ∨ Sh l) Mi' h w' →
      GoesX p.prog main Sh L0 Q mQ Mi' (G (Frame.enter p.prog fn args' .normal) (realF x1.s.fr tmps (.inRegion ops (List.range' i (o :: rest).length) :: k') defers none :: (cs ++ bot))) w') :
    ∃ m, GoesX p.prog main Sh L0 Q m Mi g w := by
  obtain ⟨_, m, hm⟩ := runTo_some h1
  obtain ⟨ops, i, o, rest, k, args, h, fr, hb⟩ := backFrom_some h2
  refine ⟨costL p pl m x + (mQ + 1), ?_⟩
  refine GoesX.bind ?_ (runL_sound (L0 := L0) hp hmix m hm hr)
  intro Mi1 g1 w1 hq
  obtain ⟨f1, hf1, hx1⟩ := hq w1 (.refl _ _ _)
  refine .step hx1.running fun w2 h2 => ?_
  have hs1 : SRel f1 Mi1 Sh bot x1.s g1 w2 := by
    have := hx1.env h2.1
    rw [hb.ex] at this
    exact this.flat
  obtain ⟨tmps, k', defers, cs, ha⟩ := hs1.opAt hb.ret hb.round hb.todo
  obtain ⟨w', es, Mi', f', args', k1, k2, k3, k4, k5⟩ := call_step (main := main) hp ha hb.wanted hb.aop hs1.heap
  exact ⟨_, w', es, Mi', k1, k3, hQ hb ha hf1 k2 k4 k5⟩
end
end Go.Cx
end
section
namespace Go.Cx
open Go.Conc Go.ConcN Go.Conc.Lib Go.ConcR.Gen Go.ConcN.Gen
open Go.ConcR (KK wgBlock WgAt stA smA rd wr mk Payload DC0)
theorem GoesX.keep {P : Program} {main : Bool} {Sh : Loc → Prop} {L : World → Prop} {Q : (Loc → Prop) → Goroutine → World → Prop} {I : (Loc → Prop) → World → Prop}
    (h1 : ∀ Mi w w1, I Mi w → Rely L (fun l => Mi l ∨ Sh l) w w1 → I Mi w1) (h2 : ∀ Mi w w' es Mi', I Mi w → Did Mi Sh w w' es Mi' → I Mi' w') {n : Nat} {Mi : Loc → Prop} {g : Goroutine} {w : World} (h : GoesX P main Sh L Q n Mi g w) (hI : I Mi w) :
    GoesX P main Sh L (fun Mi g w => Q Mi g w ∧ I Mi w) n Mi g w := by
  induction h with
  | here h => exact .here fun w1 he => ⟨h w1 he, h1 _ _ _ hI he⟩
  | go g' w' es Mi' hr h k ih => exact .go g' w' es Mi' hr h fun w1 he => ih w1 he (h2 _ _ _ _ _ (h1 _ _ _ hI he) (h w1 he).2)
def bottom (P : Program) : Frame := { (default : Frame) with fn := P.funcs.size, defers := [], mode := .panicking [goexitEntry] }
theorem quits_end {P : Program} {fn1 fn2 : Func} {b c : Frame} {a : Act} {ops : Array Oper} {tmps : Array Value} {todo : List Item} (hb : b.kind = .deferred) (ha : a.defers = []) (h1 : P.funcs[b.fn]? = some fn1) (r1 : fn1.results = #[])
    (hc : c = { fn := c.fn, tmps, todo, defers := [], mode := .returning, kind := .deferred, roundOf := none }) (h2 : P.funcs[c.fn]? = some fn2) (r2 : fn2.results = #[]) :
    QuitsD P 5 0 (G (b.at a (.inRegion ops [] :: [])) [c, bottom P]) := by
  refine QuitsD.ctl rfl (fun _ => stepG_region_end) ?_
  refine QuitsD.ctl rfl (fun _ => stepG_end) ?_
  refine QuitsD.leaveD hb ha h1 r1 (by rw [hc]) ?_
  rw [hc]
  refine QuitsD.ctl rfl (fun w => ?_) (g' := G (bottom P) []) ?_
  · simp [G, stepG, unwind, doReturn, h2, r2, results, bottom, GStep.after, seen, goexitEntry]
  · refine QuitsD.ctl rfl (fun w => ?_) (g' := { G (bottom P) [] with status := .finished }) ?_
    · simp [G, stepG, unwind, bottom, goexitEntry, Frame.catches]
      rfl
    · exact ⟨rfl, rfl⟩
theorem endsOk_some {p : Tab} {x : L} (h : endsOk p x = true) : ∃ ops i o c fn1 fn2, opAt x = some (ops, i, o, [], []) ∧ x.s.fr.defers = [] ∧ x.s.cs = [c] ∧ x.s.fr.deferred = true ∧ c.ret = true ∧ c.deferred = true ∧ c.defers = [] ∧ c.round = none ∧
    p.funcs.get x.s.fr.fn = some fn1 ∧ fn1.results = #[] ∧ p.funcs.get c.fn = some fn2 ∧ fn2.results = #[] := by
  unfold endsOk at h
  split at h
  · next ops i o c e1 e2 e3 =>
    simp only [Bool.and_eq_true] at h
    obtain ⟨⟨⟨⟨h1, h2⟩, h3⟩, h4⟩, h5⟩ := h
    split at h4
    · next e4 e5 =>
      split at h5
      · next a b e6 e7 =>
        split at h5
        · next e8 e9 =>
          exact ⟨ops, i, o, c, a, b, e1, e2, e3, h1, h2, h3, e4, e5, e6, by simpa using e8, e7, by simpa using e9⟩
        · cases h5
      · cases h5
    · cases h4
  · cases h
section
variable [Payload]
def Crw (p : Tab) (Lk : WgLink) (n Wg C nC B o : Nat) (vals : List (List Value)) (hn : n < 2147483647) (hCW : C ≠ Wg) (hCB : C ≠ B) (w0 : World) (hWN : w0.heap.size ≤ Wg) (hCN : w0.heap.size ≤ C) : Crew where
  P := p.prog
  ty := Lk.tWg
  Wg := Wg
  C := C
  nC := nC
  n := n
  ResM := fun k l => ∃ i, i < 2 ∧ l = cellAt B (o + (2 * k + i))
  Res := fun k w => ∀ i v, i < 2 → (vals.getD k [])[i]? = some v → w.cell? ⟨B, o + (2 * k + i), none⟩ = some v
  q := 23
  hn := hn
  hCW := hCW
  w0 := w0
  hWN := hWN
  hCN := hCN
  resC := fun k ⟨i, _, e⟩ => by
    simp only [cellAt, Loc.cell.injEq, Addr.mk.injEq] at e
    exact hCB e.1
  stable := fun k w w' he h i v hi hv => by
    have h1 := h i v hi hv
    simp only [World.cell?] at h1 ⊢
    cases e : w.heap[B]? with
    | none => rw [e] at h1; cases h1
    | some ob =>
      rw [e] at h1
      cases ob with
      | cells c ety fr =>
        obtain ⟨c', k1, k2, k3⟩ := he.same B _ e
        rw [k1]
        simp only [] at h1 ⊢
        have := k3 (o + (2 * k + i)) ⟨i, hi, rfl⟩
        simpa [this] using h1
      | _ => cases h1
variable {p : Tab} {pl : T (T (List Phase))} {Lk : WgLink} {n Wg C nC : Nat} {xB xW : Base} {vals : List (List Value)} {hn : n < 2147483647} {hCW : C ≠ Wg} {hCB : C ≠ xB.blk} {w0 : World} {hWN : w0.heap.size ≤ Wg} {hCN : w0.heap.size ≤ C}
theorem worker_goes (H : WgLib p.prog Lk) (hp : TabOk p) (hmix : p.prog.follows .mixedOrders = true) {c : Cfg} {k : Nat} {x : L} {vk : List Value} {f : Inj} {Mc Sc : Loc → Prop} {g : Goroutine} {w : World} (hdone : c.done = Lk.done)
    (hw : workerA p pl c k x = some vk) (hvk : vals.getD k [] = vk) (hr : XRel f Mc Sc [bottom p.prog] x g w) (hbW : f c.bW = some xW) (hxW : xW.blk = Wg) (hxO : xW.off = 0) (hbB : f c.bB = some xB)
    (hlive : WgLive Lk.tWg Wg w) (hpay : PayAt C nC w) (hMW : ∀ i, ¬ Mc (cellAt Wg i)) (hk : k < nC) :
    WWorks (Crw p Lk n Wg C nC xB.blk xB.off vals hn hCW hCB w0 hWN hCN) (k + 1) Mc Sc g w := by
  unfold workerA at hw
  cases e1 : runTo p pl (callsFn c.done) c.fuel x with
  | none => rw [e1] at hw; cases hw
  | some x1 =>
  rw [e1] at hw
  simp only [] at hw
  cases e2 : backFrom p c.done (argsWg c.bW) x1 with
  | none => rw [e2] at hw; cases hw
  | some y =>
  rw [e2] at hw
  simp only [] at hw
  split at hw
  · next vk' e3 e4 =>
    split at hw
    · next e5 =>
      cases hw
      rw [hdone] at e2
      obtain ⟨ops, i, o, cf, fn1, fn2, a1, a2, a3, a4, a5, a6, a7, a8, a9, a10, a11, a12⟩ := endsOk_some e3
      have hQ : ∃ m, GoesX p.prog false Sc (WgLive Lk.tWg Wg) (fun Mi g w => (∀ i v, i < 2 → vk[i]? = some v → w.cell? ⟨xB.blk, xB.off + (2 * k + i), none⟩ = some v) ∧
          ∃ (b : Frame) (a : Act) (ops : Array Oper) (i : Nat) (cs : List Frame), g = G ((base Lk.done).at ⟨#[.pointer (some ⟨Wg, 0, none⟩), undef, undef, undef], []⟩ [.code (body_done Lk)]) (b.at a (.inRegion ops [i] :: []) :: cs) ∧
            QuitsD p.prog 5 0 (G (b.at (a.put ((ops[i]?).bind (·.dst)) (.tuple #[])) (.inRegion ops [] :: [])) cs)) m Mc g w := by
        refine toCall (mQ := 0) hp hmix e1 e2 hr ?_
        intro f' Mi' w' ops' i' o' rest k0 args h fr tmps k' defers cs args' g1 f1 hb ha hf1 hf2 hv hh
        obtain ⟨b1, b2, b3⟩ := opAt_some a1
        have htd := hb.todo
        rw [b3] at htd
        cases htd
        have hk' : k' = [] := by cases ha.k; rfl
        have hdf : defers = [] := by have := ha.defs; rw [a2] at this; cases this; rfl
        subst hk'; subst hdf
        have hcs := ha.cs
        rw [a3] at hcs
        cases hcs with
        | cons hc ht =>
        cases ht
        rename_i c'
        obtain ⟨tm, td, df, rd, rfl, c1, c2, c3, c4, c5⟩ := hc.ex
        rw [a7] at c4; cases c4
        rw [a8] at c5; cases c5
        have hargs : args' = #[.pointer (some ⟨Wg, 0, none⟩)] := by
          have hc := hb.chk
          unfold argsWg at hc
          split at hc
          · next bb =>
            obtain rfl := Nat.eq_of_beq_eq_true hc
            obtain ⟨al⟩ := args'
            cases hv with
            | cons hv1 ht =>
              cases ht
              cases hv1 with
              | ptr hb' =>
                have := hf2 _ _ (hf1 _ _ hbW)
                rw [this] at hb'
                cases hb'
                rw [hxW, hxO]
          · cases hc
        refine .here fun w1 hw1 => ⟨fun j v hj hv' => ?_, realF x1.s.fr tmps [] [] none, ⟨tmps, []⟩, ops, i, [realF cf tm td [] none, bottom p.prog], ?_, ?_⟩
        · have hy : y.s.h = h := by rw [hb.ey]
          rw [hy] at e4
          obtain ⟨q0, rc, ety, l', q1, q2, q3, q4⟩ := read_rel (hh.env hw1.1) (hf2 _ _ (hf1 _ _ hbB)) e4
          have hl' := q2.eq_of_closed e5
          subst hl'
          have := q3 j v hv'
          rw [show xB.off + (2 * k + j) = xB.off + Nat.mul 2 k + j by rw [Nat.add_assoc]; rfl]
          simpa [World.cell?, q1] using this
        · rw [hargs, enter_done H, realF_at hb.ret tmps [] []]
          rfl
        · refine quits_end (fn1 := fn1) (fn2 := fn2) (tmps := tm) (todo := td) ?_ ?_ ?_ a10 ?_ ?_ a12
          · simp [realF, a4]
          · cases ((ops[i]?).bind (·.dst)) <;> rfl
          · exact hp.funcs _ _ a9
          · simp [realF, a5, a6]
          · exact hp.funcs _ _ a11
      obtain ⟨m, hG⟩ := hQ
      refine ⟨m, ?_⟩
      have hk2 := hG.keep (I := fun Mi w => WgLive Lk.tWg Wg w ∧ PayAt C nC w ∧ (∀ i, ¬ Mi (cellAt Wg i))) ?_ ?_ ⟨hlive, hpay, hMW⟩
      · refine hk2.mono fun Mi g w hq => ?_
        obtain ⟨⟨hR, b, a, ops', i', cs, rfl, hqt⟩, hl, hpy, _⟩ := hq
        refine ⟨?_, ?_⟩
        · intro j v hj hv
          rw [show k + 1 - 1 = k from rfl, hvk] at hv
          exact hR j v hj hv
        · obtain ⟨cs', hc, hs⟩ := hpy
          have hlt : k < cs'.size := by omega
          refine ⟨cs'[k], ?_⟩
          have hh : w.cell? ⟨C, k, none⟩ = some cs'[k] := by simp [World.cell?, hc, hlt]
          exact doneX H (hT := hqt) w ⟨hl, hh⟩
      · intro Mi w w1 ⟨i1, i2, i3⟩ hr
        exact ⟨hr.2 i1, hr.1.pay i2, i3⟩
      · intro Mi w w' es Mi' ⟨i1, i2, i3⟩ hd
        obtain ⟨st, sm, hwg⟩ := i1
        refine ⟨⟨st, sm, hd.env.wg (fun i => i3 i) hwg⟩, hd.env.pay i2, fun i hm => ?_⟩
        rcases (hd.mine _).1 hm with hm | ⟨b, hb, h1, _⟩
        · exact i3 i hm
        · cases hb
          have h2 : Wg < w.heap.size := (Array.getElem?_eq_some_iff.1 hwg).1
          have h3 : w.heap.size ≤ Wg := h1
          omega
    · cases hw
  · cases hw
end
end Go.Cx
end
section
namespace Go.Cx
open Go.Conc Go.ConcN Go.Conc.Lib Go.ConcR.Gen Go.ConcN.Gen
open Go.ConcR (KK wgBlock WgAt stA smA rd wr mk Payload DC0)
section
variable {p : Tab} {f : Inj} {M Sh : Loc → Prop} {main : Bool} {w : World} {bot : List Frame} {h h1 : AHeap} {bB n : Nat} {xB : Base}
def Rem (xB : Base) (n k : Nat) (l : Loc) : Prop := ∃ i j, k ≤ i ∧ i < n ∧ j < 2 ∧ l = cellAt xB.blk (xB.off + (2 * i + j))
def One (xB : Base) (k : Nat) (l : Loc) : Prop := ∃ j, j < 2 ∧ l = cellAt xB.blk (xB.off + (2 * k + j))
theorem Rem.one {k : Nat} (hk : k < n) {l : Loc} (h : One xB k l) : Rem xB n k l := let ⟨j, h1, h2⟩ := h; ⟨k, j, Nat.le_refl _, hk, h1, h2⟩
theorem Rem.succ {k : Nat} {l : Loc} (h : Rem xB n (k + 1) l) : Rem xB n k l := let ⟨i, j, a, b, c, d⟩ := h; ⟨i, j, by omega, b, c, d⟩
theorem Rem.zero {k : Nat} {l : Loc} (h : Rem xB n k l) : Rem xB n 0 l := let ⟨i, j, a, b, c, d⟩ := h; ⟨i, j, by omega, b, c, d⟩
theorem Rem.not_one {k : Nat} {l : Loc} (h : Rem xB n (k + 1) l) : ¬ One xB k l := by
  rintro ⟨j', h1, h2⟩
  obtain ⟨i, j, a, b, c, d⟩ := h
  rw [d] at h2
  simp only [cellAt, Loc.cell.injEq, Addr.mk.injEq] at h2
  omega
theorem Rem.blk {k : Nat} {l : Loc} (h : Rem xB n k l) : locBlk l = some xB.blk := by obtain ⟨i, j, a, b, c, rfl⟩ := h; rfl
theorem allNone_get : ∀ {c : List (Option Value)}, allNone c = true → ∀ (i : Nat) (v : Value), c[i]? ≠ some (some v)
  | [], _, i, v, h => by simp at h
  | none :: c, hc, 0, v, h => by simp at h
  | none :: c, hc, i + 1, v, h => allNone_get (c := c) hc i v (by simpa using h)
  | some _ :: _, hc, _, _, _ => by cases hc
theorem blankAt_some (hb : blankAt h bB n = true) : ∃ c u, h.objs.get bB = some (.cells c u bB 0 [bB]) ∧ allNone c = true ∧ c.length = n := by
  unfold blankAt at hb
  split at hb
  · next c u r ba m e =>
    simp only [Bool.and_eq_true] at hb
    obtain ⟨⟨⟨⟨h1, h2⟩, h3⟩, h4⟩, h5⟩ := hb
    split at h5
    · next b =>
      obtain rfl := Nat.eq_of_beq_eq_true h5
      obtain rfl := Nat.eq_of_beq_eq_true h3
      obtain rfl := Nat.eq_of_beq_eq_true h4
      exact ⟨c, u, e, h1, Nat.eq_of_beq_eq_true h2⟩
    · cases h5
  · cases hb
theorem HRel.only {K Mi : Loc → Prop} (hr : HRel f K Mi h w) (hb : blankAt h bB n = true) (hB : f bB = some xB) {b : Nat} {x : Base} (hx : f b = some x) (he : x.blk = xB.blk) : b = bB := by
  obtain ⟨c, u, e, _, _⟩ := blankAt_some hb
  obtain ⟨o, h1, h2⟩ := hr.obj b x hx
  have hroot : rootOf b o = bB := by
    apply Classical.byContradiction
    intro hne
    exact hr.apart b bB x xB o _ hx hB h1 e (by simpa [rootOf] using hne) he
  cases o with
  | cells c' u' r ba m =>
    simp only [rootOf] at hroot
    obtain ⟨hm, _⟩ := hr.wf.mem b c' u' r ba m h1
    rw [hroot] at hm
    simp only [members, e] at hm
    simpa using hm
  | map es => simpa [rootOf] using hroot
  | loop l => simpa [rootOf] using hroot
  | deferred ds => simpa [rootOf] using hroot
theorem HRel.move (hr : HRel f (fun l => M l ∨ Sh l) M h w) (hb : blankAt h bB n = true) (hB : f bB = some xB) {M1 S1 : Loc → Prop} (ho : h1.objs = h.objs) (hn : h1.next = h.next)
    (hK : ∀ l, M l ∨ Sh l → (∀ i, l ≠ cellAt xB.blk i) → M1 l ∨ S1 l) (hm : ∀ b x, f b = some x → h1.owns b = true → ∀ l, locBlk l = some x.blk → M1 l)
    (hp : ∀ b x i, f b = some x → inList b i 1 h1.wl = true → M1 (cellAt x.blk (x.off + i))) : HRel f (fun l => M1 l ∨ S1 l) M1 h1 w := by
  refine ⟨⟨fun b o e => by rw [hn]; exact hr.wf.lt b o (ho ▸ e), fun b c x r ba m e => by rw [ho] at e ⊢; exact hr.wf.mem b c x r ba m e, fun r m e => by rw [ho] at e ⊢; exact hr.wf.kin r m e⟩, fun b x hx => ?_, hm, hp,
    fun b b' x x' o o' h1 h2 h3 h4 => hr.apart b b' x x' o o' h1 h2 (ho ▸ h3) (ho ▸ h4), fun b b' x x' o o' h1 h2 h3 h4 => hr.coord b b' x x' o o' h1 h2 (ho ▸ h3) (ho ▸ h4), fun b x hx => hK _ (hr.home b x hx) fun i => by simp⟩
  obtain ⟨o, e1, e2⟩ := hr.obj b x hx
  refine ⟨o, by rw [ho]; exact e1, ?_⟩
  match o, e2 with
  | .cells c u r ba m, ⟨a1, rc, e, a2, a3, a4, a5⟩ =>
    refine ⟨a1, rc, e, a2, a3, a4, fun i v hi => ?_⟩
    obtain ⟨k1, k2⟩ := a5 i v hi
    refine ⟨hK _ k1 fun j hj => ?_, k2⟩
    simp only [cellAt, Loc.cell.injEq, Addr.mk.injEq] at hj
    obtain rfl := hr.only hb hB hx hj.1
    obtain ⟨c', u', e', hn', _⟩ := blankAt_some hb
    rw [e1] at e'
    cases e'
    exact allNone_get hn' i v hi
  | .map es, ⟨a1, a2, a3⟩ => exact ⟨a1, hK _ a2 (fun i => by simp), a3⟩
  | .loop l, ⟨a1, a2, a3⟩ => exact ⟨a1, hK _ a2 (fun i => by simp), a3⟩
  | .deferred none, ⟨a1, a2, a3⟩ => exact ⟨a1, hK _ a2 (fun i => by simp), a3⟩
  | .deferred (some ds), ⟨a1, a2, a3⟩ => exact ⟨a1, hK _ a2 (fun i => by simp), a3⟩
theorem HRel.lt {K Mi : Loc → Prop} (hr : HRel f K Mi h w) {b : Nat} {x : Base} (hx : f b = some x) : b < h.next := let ⟨o, e, _⟩ := hr.obj b x hx; hr.wf.lt b o e
theorem born_step {P : Program} {fn : FuncId} {fu : Func} {c : Array Value} {cd : Code} (hf : P.funcs[fn]? = some fu) (hnum : ¬ fu.name = "runtime.NumGoroutine") (hbody : fu.body = some cd) :
    stepG P main (born P ⟨.fn (.func fn) c, #[]⟩) w = .go (G (Frame.enter P fn c .deferred) [bottom P]) w #[] := by
  simp [born, G, stepG, unwind, callDeferred, invoke, callFunc, hf, hnum, hbody, GStep.after, bottom, seen]
theorem apply_spawn {P : Program} {fr : Frame} {cs : List Frame} {sm : Sem Next} {d : Deferred} {fn : Fn} {c : Array Value} (hk : (fr.kind == CallKind.early) = false) (hd : d.target = .fn fn c) (hrun : sm.run P w = .ok (.spawn d) w) (hevs : sm.events P w #[] = #[]) :
    stepG.apply P true fr cs none sm w = .spawn (G (fr.finish undef) cs) (born P d) w #[] := by
  simp [stepG.apply, hrun, hevs, hk, hd, G, GStep.after, seen, born, -Sem.events_bind]
theorem spawn_step {s : S} {g : Goroutine} {ops : Array Oper} {i : Nat} {o : Oper} {rest : List Oper} {k : List AI} {tmps : Array Value} {k' : List Item} {defers : List Deferred} {cs : List Frame} {cl : Call} {v : Operand} {fn : FuncId} {first captured : Array Value}
    (ha : OpAt f bot s ops i o rest k g tmps k' defers cs) (hw : wantedA ops s.fr o = true) (eo : o.op = .go cl) (ec : cl.callee = .value v) (eargs : cl.args.toList = []) (ev : s.fr.ev v = some (.func (.func fn) first captured)) (efirst : first.toList = []) :
    ∃ c', VsRel f captured.toList c'.toList ∧ stepG p.prog main g w = .spawn (G (realF s.fr (putDst o.dst tmps undef) (.inRegion ops (List.range' (i + 1) rest.length) :: k') defers none) (cs ++ bot)) (born p.prog ⟨.fn (.func fn) c', #[]⟩) w #[] := by
  have hev := ha.temps.ev (fr := realF s.fr tmps (.inRegion ops (List.range' i (o :: rest).length) :: k') defers none) rfl
  have hv := hev _ _ ev
  generalize hv' : (realF s.fr tmps (.inRegion ops (List.range' i (o :: rest).length) :: k') defers none).eval v = v' at hv
  cases hv with
  | func hfn h1 h2 =>
    rename_i a' c'
    refine ⟨c', h2, ?_⟩
    have ha' : a' = #[] := by
      rw [efirst] at h1
      apply Array.toList_inj.1
      cases hl : a'.toList with
      | nil => rfl
      | cons y l => rw [hl] at h1; cases h1
    subst ha'
    have eargs' : cl.args = #[] := by apply Array.toList_inj.1; simpa using eargs
    have key : ∀ ρ : Operand → Value, ρ v = .func (.func fn) #[] c' → (execOp ρ o).run p.prog w = .ok (.spawn ⟨.fn (.func fn) c', #[]⟩) w ∧ (execOp ρ o).events p.prog w #[] = #[] := by
      intro ρ hρ
      constructor <;> simp [execOp, eo, resolve, ec, eargs', hρ, Deferred.ofValue]
    obtain ⟨hrun, hevs⟩ := key _ hv'
    have hst := stepG_at (p := p) (main := main) (s := s) (rest := rest) (k' := k') (cs := cs ++ bot) (w := w) (defers := defers) (round := none) (tmps := tmps) ha.ret (drop_cons ha.drop).1 (by rw [wanted_rel ha.temps]; exact hw) (fun _ _ => rfl)
    have hfin := finish_at (fr := s.fr) (tmps := tmps) (k' := k') (defers := defers) (round := none) (rest := rest) (drop_cons ha.drop).1 undef
    rw [ha.g, hst, ← hfin]
    have hk : ((realF s.fr tmps (.inRegion ops (List.range' i (o :: rest).length) :: k') defers none).kind == CallKind.early) = false := by
      simp only [realF]
      cases s.fr.deferred <;> rfl
    exact apply_spawn hk rfl hrun hevs
end
end Go.Cx
end
section
namespace Go.Cx
open Go.Conc Go.ConcN Go.Conc.Lib Go.ConcR.Gen Go.ConcN.Gen
open Go.ConcR (KK wgBlock WgAt stA smA rd wr mk Payload DC0)
def AtCall (p : Tab) (fn : FuncId) (chk : List Value → Bool) (bot : List Frame) (Sh : Loc → Prop) (x1 y : L) (f0 : Inj) (Mi : Loc → Prop) (g : Goroutine) (w : World) : Prop :=
  ∃ (ops : Array Oper) (i : Nat) (o : Oper) (rest : List Oper) (k : List AI) (args : List Value) (h : AHeap) (fr : AF) (tmps : Array Value) (k' : List Item) (defers : List Deferred) (cs : List Frame) (args' : Array Value) (g1 : Goroutine) (f1 f' : Inj),
    BackAt p fn chk x1 y ops i o rest k args h fr ∧ OpAt f1 bot x1.s ops i o rest k g1 tmps k' defers cs ∧ f0.le f1 ∧ f1.le f' ∧ VsRel f' args args'.toList ∧ HRel f' (fun l => Mi l ∨ Sh l) Mi h w ∧
      g = G (Frame.enter p.prog fn args' .normal) (realF x1.s.fr tmps (.inRegion ops (List.range' i (o :: rest).length) :: k') defers none :: (cs ++ bot))
section
variable {p : Tab} {pl : T (T (List Phase))} {f : Inj} {Mi Sh : Loc → Prop} {main : Bool} {w : World} {bot : List Frame} {L0 : World → Prop}
theorem atCall (hp : TabOk p) (hmix : p.prog.follows .mixedOrders = true) {fn : FuncId} {chk : List Value → Bool} {q : L → Bool} {n : Nat} {x x1 y : L} {g : Goroutine}
    (h1 : runTo p pl q n x = some x1) (h2 : backFrom p fn chk x1 = some y) (hr : XRel f Mi Sh bot x g w) : ∃ m, GoesX p.prog main Sh L0 (AtCall p fn chk bot Sh x1 y f) m Mi g w :=
  toCall (mQ := 0) hp hmix h1 h2 hr fun hb ha hf1 hf2 hv hh => .here fun w1 hw1 => ⟨_, _, _, _, _, _, _, _, _, _, _, _, _, _, _, _, hb, ha, hf1, hf2, hv, hh.env hw1.1, rfl⟩
end
section
variable [Payload]
variable {p : Tab} {pl : T (T (List Phase))} {Lk : WgLink} {Wg C nC : Nat} {xB xW : Base} {vals : List (List Value)} {c : Cfg} {hn : c.n < 2147483647} {hCW : C ≠ Wg} {hCB : C ≠ xB.blk} {w0 : World} {hWN : w0.heap.size ≤ Wg} {hCN : w0.heap.size ≤ C}
def J (Lk : WgLink) (Wg C nC : Nat) (xB : Base) (w0 : World) (n k : Nat) (Mi : Loc → Prop) (w : World) : Prop :=
  WgLive Lk.tWg Wg w ∧ PayAt C nC w ∧ (∀ i, ¬ Mi (cellAt Wg i)) ∧ (∀ l, Rem xB n k l → Mi l) ∧ (∀ l b, Mi l → locBlk l = some b → w0.heap.size ≤ b) ∧ w0.heap.size ≤ w.heap.size
def ShOk (w0 : World) (Wg : Nat) (Sh : Loc → Prop) : Prop := (∀ i, ¬ Sh (cellAt Wg i)) ∧ ∀ l b, Sh l → locBlk l = some b → w0.heap.size ≤ b
theorem J.rely {n k : Nat} {Mi Sh : Loc → Prop} {w w1 : World} (h : J Lk Wg C nC xB w0 n k Mi w) (hr : Rely (WgLive Lk.tWg Wg) (fun l => Mi l ∨ Sh l) w w1) : J Lk Wg C nC xB w0 n k Mi w1 := ⟨hr.2 h.1, hr.1.pay h.2.1, h.2.2.1, h.2.2.2.1, h.2.2.2.2.1, Nat.le_trans h.2.2.2.2.2 hr.1.size⟩
theorem J.did {n k : Nat} {Mi Mi' Sh : Loc → Prop} {w w' : World} {es : Array Event} (h : J Lk Wg C nC xB w0 n k Mi w) (hd : Did Mi Sh w w' es Mi') : J Lk Wg C nC xB w0 n k Mi' w' := by
  obtain ⟨⟨st, sm, hwg⟩, i2, i3, i4, i5, i6⟩ := h
  refine ⟨⟨st, sm, hd.env.wg (fun i => i3 i) hwg⟩, hd.env.pay i2, fun i hm => ?_, fun l hl => (hd.mine l).2 (.inl (i4 l hl)), fun l b hl hb => ?_, Nat.le_trans i6 hd.env.size⟩
  rotate_left
  · rcases (hd.mine _).1 hl with hm | ⟨b', hb', h1, _⟩
    · exact i5 l b hm hb
    · rw [hb] at hb'; cases hb'; omega
  rcases (hd.mine _).1 hm with hm | ⟨b, hb, h1, _⟩
  · exact i3 i hm
  · cases hb
    have h2 : Wg < w.heap.size := (Array.getElem?_eq_some_iff.1 hwg).1
    have h3 : w.heap.size ≤ Wg := h1
    omega
theorem J.keep {n k : Nat} {Mi Sh : Loc → Prop} {w : World} {P : Program} {main : Bool} {Q : (Loc → Prop) → Goroutine → World → Prop} {m : Nat} {g : Goroutine} (h : GoesX P main Sh (WgLive Lk.tWg Wg) Q m Mi g w) (hJ : J Lk Wg C nC xB w0 n k Mi w) :
    GoesX P main Sh (WgLive Lk.tWg Wg) (fun Mi g w => Q Mi g w ∧ J Lk Wg C nC xB w0 n k Mi w) m Mi g w :=
  h.keep (fun _ _ _ h hr => h.rely hr) (fun _ _ _ _ _ h hd => h.did hd) hJ
theorem args_add {f' : Inj} {bW : Nat} {args : List Value} {args' : Array Value} (hc : argsAdd bW args = true) (hv : VsRel f' args args'.toList) (hbW : f' bW = some xW) (h0 : xW.off = 0) : args' = #[.pointer (some ⟨xW.blk, 0, none⟩), .int .i64 1] := by
  unfold argsAdd at hc
  split at hc
  · obtain rfl := Nat.eq_of_beq_eq_true hc
    obtain ⟨al⟩ := args'
    cases hv with
    | cons hv1 ht =>
      cases hv1 with
      | ptr hb' =>
        cases ht with
        | cons hv2 ht2 =>
          cases ht2
          cases hv2
          rw [hbW] at hb'
          cases hb'
          rw [h0]
  · cases hc
theorem args_wg {f' : Inj} {bW : Nat} {args : List Value} {args' : Array Value} (hc : argsWg bW args = true) (hv : VsRel f' args args'.toList) (hbW : f' bW = some xW) (h0 : xW.off = 0) : args' = #[.pointer (some ⟨xW.blk, 0, none⟩)] := by
  unfold argsWg at hc
  split at hc
  · obtain rfl := Nat.eq_of_beq_eq_true hc
    obtain ⟨al⟩ := args'
    cases hv with
    | cons hv1 ht =>
      cases ht
      cases hv1 with
      | ptr hb' =>
        rw [hbW] at hb'
        cases hb'
        rw [h0]
  · cases hc
theorem lib_frame {f : Inj} {bot : List Frame} {s : S} {ops : Array Oper} {i : Nat} {o : Oper} {rest : List Oper} {k : List AI} {g : Goroutine} {tmps : Array Value} {k' : List Item} {defers : List Deferred} {cs : List Frame} (ha : OpAt f bot s ops i o rest k g tmps k' defers cs) :
    realF s.fr tmps (.inRegion ops (List.range' i (o :: rest).length) :: k') defers none = (realF s.fr tmps [] [] none).at ⟨tmps, defers⟩ (.inRegion ops (i :: List.range' (i + 1) rest.length) :: k') ∧
    (realF s.fr tmps [] [] none).at ((⟨tmps, defers⟩ : Act).put ((ops[i]?).bind (·.dst)) (.tuple #[])) (.inRegion ops (List.range' (i + 1) rest.length) :: k') = realF s.fr (putDst o.dst tmps (.tuple #[])) (.inRegion ops (List.range' (i + 1) rest.length) :: k') defers none := by
  constructor
  · rw [realF_at ha.ret tmps [] []]
    simp only [List.length_cons, List.range'_succ]
  · rw [(drop_cons ha.drop).1, Option.bind_some, put_eq, realF_at (tmps := putDst o.dst tmps (.tuple #[])) ha.ret tmps [] []]
variable {Next : (Loc → Prop) → (Loc → Prop) → Goroutine → World → Prop} {bot : List Frame}
def EndOk (p : Tab) (Lk : WgLink) (c : Cfg) (Wg C nC : Nat) (xB xW : Base) (w0 : World) (X : Crew) (Next : (Loc → Prop) → (Loc → Prop) → Goroutine → World → Prop) (bot : List Frame) (y : L) : Prop :=
  ∀ (f : Inj) (M Sh : Loc → Prop) (g : Goroutine) (w : World) (x1 : L), AtCall p Lk.wait (argsWg c.bW) bot Sh x1 y f M g w → f c.bW = some xW → f c.bB = some xB → J Lk Wg C nC xB w0 c.n c.n M w → ShOk w0 Wg Sh →
    YFin X.P X.ty X.Wg (fun l => M l ∨ Sh l) X.Joined (Next M Sh) g w
theorem forkA_some {x : L} {fn : FuncId} {args : List Value} {fr : AF} (h : forkA x = some (fn, args, fr)) : ∃ ops i o rest k cl v first captured, x = ⟨x.s, none, []⟩ ∧ x.s.fr.ret = false ∧ x.s.fr.round = none ∧ x.s.fr.todo = .reg ops i (o :: rest) :: k ∧
    o.op = .go cl ∧ cl.callee = .value v ∧ wantedA ops x.s.fr o = true ∧ cl.args.toList = [] ∧ x.s.fr.ev v = some (.func (.func fn) first captured) ∧ first.toList = [] ∧ captured.toList = args ∧ setDst x.s.fr o undef (.reg ops (Nat.succ i) rest :: k) = some fr := by
  unfold forkA at h
  split at h
  · next ops i o rest k e1 e2 e3 =>
    split at h
    · next cl e4 =>
      split at h
      · next v e5 =>
        split at h
        · next g first captured fr' e6 e7 e8 e9 =>
          split at h
          · next e10 =>
            cases h
            obtain ⟨a, b, d⟩ := opAt_some e3
            refine ⟨ops, i, o, rest, k, cl, v, first, captured, ?_, b, e2, d, e4, e5, e6, e7, e8, e10, rfl, e9⟩
            obtain ⟨s, reg, lay⟩ := x
            simp only at a e1
            subst a; subst e1
            rfl
          · cases h
        · cases h
      · cases h
    · cases h
  · cases h
theorem owns_lt {h : AHeap} {b : Nat} (h1 : h.owns b = true) : h.lo ≤ b := by
  unfold AHeap.owns at h1
  rw [Bool.and_eq_true] at h1
  exact Nat.le_of_ble_eq_true h1.1
theorem inList_two {bB k b i : Nat} (h : inList b i 1 [(bB, Nat.mul 2 k, 2)] = true) : b = bB ∧ ∃ j, j < 2 ∧ i = 2 * k + j := by
  simp only [inList, Bool.or_false, Bool.and_eq_true] at h
  obtain ⟨⟨h1, h2⟩, h3⟩ := h
  have h2' : 2 * k ≤ i := Nat.le_of_ble_eq_true h2
  have h3' : i + 1 ≤ 2 * k + 2 := Nat.le_of_ble_eq_true h3
  exact ⟨Nat.eq_of_beq_eq_true h1, i - 2 * k, by omega, by omega⟩
theorem go_point (H : WgLib p.prog Lk) (hp : TabOk p) (hmix : p.prog.follows .mixedOrders = true) (hdone : c.done = Lk.done) (hnC : c.n ≤ nC) {Then : (Loc → Prop) → (Loc → Prop) → Goroutine → World → Prop} {k : Nat} (hk : k < c.n) {x : L} {fn : FuncId} {args : List Value} {fr cf : AF} {vk : List Value}
    {f : Inj} {M Sh : Loc → Prop} {g : Goroutine} {w : World} (hr : XRel f M Sh bot x g w) (e1 : forkA x = some (fn, args, fr)) (e2 : blankAt x.s.h c.bB (Nat.mul 2 c.n) = true) (e3 : enterA p fn args true = some cf)
    (e4 : workerA p pl c k ⟨⟨cf, [], { x.s.h with lo := x.s.h.next, wl := [(c.bB, Nat.mul 2 k, 2)] }⟩, none, []⟩ = some vk) (hvk : vals.getD k [] = vk)
    (hbW : f c.bW = some xW) (hxW : xW.blk = Wg) (hxO : xW.off = 0) (hbB : f c.bB = some xB) (hJ : J Lk Wg C nC xB w0 c.n k M w) (hSh : ShOk w0 Wg Sh)
    (hThen : ∀ (M' S' : Loc → Prop) (g' : Goroutine), XRel f M' S' bot ⟨{ x.s with fr, h := { x.s.h with lo := x.s.h.next, wl := [] } }, none, []⟩ g' w → J Lk Wg C nC xB w0 c.n (k + 1) M' w → ShOk w0 Wg S' → Then M' S' g' w) :
    AtGo (Crw p Lk c.n Wg C nC xB.blk xB.off vals hn hCW hCB w0 hWN hCN) k Then Sh M g w := by
  obtain ⟨ops, i, o, rest, kk, cl, v, first, captured, a1, a2, a3, a4, a5, a6, a7, a8, a9, a10, a11, a12⟩ := forkA_some e1
  have hs : SRel f M Sh bot x.s g w := by rw [a1] at hr; exact hr.flat
  obtain ⟨tmps, k', defers, cs, ha⟩ := hs.opAt a2 a3 a4
  obtain ⟨c', v1, v2⟩ := spawn_step (p := p) (main := true) (w := w) ha a7 a5 a6 a8 a9 a10
  rw [a11] at v1
  obtain ⟨j1, j2, j3, j4, j5, j6⟩ := hJ
  obtain ⟨fu, cd, hfu, hcd⟩ : ∃ fu cd, p.funcs.get fn = some fu ∧ fu.body = some cd := by
    unfold enterA at e3
    split at e3
    · next fu e =>
      split at e3
      · next cd e' => exact ⟨fu, cd, e, e'⟩
      · cases e3
    · cases e3
  have hmv : ∀ {M1 : Loc → Prop} {wl : List (Nat × Nat × Nat)}, (∀ b x i, f b = some x → inList b i 1 wl = true → M1 (cellAt x.blk (x.off + i))) →
      HRel f (fun l => M1 l ∨ ((Sh l ∨ M l) ∧ ¬ Rem xB c.n 0 l)) M1 { x.s.h with lo := x.s.h.next, wl := wl } w := by
    intro M1 wl hp
    refine hs.heap.move e2 hbB rfl rfl (fun l hl hne => .inr ⟨hl.symm, fun hrem => ?_⟩) (fun b x hx ho => ?_) hp
    · obtain ⟨i, j, _, _, _, d⟩ := hrem
      exact hne _ d
    · have := owns_lt ho
      have := hs.heap.lt hx
      simp only at *
      omega
  have hW0 : ∀ {k0 : Nat} (i : Nat), k ≤ k0 → ¬ Rem xB c.n k0 (cellAt Wg i) := fun i hk0 hrem => j3 i (j4 _ (let ⟨i', j, a, b, d, e⟩ := hrem; ⟨i', j, by omega, b, d, e⟩))
  have hchild : WWorks (Crw p Lk c.n Wg C nC xB.blk xB.off vals hn hCW hCB w0 hWN hCN) (k + 1) (One xB k) (fun l => (Sh l ∨ M l) ∧ ¬ Rem xB c.n 0 l) (G (Frame.enter p.prog fn c' .deferred) [bottom p.prog]) w := by
    refine worker_goes H hp hmix hdone e4 hvk ?_ hbW hxW hxO hbB j1 j2 (fun i ho => hW0 (k0 := k) i (Nat.le_refl _) (Rem.one hk ho)) (by omega)
    refine SRel.flat (s := ⟨cf, [], _⟩) ⟨⟨_, [], rfl, enter_rel hp v1 e3 rfl, .nil⟩, hmv fun b x' i' hx hi => ?_⟩
    obtain ⟨rfl, j, hj, rfl⟩ := inList_two hi
    rw [hbB] at hx
    cases hx
    exact ⟨j, hj, rfl⟩
  obtain ⟨mc, hG⟩ := hchild
  refine ⟨by rw [ha.g]; rfl, _, _, v2, rfl, Rem xB c.n (k + 1), (fun l => (Sh l ∨ M l) ∧ ¬ Rem xB c.n 0 l), One xB k, (fun l => (Sh l ∨ M l) ∧ ¬ Rem xB c.n 0 l), fun l hl => j4 l hl.succ, fun l hl => hl.1, fun l hl => j4 l (Rem.one hk hl), fun l hl => hl.1,
    fun l hl => ⟨hl.not_one, fun h => h.2 hl.zero⟩, fun l hl h => h.2 (Rem.one hk hl).zero, fun l ⟨i', hi', e⟩ => ⟨i', hi', e⟩, ⟨mc + 1, ?_⟩, ?_⟩
  · exact .step rfl fun w1 h1 => ⟨_, w1, #[], _, born_step (hp.funcs _ _ hfu) (hp.num _ _ hfu) hcd, .quiet, hG.rely h1⟩
  · refine hThen _ _ _ ?_ ⟨j1, j2, fun i => hW0 i (by omega), fun l hl => hl, fun l b hl hb => j5 l b (j4 l hl.succ) hb, j6⟩ ⟨fun i h => h.1.elim (hSh.1 i) (j3 i), fun l b h hb => h.1.elim (fun x => hSh.2 l b x hb) (fun x => j5 l b x hb)⟩
    refine SRel.flat (call_back (f' := f) ha a12 f.le_refl (v' := undef) (.tuple .nil) (hmv fun b x i _ hi => by simp [inList] at hi))
theorem starts_sound (H : WgLib p.prog Lk) (hp : TabOk p) (hmix : p.prog.follows .mixedOrders = true) (hadd : c.add = Lk.add) (hdone : c.done = Lk.done) (hwait : c.wait = Lk.wait) (hnC : c.n ≤ nC) (hxW : xW.blk = Wg) (hxO : xW.off = 0) {y : L}
    (hEnd : EndOk p Lk c Wg C nC xB xW w0 (Crw p Lk c.n Wg C nC xB.blk xB.off vals hn hCW hCB w0 hWN hCN) Next bot y) :
    ∀ (r k : Nat) {x : L} {l : List (List Value)} {f : Inj} {M Sh : Loc → Prop} {g : Goroutine} {w : World}, startsA p pl c r k x = some (l, y) → k + r = c.n → (∀ j, vals.getD (k + j) [] = l.getD j []) → XRel f M Sh bot x g w →
      f c.bW = some xW → f c.bB = some xB → J Lk Wg C nC xB w0 c.n k M w → ShOk w0 Wg Sh → Script (Crw p Lk c.n Wg C nC xB.blk xB.off vals hn hCW hCB w0 hWN hCN) Next r M Sh g w
  | 0, k, x, l, f, M, Sh, g, w, hs, hkr, hv, hr, hbW, hbB, hJ, hSh => by
    simp only [startsA] at hs
    split at hs
    · next x1 e1 =>
      split at hs
      · next y' e2 =>
        cases hs
        rw [hwait] at e2
        obtain ⟨m, hG⟩ := atCall (main := true) (L0 := WgLive Lk.tWg Wg) hp hmix e1 e2 hr
        refine ⟨m, (J.keep hG hJ).mono fun Mi g w hq => ?_⟩
        obtain rfl : k = c.n := by omega
        exact hEnd f Mi Sh g w x1 hq.1 hbW hbB hq.2 hSh
      · cases hs
    · cases hs
  | r + 1, k, x, l, f, M, Sh, g, w, hs, hkr, hv, hr, hbW, hbB, hJ, hSh => by
    simp only [startsA] at hs
    split at hs
    · cases hs
    next x1 e1 =>
    split at hs
    · cases hs
    next x2 e2 =>
    split at hs
    · cases hs
    next x3 e3 =>
    split at hs
    · next fn args fr e4 e5 =>
      split at hs
      · cases hs
      next cf e6 =>
      split at hs
      · cases hs
      next vk e7 =>
      split at hs
      · next l' y' e8 =>
        cases hs
        have hk : k < c.n := by omega
        have hvk : vals.getD k [] = vk := by have := hv 0; simpa using this
        rw [hadd] at e2
        obtain ⟨_, m3, hm3⟩ := runTo_some e3
        obtain ⟨m, hG⟩ := atCall (main := true) (L0 := WgLive Lk.tWg Wg) hp hmix e1 e2 hr
        refine ⟨m, (J.keep hG hJ).mono fun Mi g w hq => ?_⟩
        obtain ⟨⟨ops, i, o, rest, kk, args', h', fr', tmps, k', defers, cs, args'', g1, f1, f', hb, ha, hf1, hf2, hva, hh, rfl⟩, hJ1⟩ := hq
        have hbW' := hf2 _ _ (hf1 _ _ hbW)
        have hbB' := hf2 _ _ (hf1 _ _ hbB)
        have hargs := args_add hb.chk hva hbW' hxO
        rw [hxW] at hargs
        obtain ⟨lf1, lf2⟩ := lib_frame ha
        refine ⟨40, ?_⟩
        rw [hargs, enter_add H, lf1]
        have hex : c.n - (r + 1) = k := by omega
        refine addPosX (F := fun w => HRel f' (fun l => Mi l ∨ Sh l) Mi h' w ∧ PayAt C nC w ∧ w0.heap.size ≤ w.heap.size) (mT := costL p pl m3 x2) H (fun i h => h.elim (hJ1.2.2.1 i) (hSh.1 i)) (fun w w' he hF => ⟨hF.1.env he, he.pay hF.2.1, Nat.le_trans hF.2.2 he.size⟩) ?_ w ⟨⟨hh, hJ1.2.1, hJ1.2.2.2.2.2⟩, hJ1.1⟩
        intro w2 hF hl2
        rw [lf2]
        have hx2 : XRel f' Mi Sh bot x2 (G (realF x1.s.fr (putDst o.dst tmps (.tuple #[])) (.inRegion ops (List.range' (i + 1) rest.length) :: k') defers none) (cs ++ bot)) w2 := by
          rw [hb.ey]
          exact SRel.flat (call_back ha hb.dst hf2 (v' := .tuple #[]) (.tuple .nil) hF.1)
        have hJ2 : J Lk Wg C nC xB w0 c.n k Mi w2 := ⟨hl2, hF.2.1, hJ1.2.2.1, hJ1.2.2.2.1, hJ1.2.2.2.2.1, hF.2.2⟩
        refine (J.keep (runL_sound (L0 := WgLive Lk.tWg Wg) hp hmix m3 hm3 hx2) hJ2).mono fun Mi3 g3 w3 hq3 => ?_
        obtain ⟨⟨f3, hf3, hx3⟩, hJ3⟩ := hq3
        show AtGo _ (c.n - (r + 1)) _ Sh Mi3 g3 w3
        rw [hex]
        exact go_point H hp hmix hdone hnC hk hx3 e4 e5 e6 e7 hvk (hf3 _ _ hbW') hxW hxO (hf3 _ _ hbB') hJ3 hSh fun M' S' g' hx4 hJ4 hS4 =>
          starts_sound H hp hmix hadd hdone hwait hnC hxW hxO hEnd r (k + 1) e8 (by omega) (fun j => by have := hv (j + 1); rw [show k + 1 + j = k + (j + 1) by omega]; simpa using this) hx4 (hf3 _ _ hbW') (hf3 _ _ hbB') hJ4 hS4
      · cases hs
    · cases hs
end
end Go.Cx
end
section
namespace Go.Cx
open Go.Conc Go.ConcN Go.Conc.Lib Go.ConcR.Gen Go.ConcN.Gen
open Go.ConcR (KK wgBlock WgAt stA smA rd wr mk Payload DC0)
section
variable {f : Inj} {K Mi : Loc → Prop} {w : World} {h : AHeap} {b n : Nat}
theorem wf_put {c c' : List (Option Value)} {u r ba : Nat} {m : List Nat} (hw : WF h) (e : h.objs.get b = some (.cells c u r ba m)) {h1 : AHeap} (h1o : h1.objs = h.objs.set b (.cells c' u r ba m)) (h1n : h1.next = h.next) : WF h1 := by
  have hmem : ∀ r', members h1.objs r' = members h.objs r' := by
    intro r'
    rw [h1o]
    unfold members
    by_cases hr : r' = b
    · subst hr; rw [T.get_set_same, e]
    · rw [T.get_set_ne _ _ hr]
  refine ⟨fun i o ho => ?_, fun i c1 u1 r1 ba1 m1 ho => ?_, fun r1 i hi => ?_⟩
  · rw [h1o] at ho
    rw [h1n]
    by_cases hi : i = b
    · subst hi; exact hw.lt _ _ e
    · rw [T.get_set_ne _ _ hi] at ho; exact hw.lt _ _ ho
  · rw [hmem]
    rw [h1o] at ho ⊢
    have old : ∃ c2 m2, h.objs.get i = some (.cells c2 u1 r1 ba1 m2) := by
      by_cases hi : i = b
      · subst hi; rw [T.get_set_same] at ho; cases ho; exact ⟨_, _, e⟩
      · rw [T.get_set_ne _ _ hi] at ho; exact ⟨_, _, ho⟩
    obtain ⟨c2, m2, ho'⟩ := old
    obtain ⟨k1, k2, c3, x3, m3, k3⟩ := hw.mem _ _ _ _ _ _ ho'
    refine ⟨k1, k2, ?_⟩
    by_cases hr : r1 = b
    · subst hr
      rw [e] at k3
      cases k3
      exact ⟨_, _, _, T.get_set_same _ _ _⟩
    · exact ⟨c3, x3, m3, by rw [T.get_set_ne _ _ hr]; exact k3⟩
  · rw [hmem] at hi
    obtain ⟨c2, x2, ba2, m2, k1⟩ := hw.kin r1 i hi
    rw [h1o]
    by_cases hib : i = b
    · subst hib
      rw [e] at k1
      cases k1
      exact ⟨_, _, _, _, T.get_set_same _ _ _⟩
    · exact ⟨c2, x2, ba2, m2, by rw [T.get_set_ne _ _ hib]; exact k1⟩
theorem HRel.recell (hr : HRel f K Mi h w) {c c' : List (Option Value)} {u r ba : Nat} {m : List Nat} (e : h.objs.get b = some (.cells c u r ba m)) (hlen : c'.length = c.length)
    {h1 : AHeap} (h1o : h1.objs = h.objs.set b (.cells c' u r ba m)) (h1n : h1.next = h.next) {K1 M1 : Loc → Prop}
    (hK : ∀ b' x o, b' ≠ b → f b' = some x → h.objs.get b' = some o → ORel f K x o w → ORel f K1 x o w)
    (hc : ∀ x, f b = some x → ∀ rc ety, w.heap[x.blk]? = some (.cells rc ety (0, 0)) → ∀ i v, c'[i]? = some (some v) → K1 (cellAt x.blk (x.off + i)) ∧ ∃ v', rc[x.off + i]? = some v' ∧ VRel f v v')
    (hm : ∀ b x, f b = some x → h1.owns b = true → ∀ l, locBlk l = some x.blk → M1 l) (hp : ∀ b x i, f b = some x → inList b i 1 h1.wl = true → M1 (cellAt x.blk (x.off + i))) (hH : ∀ b x, f b = some x → K1 (.obj x.blk)) : HRel f K1 M1 h1 w := by
  have get : ∀ {i : Nat} {o : AObj}, h1.objs.get i = some o → ∃ o', h.objs.get i = some o' ∧ rootOf i o = rootOf i o' ∧ baseOf o = baseOf o' := by
    intro i o ho
    rw [h1o] at ho
    by_cases hi : i = b
    · subst hi; rw [T.get_set_same] at ho; cases ho; exact ⟨_, e, rfl, rfl⟩
    · rw [T.get_set_ne _ _ hi] at ho; exact ⟨o, ho, rfl, rfl⟩
  refine ⟨wf_put hr.wf e h1o h1n, fun b' x hx => ?_, hm, hp, fun i i' x x' o o' a1 a2 a3 a4 a5 => ?_, fun i i' x x' o o' a1 a2 a3 a4 a5 a6 => ?_, hH⟩
  · obtain ⟨o, k1, k2⟩ := hr.obj b' x hx
    by_cases hb : b' = b
    · subst hb
      rw [e] at k1
      cases k1
      refine ⟨_, by rw [h1o]; exact T.get_set_same _ _ _, ?_⟩
      obtain ⟨a1, rc, ety, a2, a3, a4, _⟩ := k2
      exact ⟨a1, rc, ety, a2, a3, by rw [hlen]; exact a4, hc x hx rc ety a2⟩
    · exact ⟨o, by rw [h1o, T.get_set_ne _ _ hb]; exact k1, hK b' x o hb hx k1 k2⟩
  · obtain ⟨o1, g1, g2, _⟩ := get a3
    obtain ⟨o2, g3, g4, _⟩ := get a4
    exact hr.apart i i' x x' o1 o2 a1 a2 g1 g3 (by rw [← g2, ← g4]; exact a5)
  · obtain ⟨o1, g1, g2, g2'⟩ := get a3
    obtain ⟨o2, g3, g4, g4'⟩ := get a4
    have := hr.coord i i' x x' o1 o2 a1 a2 g1 g3 (by rw [← g2, ← g4]; exact a5) a6
    rw [g2', g4']
    exact this
theorem HRel.blank (hr : HRel f K Mi h w) : HRel f K Mi { h with objs := Cx.blank h.objs b } w := by
  unfold Cx.blank
  split
  · next c u r ba m e =>
    exact hr.recell (h1 := { h with objs := h.objs.set b (.cells (c.map fun _ => none) u r ba m) }) e (by simp) rfl rfl (fun _ _ _ _ _ _ h => h) (fun x hx rc ety _ i v hi => by simp at hi) hr.mine hr.part hr.home
  · exact hr
end
def AllBut (w0 : World) (Wg : Nat) (l : Loc) : Prop := ∃ b, locBlk l = some b ∧ b ≠ Wg ∧ w0.heap.size ≤ b
theorem ORel.hold {f : Inj} {K K1 : Loc → Prop} {x : Base} {o : AObj} {w : World} (h : ORel f K x o w) (hc : ∀ c u r ba m i v, o = .cells c u r ba m → c[i]? = some (some v) → K1 (cellAt x.blk (x.off + i))) (ho : (∀ c u r ba m, o ≠ .cells c u r ba m) → K1 (.obj x.blk)) : ORel f K1 x o w := by
  match o, h with
  | .cells c u r ba m, ⟨a1, rc, e, a2, a3, a4, a5⟩ => exact ⟨a1, rc, e, a2, a3, a4, fun i v hi => ⟨hc _ _ _ _ _ i v rfl hi, (a5 i v hi).2⟩⟩
  | .map es, ⟨a1, a2, a3⟩ => exact ⟨a1, (ho fun _ _ _ _ _ h => by cases h), a3⟩
  | .loop l, ⟨a1, a2, a3⟩ => exact ⟨a1, (ho fun _ _ _ _ _ h => by cases h), a3⟩
  | .deferred none, ⟨a1, a2, a3⟩ => exact ⟨a1, (ho fun _ _ _ _ _ h => by cases h), a3⟩
  | .deferred (some ds), ⟨a1, a2, a3⟩ => exact ⟨a1, (ho fun _ _ _ _ _ h => by cases h), a3⟩
theorem flatten_get : ∀ {vals : List (List Value)} {i : Nat} {v : Value}, (vals.all fun l => Nat.beq l.length 2 && l.all (closed 1)) = true → vals.flatten[i]? = some v → ∃ k j, i = 2 * k + j ∧ j < 2 ∧ k < vals.length ∧ (vals.getD k [])[j]? = some v ∧ closed 1 v = true
  | [], i, v, _, h => by simp at h
  | l :: vals, i, v, hok, h => by
    simp only [List.all_cons, Bool.and_eq_true] at hok
    obtain ⟨⟨h1, h2⟩, h3⟩ := hok
    have hl : l.length = 2 := Nat.eq_of_beq_eq_true h1
    simp only [List.flatten_cons] at h
    by_cases hi : i < 2
    · rw [List.getElem?_append_left (by omega)] at h
      have hm : v ∈ l := List.mem_of_getElem? h
      exact ⟨0, i, by omega, hi, by simp, by simpa using h, List.all_eq_true.1 h2 v hm⟩
    · rw [List.getElem?_append_right (by omega), hl] at h
      obtain ⟨k, j, e1, e2, e3, e4, e5⟩ := flatten_get (by simpa using h3) h
      exact ⟨k + 1, j, by omega, e2, by simpa using e3, by simpa using e4, e5⟩
theorem flatten_length : ∀ {vals : List (List Value)}, (vals.all fun l => Nat.beq l.length 2 && l.all (closed 1)) = true → vals.flatten.length = 2 * vals.length
  | [], _ => rfl
  | l :: vals, hok => by
    simp only [List.all_cons, Bool.and_eq_true] at hok
    obtain ⟨⟨h1, h2⟩, h3⟩ := hok
    have hl : l.length = 2 := Nat.eq_of_beq_eq_true h1
    have := flatten_length (vals := vals) (by simpa using h3)
    simp only [List.flatten_cons, List.length_append, List.length_cons]
    omega
section
variable [Payload] {p : Tab} {Lk : WgLink} {Wg C nC : Nat} {xB xW : Base} {vals : List (List Value)} {c : Cfg} {hn : c.n < 2147483647} {hCW : C ≠ Wg} {hCB : C ≠ xB.blk} {w0 : World} {hWN : w0.heap.size ≤ Wg} {hCN : w0.heap.size ≤ C}
theorem join_rel {f : Inj} {K Mi : Loc → Prop} {w : World} {h h2 : AHeap} (hr : HRel f K Mi h w) (hf : fillA c vals h = some h2) (hbW : f c.bW = some xW) (hxW : xW.blk = Wg) (hbB : f c.bB = some xB) (hBW : c.bB ≠ c.bW) (hN : ∀ b x, f b = some x → w0.heap.size ≤ x.blk)
    (hJ : (Crw p Lk c.n Wg C nC xB.blk xB.off vals hn hCW hCB w0 hWN hCN).Joined w) : HRel f (fun l => AllBut w0 Wg l ∨ l = .obj Wg) (AllBut w0 Wg) h2 w := by
  unfold fillA at hf
  split at hf
  · next hb =>
    cases hf
    simp only [Bool.and_eq_true] at hb
    obtain ⟨⟨b1, b2⟩, b3⟩ := hb
    unfold okVals at b3
    rw [Bool.and_eq_true] at b3
    have hnv : vals.length = c.n := Nat.eq_of_beq_eq_true b3.1
    obtain ⟨cc, u, e, n1, n2⟩ := blankAt_some b1
    obtain ⟨cw, uw, ew, m1, m2⟩ := blankAt_some b2
    have hne : ∀ b x, f b = some x → b ≠ c.bW → x.blk ≠ Wg := fun b x hx hb he => hb (hr.only b2 hbW hx (he.trans hxW.symm))
    refine hr.recell (b := c.bB) (c' := vals.flatten.map some) (h1 := { objs := refill h.objs c.bB (vals.flatten.map some), next := h.next, lo := 0, wl := [], no := c.bW }) e ?_ ?_ rfl (fun b' x o hb' hx ho hor => ?_) (fun x hx rc ety hrc i v hi => ?_) (fun b x hx ho l hl => ?_) (fun b x i hx hi => by simp [inList] at hi) (fun b x hx => ?_)
    · rw [List.length_map, flatten_length b3.2, n2, hnv]; rfl
    · simp only [refill, e]
    · by_cases hbw : b' = c.bW
      · subst hbw
        rw [ew] at ho
        cases ho
        refine hor.hold (fun c' u' r' ba' m' i v he hi => ?_) ?_
        · cases he
          exact absurd hi (allNone_get m1 i v)
        · intro h
          exact absurd rfl (h _ _ _ _ _)
      · have := hne b' x hx hbw
        exact hor.hold (fun _ _ _ _ _ i v _ _ => .inl ⟨_, rfl, this, hN _ _ hx⟩) (fun _ => .inl ⟨_, rfl, this, hN _ _ hx⟩)
    · rw [hbB] at hx
      cases hx
      have hne' := hne _ _ hbB hBW
      refine ⟨.inl ⟨_, rfl, hne', hN _ _ hbB⟩, ?_⟩
      rw [List.getElem?_map] at hi
      obtain ⟨v', hv', hvv⟩ := Option.map_eq_some_iff.1 hi
      cases hvv
      obtain ⟨k, j, q1, q2, q3, q4, q5⟩ := flatten_get b3.2 hv'
      have := hJ k (by show k < c.n; omega) j v q2 q4
      simp only [World.cell?, hrc] at this
      rw [q1]
      exact ⟨v, by simpa using this, closed_rel 1 v q5⟩
    · have hb : b ≠ c.bW := by
        rintro rfl
        simp [AHeap.owns, Nat.beq_refl] at ho
      exact ⟨_, hl, hne b x hx hb, hN _ _ hx⟩
    · by_cases hb : b = c.bW
      · subst hb
        rw [hbW] at hx
        cases hx
        exact .inr (by rw [hxW])
      · exact .inl ⟨_, rfl, hne b x hx hb, hN _ _ hx⟩
  · cases hf
end
end Go.Cx
end
