/- Ground of the proofs of statements about package arrow: it says nothing of a statement by itself, and has no condition. -/
import Derived.Test.YtlabfeofejemjaaGreatCx2
import Derived.Conc.Own
set_option linter.unusedSimpArgs false
set_option linter.unusedVariables false
section
namespace Go.Cx
open Go.Conc (G)
inductive IRel (f : Inj) : AI → Item → Prop where
  | code (c : Code) : IRel f (.code c) (.code c)
  | inBlock (id : Nat) : IRel f (.inBlock id) (.inBlock id)
  | inLoop (c : Code) : IRel f (.inLoop c) (.inLoop c)
  | inScope (c : Code) : IRel f (.inScope c) (.inScope c)
  | reg {ops : Array Oper} {i : Nat} {rest : List Oper} (h : rest = ops.toList.drop i) : IRel f (.reg ops i rest) (.inRegion ops (List.range' i rest.length))
  | inRF {l : Nat} {x : Base} (h : f l = some x) : IRel f (.inRF l) (.inRangeFunc x.blk)
  | endRF {l : Nat} {x : Base} (h : f l = some x) : IRel f (.endRF l) (.endRangeFunc x.blk)
  | beginRound : IRel f .beginRound .beginRound
inductive IsRel (f : Inj) : List AI → List Item → Prop where
  | nil : IsRel f [] []
  | cons {a : AI} {b : Item} {l : List AI} {l' : List Item} (h : IRel f a b) (t : IsRel f l l') : IsRel f (a :: l) (b :: l')
inductive RoRel (f : Inj) : Option Nat → Option Nat → Prop where
  | none : RoRel f none none
  | some {l : Nat} {x : Base} (h : f l = some x) : RoRel f (some l) (some x.blk)
def realF (a : AF) (tmps : Array Value) (todo : List Item) (defers : List Deferred) (round : Option Nat) : Frame :=
  { fn := a.fn, tmps, todo, defers, mode := if a.ret then .returning else .run, kind := if a.deferred then .deferred else .normal, roundOf := round }
structure FRel (f : Inj) (a : AF) (fr : Frame) : Prop where
  ex : ∃ tmps todo defers round, fr = realF a tmps todo defers round ∧ tmps.size = a.nt ∧ TRel f a.tmps tmps ∧ IsRel f a.todo todo ∧ DsRel f a.defers defers ∧ RoRel f a.round round
inductive FsRel (f : Inj) : List AF → List Frame → Prop where
  | nil : FsRel f [] []
  | cons {a : AF} {b : Frame} {l : List AF} {l' : List Frame} (h : FRel f a b) (t : FsRel f l l') : FsRel f (a :: l) (b :: l')
theorem IRel.mono {f g : Inj} (hfg : f.le g) : ∀ {a b}, IRel f a b → IRel g a b
  | _, _, .code c => .code c
  | _, _, .inBlock id => .inBlock id
  | _, _, .inLoop c => .inLoop c
  | _, _, .inScope c => .inScope c
  | _, _, .reg h => .reg h
  | _, _, .inRF h => .inRF (hfg _ _ h)
  | _, _, .endRF h => .endRF (hfg _ _ h)
  | _, _, .beginRound => .beginRound
theorem IsRel.mono {f g : Inj} (hfg : f.le g) : ∀ {a b}, IsRel f a b → IsRel g a b
  | _, _, .nil => .nil
  | _, _, .cons h t => .cons (h.mono hfg) (t.mono hfg)
theorem RoRel.mono {f g : Inj} (hfg : f.le g) : ∀ {a b}, RoRel f a b → RoRel g a b
  | _, _, .none => .none
  | _, _, .some h => .some (hfg _ _ h)
theorem FRel.mono {f g : Inj} (hfg : f.le g) {a : AF} {b : Frame} (h : FRel f a b) : FRel g a b := by
  obtain ⟨tmps, todo, defers, round, h1, h2, h3, h4, h5, h6⟩ := h.ex
  exact ⟨tmps, todo, defers, round, h1, h2, h3.mono hfg, h4.mono hfg, h5.mono hfg, h6.mono hfg⟩
theorem FsRel.mono {f g : Inj} (hfg : f.le g) : ∀ {a b}, FsRel f a b → FsRel g a b
  | _, _, .nil => .nil
  | _, _, .cons h t => .cons (h.mono hfg) (t.mono hfg)
structure SRel (f : Inj) (Mi Sh : Loc → Prop) (bot : List Frame) (s : S) (g : Goroutine) (w : World) : Prop where
  fr : ∃ fr cs, g = G fr (cs ++ bot) ∧ FRel f s.fr fr ∧ FsRel f s.cs cs
  heap : HRel f (fun l => Mi l ∨ Sh l) Mi s.h w
theorem SRel.env {f : Inj} {Mi Sh : Loc → Prop} {bot : List Frame} {s : S} {g : Goroutine} {w w' : World} (h : SRel f Mi Sh bot s g w) (he : Env (fun l => Mi l ∨ Sh l) w w') : SRel f Mi Sh bot s g w' := ⟨h.fr, h.heap.env he⟩
theorem fold_sub {α : Type} {g : α × Array Event → Event → α × Array Event} (hg : ∀ x a, (g x a).2 = x.2 ∨ (g x a).2 = x.2.push a) (e : Event) : ∀ (l : List Event) (x : α × Array Event), e ∈ (l.foldl g x).2 → e ∈ x.2 ∨ e ∈ l
  | [], x, h => .inl h
  | a :: l, x, h => by
    simp only [List.foldl_cons] at h
    rcases fold_sub hg e l _ h with h | h
    · rcases hg x a with h' | h'
      · rw [h'] at h; exact .inl h
      · rw [h', Array.mem_push] at h
        rcases h with h | rfl
        · exact .inl h
        · exact .inr List.mem_cons_self
    · exact .inr (List.mem_cons_of_mem _ h)
theorem seen_sub {p : Program} {fn : FuncId} {es : Array Event} : ∀ e ∈ seen p fn es, e ∈ es := by
  intro e he
  unfold seen at he
  simp only [← Array.foldl_toList] at he
  refine (fold_sub (fun x a => ?_) e _ _ he).elim (fun h => absurd h (by simp)) (fun h => by simpa using h)
  · obtain ⟨q, kept⟩ := x
    simp only []
    split
    · exact .inl rfl
    · split
      · exact .inl rfl
      · exact .inr rfl
theorem Did.seen {Mi Mi' Sh : Loc → Prop} {w w' : World} {es : Array Event} (h : Did Mi Sh w w' es Mi') (p : Program) (fn : FuncId) : Did Mi Sh w w' (seen p fn es) Mi' := ⟨h.env, h.mine, fun e he => h.evs e (seen_sub e he)⟩
theorem TRel.ev {f : Inj} {t : T Value} {a : Array Value} (h : TRel f t a) {fr : Frame} (hfr : fr.tmps = a) : ∀ x v, Cx.ev t x = some v → VRel f v (fr.eval x) := by
  intro x v e
  cases x with
  | tmp i =>
    simp only [Cx.ev, Option.some.injEq] at e
    have := h i
    rw [Frame.eval, hfr]
    cases et : t.get i with
    | none => rw [et] at e this; subst e; exact this
    | some u => rw [et] at e this; subst e; exact this
  | const v' =>
    simp only [Cx.ev] at e
    cases ec : closed depthC v' with
    | false => rw [ec] at e; cases e
    | true => rw [ec] at e; cases e; exact closed_rel _ _ ec
  | global g => cases e
  | func g => cases e; exact .func rfl .nil .nil
theorem TRel.set {f : Inj} {t : T Value} {a : Array Value} {v v' : Value} (h : TRel f t a) (hv : VRel f v v') {d : Nat} (hd : d < a.size) : TRel f (t.set d v) (a.setIfInBounds d v') := by
  intro i
  by_cases hi : i = d
  · subst hi
    rw [T.get_set_same]
    simp [Array.getD, hd]
    exact hv
  · rw [T.get_set_ne _ _ hi]
    have := h i
    have e : (a.setIfInBounds d v').getD i undef = a.getD i undef := by
      rw [Array.getD_eq_getD_getElem?, Array.getD_eq_getD_getElem?, Array.getElem?_setIfInBounds_ne (Ne.symm hi)]
    rw [e]
    exact this
end Go.Cx
end
section
namespace Go.Cx
open Go.Conc (G)
variable {p : Tab} {f : Inj} {Mi Sh : Loc → Prop} {bot : List Frame} {main : Bool}
def Adv (P : Program) (main : Bool) (f : Inj) (Mi Sh : Loc → Prop) (bot : List Frame) (h : AHeap) (g : Goroutine) (w : World) (s' : S) : Prop :=
  ∃ g' w' es Mi' f', stepG P main g w = .go g' w' es ∧ f.le f' ∧ Did Mi Sh w w' es Mi' ∧ SRel f' Mi' Sh bot s' g' w' ∧ Old f h f' s'.h
theorem adv_still {h : AHeap} {g g' : Goroutine} {w : World} {s' : S} {es : Array Event} (hs : stepG p.prog main g w = .go g' w es) (he : es = #[]) (hr : SRel f Mi Sh bot s' g' w) (hh : s'.h = h) : Adv p.prog main f Mi Sh bot h g w s' :=
  ⟨g', w, es, Mi, f, hs, f.le_refl, by rw [he]; exact .quiet, hr, by rw [hh]; exact .refl _ _⟩
theorem exitTo_rel {id : Nat} : ∀ {l : List AI} {l' : List Item}, IsRel f l l' → (∀ k, exitToA id l = some k → ∃ k', exitTo id l' = some k' ∧ IsRel f k k') ∧ (exitToA id l = none → exitTo id l' = none)
  | [], _, .nil => ⟨fun k h => by simp [exitToA] at h, fun _ => rfl⟩
  | _ :: _, _, .cons h t => by
    have ih := exitTo_rel (id := id) t
    cases h with
    | inBlock i =>
      simp only [exitToA, exitTo]
      by_cases hi : i = id
      · rw [T.beq_true hi]
        simp only [hi, beq_self_eq_true, if_true]
        exact ⟨fun k e => by cases e; exact ⟨_, rfl, t⟩, fun e => by cases e⟩
      · rw [T.beq_false hi]
        have : (i == id) = false := by simpa using hi
        simp only [this, Bool.false_eq_true, if_false]
        exact ih
    | _ => simpa only [exitToA, exitTo] using ih
theorem gotoIn_rel {l : Nat} : ∀ {a : List AI} {b : List Item}, IsRel f a b → (∀ k, gotoInA l a = some k → ∃ k', gotoIn l b = some k' ∧ IsRel f k k') ∧ (gotoInA l a = none → gotoIn l b = none)
  | [], _, .nil => ⟨fun k h => by simp [gotoInA] at h, fun _ => rfl⟩
  | _ :: _, _, .cons h t => by
    have ih := gotoIn_rel (l := l) t
    cases h with
    | inScope c =>
      simp only [gotoInA, gotoIn]
      cases findLabel c l with
      | none => exact ih
      | some r => exact ⟨fun k e => by cases e; exact ⟨_, rfl, .cons (.code _) (.cons (.inScope _) t)⟩, fun e => by cases e⟩
    | _ => simpa only [gotoInA, gotoIn] using ih
theorem SRel.out {s : S} {g : Goroutine} {w : World} (h : SRel f Mi Sh bot s g w) : ∃ tmps todo defers round cs, g = G (realF s.fr tmps todo defers round) (cs ++ bot) ∧ tmps.size = s.fr.nt ∧ TRel f s.fr.tmps tmps ∧ IsRel f s.fr.todo todo ∧ DsRel f s.fr.defers defers ∧ RoRel f s.fr.round round ∧ FsRel f s.cs cs ∧ HRel f (fun l => Mi l ∨ Sh l) Mi s.h w := by
  obtain ⟨fr, cs, h1, h2, h3⟩ := h.fr
  obtain ⟨tmps, todo, defers, round, k1, k2, k3, k4, k5, k6⟩ := h2.ex
  subst k1
  exact ⟨tmps, todo, defers, round, cs, h1, k2, k3, k4, k5, k6, h3, h.heap⟩
section
variable {fr : AF} {cs' : List AF} {h : AHeap} {w : World} {tmps : Array Value} {todo : List Item} {defers : List Deferred} {round : Option Nat} {cs : List Frame}
theorem adv_to (hret : fr.ret = false) (hsz : tmps.size = fr.nt) (ht : TRel f fr.tmps tmps) (hd : DsRel f fr.defers defers) (hro : RoRel f fr.round round) (hcs : FsRel f cs' cs) (hr : HRel f (fun l => Mi l ∨ Sh l) Mi h w) {k : List AI} {k' : List Item} (hk : IsRel f k k')
    (hs : stepG p.prog main (G (realF fr tmps todo defers round) (cs ++ bot)) w = .go (G (realF { fr with todo := k } tmps k' defers round) (cs ++ bot)) w #[]) :
    Adv p.prog main f Mi Sh bot h (G (realF fr tmps todo defers round) (cs ++ bot)) w { fr := { fr with todo := k }, cs := cs', h } :=
  adv_still hs rfl ⟨⟨_, _, rfl, ⟨_, _, _, _, rfl, hsz, ht, hk, hd, hro⟩, hcs⟩, hr⟩ rfl
end
theorem drop_cons {ops : Array Oper} {i : Nat} {o : Oper} {rest : List Oper} (h : o :: rest = ops.toList.drop i) : ops[i]? = some o ∧ rest = ops.toList.drop (i + 1) := by
  constructor
  · have : (ops.toList.drop i)[0]? = some o := by rw [← h]; rfl
    rw [List.getElem?_drop] at this
    simpa using this
  · have : (ops.toList.drop i).drop 1 = rest := by rw [← h]; rfl
    rw [List.drop_drop] at this
    exact this.symm
def putDst (d : Option Tmp) (tmps : Array Value) (v : Value) : Array Value :=
  match d with
  | some d => tmps.setIfInBounds d v
  | none => tmps
theorem setDst_rel {fr fr' : AF} {o : Oper} {v v' : Value} {k : List AI} {k' : List Item} {tmps : Array Value} {defers : List Deferred} {round : Option Nat} (hs : setDst fr o v k = some fr') (hv : VRel f v v')
    (hsz : tmps.size = fr.nt) (ht : TRel f fr.tmps tmps) (hk : IsRel f k k') (hd : DsRel f fr.defers defers) (hro : RoRel f fr.round round) :
    FRel f fr' (realF fr (putDst o.dst tmps v') k' defers round) ∧ fr'.ret = fr.ret ∧ fr'.deferred = fr.deferred ∧ fr'.round = fr.round := by
  unfold setDst at hs
  cases ed : o.dst with
  | none =>
    rw [ed] at hs
    cases hs
    exact ⟨⟨_, _, _, _, rfl, hsz, ht, hk, hd, hro⟩, rfl, rfl, rfl⟩
  | some d =>
    rw [ed] at hs
    simp only [] at hs
    cases eb : Nat.blt d fr.nt with
    | false => rw [eb] at hs; cases hs
    | true =>
      rw [eb] at hs
      cases hs
      have hlt : d < tmps.size := by rw [hsz]; exact Nat.lt_of_succ_le (by simpa [Nat.blt] using eb)
      exact ⟨⟨_, _, _, _, rfl, by simpa [putDst] using hsz, ht.set hv hlt, hk, hd, hro⟩, rfl, rfl, rfl⟩
theorem finish_rel {c c' : AF} {fr : Frame} {v v' : Value} (h : FRel f c fr) (hv : VRel f v v') (hf : finishA c v = some c') : FRel f c' (fr.finish v') ∧ c'.ret = c.ret := by
  obtain ⟨tmps, todo, defers, round, rfl, hsz, ht, hk, hd, hro⟩ := h.ex
  unfold finishA at hf
  split at hf
  · next ops i o rest k e =>
    rw [e] at hk
    cases hk with
    | cons h1 h2 =>
      cases h1 with
      | reg hdrop =>
        rename_i k'
        obtain ⟨e1, e2⟩ := drop_cons hdrop
        obtain ⟨k1, k2, _⟩ := setDst_rel hf hv hsz ht (k' := .inRegion ops (List.range' (i + 1) rest.length) :: _) (.cons (.reg e2) h2) hd hro
        refine ⟨?_, k2⟩
        have : (realF c tmps (.inRegion ops (List.range' i (o :: rest).length) :: k') defers round).finish v' = realF c (putDst o.dst tmps v') (.inRegion ops (List.range' (i + 1) rest.length) :: k') defers round := by
          simp only [List.length_cons, List.range'_succ, Frame.finish, realF, e1, Option.bind_some]
          unfold putDst
          cases o.dst <;> rfl
        rw [this]
        exact k1
  · next l k e =>
    cases hf
    rw [e] at hk
    cases hk with
    | cons h1 h2 =>
      cases h1 with
      | inRF hl => exact ⟨⟨_, _, _, _, rfl, hsz, ht, .cons (.endRF hl) h2, hd, hro⟩, rfl⟩
  · cases hf
theorem pop_rel {s s' : S} {v v' : Value} {fr : Frame} {cs : List Frame} {w : World} (hp : popA s v = .next s') (hv : VRel f v v') (hcs : FsRel f s.cs cs) (hr : HRel f (fun l => Mi l ∨ Sh l) Mi s.h w) (hkind : fr.kind = if s.fr.deferred then .deferred else .normal) :
    ∃ g', doReturn p.prog main fr (cs ++ bot) none v' w = .go g' w #[] ∧ SRel f Mi Sh bot s' g' w ∧ s'.h = s.h := by
  obtain ⟨sfr, scs, sh⟩ := s
  unfold popA at hp
  simp only [] at hp hcs hkind hr
  cases hcs with
  | nil => cases hp
  | cons hc t =>
    rename_i c cf l l'
    simp only [] at hp
    cases ed : sfr.deferred with
    | true =>
      rw [ed] at hp hkind
      simp only [] at hp
      cases er : c.ret with
      | false => rw [er] at hp; cases hp
      | true =>
        rw [er] at hp
        cases hp
        obtain ⟨tmps, todo, defers, round, rfl, hrest⟩ := hc.ex
        refine ⟨G (realF c tmps todo defers round) (l' ++ bot), ?_, ⟨⟨_, _, rfl, ⟨_, _, _, _, rfl, hrest⟩, t⟩, hr⟩, rfl⟩
        simp [doReturn, hkind, realF, er, G]
    | false =>
      rw [ed] at hp hkind
      simp only [] at hp
      cases er : c.ret with
      | true => rw [er] at hp; cases hp
      | false =>
        rw [er] at hp
        cases ef : finishA c v with
        | none => rw [ef] at hp; cases hp
        | some c' =>
          rw [ef] at hp
          cases hp
          obtain ⟨k1, k2⟩ := finish_rel hc hv ef
          refine ⟨G (cf.finish v') (l' ++ bot), ?_, ⟨⟨_, _, rfl, k1, t⟩, hr⟩, rfl⟩
          simp [doReturn, hkind, G]
end Go.Cx
end
section
namespace Go.Cx
open Go.Conc (G)
variable {p : Tab} {f : Inj} {Mi Sh : Loc → Prop} {bot : List Frame} {main : Bool} {h : AHeap} {w : World}
theorem getObj_any (P : Program) {r : Nat} {o : Obj} (hh : w.heap[r]? = some o) (hc : ∀ c e fr, o ≠ .cells c e fr) (hn : o.isChan = false) : (getObj r).run P w = .ok o w ∧ ∀ ev, (getObj r).events P w ev = ev.push ⟨.obj r, false, false⟩ := by
  constructor
  · cases o <;> first | exact absurd rfl (hc _ _ _) | simp [getObj, Sem.run, hh]
  · intro ev
    cases o <;> first | exact absurd rfl (hc _ _ _) | simp [getObj, Sem.events, Sem.runT, hh, hn, -Sem.runT_eq]
theorem setObj_any (P : Program) {r : Nat} {o o' : Obj} (hh : w.heap[r]? = some o) (hc : ∀ c e fr, o ≠ .cells c e fr) (hn : o'.isChan = false) : (setObj r o').run P w = .ok () { w with heap := w.heap.setIfInBounds r o' } ∧ ∀ ev, (setObj r o').events P w ev = ev.push ⟨.obj r, true, false⟩ := by
  constructor
  · cases o <;> first | exact absurd rfl (hc _ _ _) | simp [setObj, Sem.run, hh]
  · intro ev
    cases o <;> first | exact absurd rfl (hc _ _ _) | simp [setObj, Sem.events, Sem.runT, hh, hn, -Sem.runT_eq]
theorem setLoop_sound (hr : HRel f (fun l => Mi l ∨ Sh l) Mi h w) {l : Nat} {x : Base} {al al' : ALoop} (hl : f l = some x) (ho : h.objs.get l = some (.loop al)) (hlo : h.owns l = true) :
    ∃ l', LRel f al l' ∧ (∀ P, (Instr.getLoop x.blk).run P w = .ok l' w ∧ ∀ ev, (Instr.getLoop x.blk).events P w ev = ev.push ⟨.obj x.blk, false, false⟩) ∧
      ∀ l'' : Loop, LRel f al' l'' → ∃ w', (∀ P, (setObj x.blk (.loop l'')).run P w = .ok () w' ∧ ∀ ev, (setObj x.blk (.loop l'')).events P w ev = ev.push ⟨.obj x.blk, true, false⟩) ∧
        Did Mi Sh w w' #[⟨.obj x.blk, false, false⟩, ⟨.obj x.blk, true, false⟩] Mi ∧ HRel f (fun l => Mi l ∨ Sh l) Mi (h.put l (.loop al')) w' ∧ Old f h f (h.put l (.loop al')) := by
  obtain ⟨o, o1, o2⟩ := hr.obj l x hl
  rw [ho] at o1; cases o1
  obtain ⟨hx0, hK, l', k1, k2⟩ := o2
  have hMi : Mi (.obj x.blk) := hr.mine l x hl hlo _ rfl
  refine ⟨l', k2, fun P => ?_, fun l'' hl'' => ⟨{ w with heap := w.heap.setIfInBounds x.blk (.loop l'') }, fun P => setObj_any P k1 (fun _ _ _ h => by cases h) rfl, ⟨env_putObj rfl k1 (fun _ _ _ h => by cases h) hMi, fun l => ?_, fun ev hev => ?_⟩, ?_, .put hl⟩⟩
  · obtain ⟨g1, g2⟩ := getObj_any P k1 (fun _ _ _ h => by cases h) rfl
    exact ⟨by simp [Instr.getLoop, g1], fun ev => by simp [Instr.getLoop, g1, g2]⟩
  · simp only [Array.size_setIfInBounds]
    exact ⟨.inl, fun h => h.elim id fun ⟨b, _, h1, h2⟩ => absurd h2 (Nat.not_lt.2 h1)⟩
  · simp at hev
    rcases hev with rfl | rfl <;> exact .inr ⟨rfl, .inl hMi⟩
  · exact putObj_rel hr hl ho ⟨_, rfl⟩ (fun _ _ _ _ _ h => by cases h) rfl k1 fun w₂ h₂ => ⟨hx0, hK, _, h₂, hl''⟩
theorem leave_sound {s s' : S} {jump : Option Code} {tmps : Array Value} {todo : List Item} {defers : List Deferred} {round : Option Nat} {cs : List Frame} (hret : s.fr.ret = false) (hsz : tmps.size = s.fr.nt) (ht : TRel f s.fr.tmps tmps) (hk : IsRel f s.fr.todo todo) (hd : DsRel f s.fr.defers defers)
    (hro : RoRel f s.fr.round round) (hcs : FsRel f s.cs cs) (hr : HRel f (fun l => Mi l ∨ Sh l) Mi s.h w) (hle : leaveA s jump = .next s')
    (h0 : round = none → (jump = none ∨ jump = some .ret) → stepG p.prog main (G (realF s.fr tmps todo defers round) (cs ++ bot)) w = .go (G { realF s.fr tmps todo defers round with mode := .returning } (cs ++ bot)) w #[])
    (h1 : ∀ l, round = some l → ∀ y w1 es, (Instr.endRound l jump).runT p.prog w #[] = (.ok y w1, es) → stepG p.prog main (G (realF s.fr tmps todo defers round) (cs ++ bot)) w =
       GStep.after (seen p.prog s.fr.fn es) (doReturn p.prog main (realF s.fr tmps todo defers round) (cs ++ bot) none y w1)) :
    Adv p.prog main f Mi Sh bot s.h (G (realF s.fr tmps todo defers round) (cs ++ bot)) w s' := by
  obtain ⟨sfr, scs, sh⟩ := s
  simp only [] at *
  unfold leaveA at hle
  cases hro' : sfr.round with
  | none =>
    rw [hro'] at hro hle
    cases hro
    simp only [] at hle
    have hs' : s' = { fr := { sfr with ret := true }, cs := scs, h := sh } ∧ (jump = none ∨ jump = some .ret) := by
      split at hle
      · cases hle; exact ⟨rfl, .inl rfl⟩
      · cases hle; exact ⟨rfl, .inr rfl⟩
      · cases hle
    obtain ⟨rfl, hj⟩ := hs'
    refine adv_still (h0 rfl hj) rfl ⟨⟨_, _, rfl, ⟨_, _, _, _, ?_, hsz, ht, hk, hd, by show RoRel f sfr.round none; rw [hro']; exact .none⟩, hcs⟩, hr⟩ rfl
    simp [realF, hret]
  | some l =>
    rw [hro'] at hro hle
    cases hro with
    | some hl =>
      rename_i x
      simp only [] at hle
      split at hle
      · next r e1 e2 =>
        obtain ⟨l', k1, k2, k3⟩ := setLoop_sound (al' := { r with state := jumpState jump, pending := jump }) hr hl e1 e2
        obtain ⟨w', q1, q2, q3, q4⟩ := k3 { l' with state := if jump.isNone then .ready else .done, pending := jump } ⟨by cases jump <;> rfl, rfl, k1.fn, k1.size, k1.tmps, k1.params, k1.assign, k1.body, k1.defers⟩
        have hv : VRel f (.bool (jumpNone jump)) (.bool jump.isNone) := by cases jump <;> exact .bool _
        obtain ⟨g', d1, d2, d3⟩ := pop_rel (p := p) (main := main) (bot := bot) (fr := realF sfr tmps todo defers (some x.blk)) hle hv hcs q3 rfl
        refine ⟨g', w', _, Mi, f, ?_, f.le_refl, q2.seen p.prog sfr.fn, d2, ?_⟩
        · have er : (Instr.endRound x.blk jump).runT p.prog w #[] = (.ok (.bool jump.isNone) w', #[⟨.obj x.blk, false, false⟩, ⟨.obj x.blk, true, false⟩]) := by
            rw [Sem.runT_eq]
            have a1 := (k2 p.prog).1
            have a2 := (k2 p.prog).2
            have b1 := (q1 p.prog).1
            have b2 := (q1 p.prog).2
            simp only [Instr.endRound, Sem.run_bind, Sem.events_bind, a1, a2, Result.andThen_ok, Result.evThen_ok, b1, b2, Sem.run_pure, Sem.events_pure]
            rfl
          rw [h1 _ rfl _ _ _ er]
          simp only [d1, GStep.after, Array.append_empty]
        · rw [d3]; exact q4
      · cases hle
end Go.Cx
end
section
namespace Go.Cx
open Go.Conc (G)
variable {p : Tab} {f : Inj} {Mi Sh : Loc → Prop} {bot : List Frame} {main : Bool} {h h' : AHeap} {w : World}
theorem fold_get : ∀ (l : List Value) (k : Nat) (t : T Value) (i : Nat), ((l.zipIdx k).foldl (fun t x => t.set x.2 x.1) t).get i = if k ≤ i ∧ i < k + l.length then l[i - k]? else t.get i
  | [], k, t, i => by simp; intro h1 h2; omega
  | a :: l, k, t, i => by
    simp only [List.zipIdx_cons, List.foldl_cons]
    rw [fold_get l (k + 1) _ i]
    by_cases h1 : k + 1 ≤ i ∧ i < k + 1 + l.length
    · rw [if_pos h1, if_pos (by simp only [List.length_cons]; omega)]
      rw [show i - k = (i - (k + 1)) + 1 by omega]
      rfl
    · rw [if_neg h1, T.get_set]
      by_cases h2 : i = k
      · subst h2
        rw [if_pos rfl, if_pos (by simp only [List.length_cons]; omega)]
        simp
      · rw [if_neg h2, if_neg (by simp only [List.length_cons]; omega)]
theorem enter_rel (hp : TabOk p) {k : FuncId} {args : List Value} {args' : Array Value} {deferred : Bool} {fr : AF} {kind : CallKind} (ha : VsRel f args args'.toList) (he : enterA p k args deferred = some fr) (hk : kind = if deferred then .deferred else .normal) :
    FRel f fr (Frame.enter p.prog k args' kind) := by
  unfold enterA at he
  cases e1 : p.funcs.get k with
  | none => rw [e1] at he; cases he
  | some fn =>
    rw [e1] at he
    simp only [] at he
    cases e2 : fn.body with
    | none => rw [e2] at he; cases he
    | some c =>
      rw [e2] at he
      simp only [] at he
      cases e3 : Nat.ble args.length fn.ntmps with
      | false => rw [e3] at he; cases he
      | true =>
        rw [e3] at he
        cases he
        have hle : args.length ≤ fn.ntmps := Nat.le_of_ble_eq_true e3
        have hsz : args'.size = args.length := by have := ha.length; simp at this; omega
        have h1 := hp.funcs k fn e1
        refine ⟨⟨args' ++ Array.replicate (fn.ntmps - args'.size) undef, [.code c], [], none, ?_, ?_, fun i => ?_, .cons (.code c) .nil, .nil, .none⟩⟩
        · simp [Frame.enter, h1, e2, realF, hk]
        · simp; omega
        · rw [fold_get]
          by_cases hi : i < args.length
          · rw [if_pos (by omega)]
            rcases ha.get' i with ⟨a1, _⟩ | ⟨v, v', a1, a2, a3⟩
            · rw [List.getElem?_eq_none_iff] at a1; omega
            · have : (args' ++ Array.replicate (fn.ntmps - args'.size) undef).getD i undef = v' := by
                rw [Array.getD_eq_getD_getElem?, Array.getElem?_append_left (by omega)]
                have : args'[i]? = some v' := by simpa using a2
                rw [this]; rfl
              rw [this]
              simp only [Nat.sub_zero, a1, Option.getD_some]
              exact a3
          · rw [if_neg (by omega)]
            have : (args' ++ Array.replicate (fn.ntmps - args'.size) undef).getD i undef = undef := by
              rw [Array.getD_eq_getD_getElem?, Array.getElem?_append_right (by omega), Array.getElem?_replicate]
              split <;> rfl
            rw [this, T.get_e]
            exact .tuple .nil
theorem load_still (hp : TabOk p) (hr : HRel f (fun l => Mi l ∨ Sh l) Mi h w) {t : TypeId} {a a' v : Value} (ha : VRel f a a') (ho : oLoad p h t a = some (v, h')) :
    ∃ v' b, a' = .pointer (some b) ∧ (loadVar t b).run p.prog w = .ok v' w ∧ VRel f v v' ∧ ∀ es, ∀ ev ∈ (loadVar t b).events p.prog w es, ev ∈ es ∨ EvIn Mi Sh ev := by
  cases ha with
  | ptr hb =>
    rename_i b off x
    simp only [oLoad] at ho
    split at ho
    · next n e1 e2 =>
      cases e3 : h.read b off n with
      | none => rw [e3] at ho; cases ho
      | some l =>
        rw [e3] at ho
        cases ho
        obtain ⟨l', k1, k2, _, k3, k4⟩ := cells_read p.prog hr hb e3
        refine ⟨.agg l'.toArray, ⟨x.blk, x.off + off, none⟩, rfl, ?_, .agg (by simpa using k1), fun es ev hev => ?_⟩
        · simp only [loadVar, Sem.run_bind, run_isAgg' hp w e1, Result.andThen_ok, if_true, run_sizeOf' hp w e2, k3 w rfl, Sem.run_pure]
        · simp only [loadVar, Sem.events_bind, run_isAgg' hp w e1, events_isAgg, Result.evThen_ok, if_true, run_sizeOf' hp w e2, events_sizeOf, k3 w rfl, Sem.events_pure] at hev
          exact k4 w rfl es ev hev
    · next sz e1 =>
      cases e3 : h.read b off 1 with
      | none => rw [e3] at ho; cases ho
      | some l =>
        rw [e3] at ho
        obtain ⟨hl, rc, e, l', k1, k2, k3, k4⟩ := read_rel hr hb e3
        match l, l', hl, k2 with
        | [v0], [v1], _, .cons hv _ =>
          cases ho
          have hc : w.cell? ⟨x.blk, x.off + off, none⟩ = some v1 := by rw [cell?_plain k1]; simpa using k3 0 v1 rfl
          refine ⟨v1, ⟨x.blk, x.off + off, none⟩, rfl, ?_, hv, fun es ev hev => ?_⟩
          · simp only [loadVar, Sem.run_bind, run_isAgg' hp w e1, Result.andThen_ok, Bool.false_eq_true, if_false, run_load, hc]
          · simp only [loadVar, Sem.events_bind, run_isAgg' hp w e1, events_isAgg, Result.evThen_ok, Bool.false_eq_true, if_false, events_load, hc, Array.mem_push] at hev
            rcases hev with h1 | rfl
            · exact .inl h1
            · refine .inr (.inr ⟨rfl, ?_⟩)
              have := k4 0 (by omega)
              exact this.elim .inl fun hs => .inr ⟨rfl, hs⟩
    · cases ho
  | _ => simp [oLoad] at ho
def resOne (tmps : Array Value) : ResultVar → Sem Value
  | .tmp t => pure (tmps.getD t undef)
  | .cell a t => do loadVar t (← asAddr (tmps.getD a undef))
theorem resultsList_sound (hp : TabOk p) (hr : HRel f (fun l => Mi l ∨ Sh l) Mi h w) {fr : AF} {tmps : Array Value} (ht : TRel f fr.tmps tmps) : ∀ {rs : List ResultVar} {vs : List Value}, resultsList p fr h rs = some vs →
    ∃ vs', VsRel f vs vs' ∧ (rs.mapM (resOne tmps)).run p.prog w = .ok vs' w ∧ ∀ es, ∀ ev ∈ (rs.mapM (resOne tmps)).events p.prog w es, ev ∈ es ∨ EvIn Mi Sh ev
  | [], vs, e => by
    simp [resultsList] at e; subst e
    exact ⟨[], .nil, rfl, fun es ev hev => .inl hev⟩
  | .tmp t :: rs, vs, e => by
    simp only [resultsList] at e
    split at e
    · next l el =>
      cases e
      obtain ⟨vs', h1, h2, h3⟩ := resultsList_sound hp hr ht el
      refine ⟨_ :: vs', .cons (ht t) h1, ?_, fun es ev hev => ?_⟩
      · rw [List.mapM_cons]; simp [resOne, h2]
      · rw [List.mapM_cons] at hev
        simp [resOne, h2] at hev
        exact h3 es ev hev
    · cases e
  | .cell a t :: rs, vs, e => by
    simp only [resultsList] at e
    split at e
    · next v l ev el =>
      cases e
      obtain ⟨vs', h1, h2, h3⟩ := resultsList_sound hp hr ht el
      unfold loadResult at ev
      split at ev
      · next u hu eo =>
        cases ev
        obtain ⟨v', b, k1, k2, k3, k4⟩ := load_still hp hr (ht a) eo
        refine ⟨v' :: vs', .cons k3 h1, ?_, fun es ev hev => ?_⟩
        · rw [List.mapM_cons]; simp [resOne, k1, asAddr, k2, h2]
        · rw [List.mapM_cons] at hev
          simp [resOne, k1, asAddr, k2, h2] at hev
          rcases h3 _ ev hev with h | h
          · exact k4 es ev h
          · exact .inr h
      · cases ev
    · cases e
theorem results_sound (hp : TabOk p) (hr : HRel f (fun l => Mi l ∨ Sh l) Mi h w) {fr : AF} {tmps : Array Value} (ht : TRel f fr.tmps tmps) {v : Value} (hv : resultsA p fr h = some v) :
    ∃ fn v', p.prog.funcs[fr.fn]? = some fn ∧ VRel f v v' ∧ (results fn tmps).run p.prog w = .ok v' w ∧ ∀ ev ∈ (results fn tmps).events p.prog w #[], EvIn Mi Sh ev := by
  unfold resultsA at hv
  cases e1 : p.funcs.get fr.fn with
  | none => rw [e1] at hv; cases hv
  | some fn =>
    rw [e1] at hv
    simp only [] at hv
    have hmap : ∀ tmps : Array Value, results fn tmps = (do
        let vs ← Functor.map List.toArray (fn.results.toList.mapM (resOne tmps))
        pure (if h : vs.size = 1 then vs[0] else .tuple vs)) := by
      intro tmps
      unfold results
      have : (fn.results.mapM fun
          | .tmp t => pure (tmps.getD t undef)
          | .cell a t => do loadVar t (← asAddr (tmps.getD a undef)) : Sem (Array Value)) = Functor.map List.toArray (fn.results.toList.mapM (resOne tmps)) := by
        rw [← Array.toArray_toList (xs := fn.results), List.mapM_toArray]
        rfl
      rw [← this]
      rfl
    split at hv
    · next v0 el =>
      cases hv
      obtain ⟨vs', h1, h2, h3⟩ := resultsList_sound hp hr ht el
      cases h1 with
      | cons hv0 t =>
      cases t
      rename_i v1
      refine ⟨fn, v1, hp.funcs _ _ e1, hv0, ?_, fun ev hev => ?_⟩
      · rw [hmap]; simp [h2]
      · rw [hmap] at hev
        simp [h2] at hev
        exact (h3 _ ev hev).resolve_left (by simp)
    · next vs hne el =>
      cases hv
      obtain ⟨vs', h1, h2, h3⟩ := resultsList_sound hp hr ht el
      have hlen : vs'.length ≠ 1 := by
        intro e
        have := h1.length
        rw [e] at this
        match vs, this, hne with
        | [v], _, hne => exact hne v rfl
      refine ⟨fn, .tuple vs'.toArray, hp.funcs _ _ e1, .tuple (by simpa using h1), ?_, fun ev hev => ?_⟩
      · rw [hmap]; simp [h2, hlen]
      · rw [hmap] at hev
        simp [h2] at hev
        exact (h3 _ ev hev).resolve_left (by simp)
    · cases hv
end Go.Cx
end
section
namespace Go.Cx
open Go.Conc (G)
variable {p : Tab} {f : Inj} {Mi Sh : Loc → Prop} {bot : List Frame} {main : Bool} {h h' : AHeap} {w : World}
theorem wanted_rel {ops : Array Oper} {fr : AF} {tmps : Array Value} (ht : TRel f fr.tmps tmps) (o : Oper) : Region.wanted o (yielded ops tmps) = wantedA ops fr o := by
  unfold Region.wanted wantedA
  cases eg : o.guard with
  | none => rfl
  | some jw =>
    obtain ⟨j, want⟩ := jw
    simp only [yielded]
    cases eq : ops[j]? with
    | none => simp
    | some q =>
      simp only [Option.bind_some]
      cases ed : q.dst with
      | none => simp
      | some d =>
        simp only [Option.bind_some]
        have hd := ht d
        cases eget : fr.tmps.get d with
        | none =>
          rw [eget] at hd
          simp only [Option.getD_none] at hd
          cases et : tmps[d]? with
          | none => simp
          | some v =>
            have : tmps.getD d undef = v := by rw [Array.getD_eq_getD_getElem?, et]; rfl
            rw [this] at hd
            cases hd
            simp
        | some u =>
          rw [eget] at hd
          simp only [Option.getD_some] at hd
          cases et : tmps[d]? with
          | none =>
            have : tmps.getD d undef = undef := by rw [Array.getD_eq_getD_getElem?, et]; rfl
            rw [this] at hd
            cases hd
            simp
          | some v =>
            have : tmps.getD d undef = v := by rw [Array.getD_eq_getD_getElem?, et]; rfl
            rw [this] at hd
            cases hd <;> simp
theorem setMany_rel {nt : Nat} : ∀ {ts : List Tmp} {vs : List Value} {m t' : T Value} {vs' : List Value} {a : Array Value}, setParams nt ts vs m = some t' → VsRel f vs vs' → a.size = nt → TRel f m a →
    TRel f t' ((ts.zip vs').foldl (fun tmps (x : Tmp × Value) => tmps.setIfInBounds x.1 x.2) a) ∧ ((ts.zip vs').foldl (fun tmps (x : Tmp × Value) => tmps.setIfInBounds x.1 x.2) a).size = nt
  | [], [], m, t', vs', a, h, hv, hs, ht => by
    cases h; cases hv
    exact ⟨ht, hs⟩
  | t :: ts, v :: vs, m, t', vs', a, h, hv, hs, ht => by
    simp only [setParams] at h
    cases eb : Nat.blt t nt with
    | false => rw [eb] at h; cases h
    | true =>
      rw [eb] at h
      cases hv with
      | cons hv0 tv =>
        have hlt : t < a.size := by rw [hs]; exact Nat.lt_of_succ_le (by simpa [Nat.blt] using eb)
        simp only [List.zip_cons_cons, List.foldl_cons]
        exact setMany_rel h tv (by simpa using hs) (ht.set hv0 hlt)
  | [], _ :: _, _, _, _, _, h, _, _, _ => by cases h
  | _ :: _, [], _, _, _, _, h, _, _, _ => by cases h
section
variable {s s' : S} {ops : Array Oper} {i : Nat} {o : Oper} {rest : List Oper} {k : List AI} {k' : List Item} {tmps : Array Value} {defers : List Deferred} {round : Option Nat} {cs : List Frame}
theorem stepG_at (hret : s.fr.ret = false) (ho : ops[i]? = some o) (hw : Region.wanted o (yielded ops tmps) = true) (hdef : ∀ c, o.op = .defer c → round = none) :
    stepG p.prog main (G (realF s.fr tmps (.inRegion ops (List.range' i (o :: rest).length) :: k') defers round) cs) w =
      stepG.apply p.prog true (realF s.fr tmps (.inRegion ops (List.range' i (o :: rest).length) :: k') defers round) cs none (execOp (realF s.fr tmps (.inRegion ops (List.range' i (o :: rest).length) :: k') defers round).eval o) w := by
  have hop : (realF s.fr tmps (.inRegion ops (List.range' i (o :: rest).length) :: k') defers round).oper? = some o := by
    simp only [Frame.oper?, realF, List.length_cons, List.range'_succ, ho]
  simp only [G, stepG]
  have hmode : (realF s.fr tmps (.inRegion ops (List.range' i (o :: rest).length) :: k') defers round).mode = .run := by simp [realF, hret]
  rw [hmode]
  simp only [stepG.exec, realF, List.length_cons, List.range'_succ, ho, Option.map_some, Option.getD_some, hw, if_true, stepG.oper]
  have hop' := hop
  simp only [realF, List.length_cons, List.range'_succ] at hop'
  rw [hop']
  simp only []
  split
  · next l c e1 e2 =>
    have := hdef _ e2
    simp_all
  · rfl
def outcome (p : Program) (fr : Frame) (cs : List Frame) (w : World) : Next → GStep
  | .value v => .go (G (fr.finish v) cs) w #[]
  | .skip => .go (G (fr.finish undef) cs) w #[]
  | .enter f args => .go (G (Frame.enter p f args .normal) (fr :: cs)) w #[]
  | .round l f tmps assign body => .go (G (Frame.round l f tmps assign body .normal) (fr :: cs)) w #[]
  | .defer d => .go (G ({ fr with defers := d :: fr.defers }.finish undef) cs) w #[]
  | _ => .ended (.stuck "" "") w
theorem apply_ok {fr : AF} {it : Item} {sm : Sem Next} {r' : Next} {w' : World} (hit : ∀ d b r sv, it ≠ .call d b r sv) (hrun : sm.run p.prog w = .ok r' w') (hr : (∃ v, r' = .value v) ∨ r' = .skip ∨ (∃ f a, r' = .enter f a) ∨ (∃ l f t a b, r' = .round l f t a b) ∨ (∃ d, r' = .defer d)) :
    stepG.apply p.prog true (realF fr tmps (it :: k') defers round) cs none sm w = GStep.after (seen p.prog fr.fn (sm.events p.prog w #[])) (outcome p.prog (realF fr tmps (it :: k') defers round) cs w' r') := by
  have hk : ((if fr.deferred then CallKind.deferred else CallKind.normal) == CallKind.early) = false := by cases fr.deferred <;> rfl
  have hkind : (match (it :: k' : List Item) with | .call _ true _ _ :: _ => CallKind.wrapped | _ => .normal) = .normal := by
    cases it <;> first | rfl | exact absurd rfl (hit _ _ _ _)
  rcases hr with ⟨v, rfl⟩ | rfl | ⟨fn, a, rfl⟩ | ⟨l, fn, t, a, b, rfl⟩ | ⟨d, rfl⟩ <;>
    simp [stepG.apply, hrun, realF, hk, outcome, G, -Sem.events_bind] <;> (try (cases it <;> first | rfl | exact absurd rfl (hit _ _ _ _)))
theorem apply_recover {fr : Frame} {cs : List Frame} {sm : Sem Next} {w' : World} (hk : (fr.kind == CallKind.early) = false) (hround : fr.roundOf = none) (hrec : tryRecover fr cs = none) (hrun : sm.run p.prog w = .ok .recover w') :
    stepG.apply p.prog true fr cs none sm w = GStep.after (seen p.prog fr.fn (sm.events p.prog w #[])) (.go (G (fr.finish .nilIface) cs) w' #[]) := by
  simp [stepG.apply, hrun, hk, hround, hrec, G, -Sem.events_bind]
theorem finish_at {fr : AF} (ho : ops[i]? = some o) (v : Value) : (realF fr tmps (.inRegion ops (List.range' i (o :: rest).length) :: k') defers round).finish v = realF fr (putDst o.dst tmps v) (.inRegion ops (List.range' (i + 1) rest.length) :: k') defers round := by
  simp only [List.length_cons, List.range'_succ, Frame.finish, realF, ho, Option.bind_some]
  unfold putDst
  cases o.dst <;> rfl
theorem opA_sound (hp : TabOk p) (hret : s.fr.ret = false) (hdrop : o :: rest = ops.toList.drop i) (hw : Region.wanted o (yielded ops tmps) = true) (hsz : tmps.size = s.fr.nt) (ht : TRel f s.fr.tmps tmps) (hk : IsRel f k k') (hd : DsRel f s.fr.defers defers) (hro : RoRel f s.fr.round round)
    (hcs : FsRel f s.cs cs) (hr : HRel f (fun l => Mi l ∨ Sh l) Mi s.h w) (htodo : s.fr.todo = .reg ops i (o :: rest) :: k) (hop : opA p s ops i o rest k = .next s') :
    Adv p.prog main f Mi Sh bot s.h (G (realF s.fr tmps (.inRegion ops (List.range' i (o :: rest).length) :: k') defers round) (cs ++ bot)) w s' := by
  obtain ⟨ho, hrest⟩ := drop_cons hdrop
  obtain ⟨sfr, scs, sh⟩ := s
  simp only [] at *
  unfold opA at hop
  simp only [] at hop
  have hev := ht.ev (fr := realF sfr tmps (.inRegion ops (List.range' i (o :: rest).length) :: k') defers round) rfl
  cases ea : aop p sh sfr.ev o with
  | none => rw [ea] at hop; cases hop
  | some r =>
    rw [ea] at hop
    obtain ⟨r', w', f', Mi', h1, h2, h3, h4, h5, h6⟩ := aop_sound (w := w) hp hr hev ea
    have hdefer : ∀ c, o.op = .defer c → round = none := by
      intro c hc
      cases r with
      | defer d h1 =>
        simp only [] at hop
        cases er : sfr.round with
        | none => rw [er] at hro; cases hro; rfl
        | some l => rw [er] at hop; cases hop
      | _ =>
        exfalso
        unfold aop at ea
        rw [hc] at ea
        simp only [] at ea
        split at ea
        · split at ea <;> cases ea
        · cases ea
    have hst := stepG_at (p := p) (main := main) (s := ⟨sfr, scs, sh⟩) (rest := rest) (k' := k') (cs := cs ++ bot) (w := w) (defers := defers) hret ho hw hdefer
    simp only [] at hst
    cases h3 with
    | val hv =>
      rename_i v v' h
      simp only [OpR.heap] at h5 h6
      simp only [] at hop
      cases es : setDst sfr o v (.reg ops i.succ rest :: k) with
      | none => rw [es] at hop; cases hop
      | some fr =>
        rw [es] at hop
        cases hop
        obtain ⟨q1, q2⟩ := setDst_rel (f := f') es hv hsz (ht.mono h2) (k' := .inRegion ops (List.range' (i + 1) rest.length) :: k') (.cons (.reg hrest) (hk.mono h2)) (hd.mono h2) (hro.mono h2)
        refine ⟨_, w', _, Mi', f', ?_, h2, h4.seen p.prog sfr.fn, ⟨⟨_, _, rfl, q1, hcs.mono h2⟩, h5⟩, h6⟩
        rw [hst, apply_ok (fun _ _ _ _ h => by cases h) h1 (.inl ⟨v', rfl⟩)]
        simp only [outcome, finish_at ho, GStep.after, Array.append_empty]
    | skip =>
      rename_i h
      simp only [OpR.heap] at h5 h6
      simp only [] at hop
      cases es : setDst sfr o undef (.reg ops i.succ rest :: k) with
      | none => rw [es] at hop; cases hop
      | some fr =>
        rw [es] at hop
        cases hop
        obtain ⟨q1, q2⟩ := setDst_rel (f := f') es (v' := undef) (.tuple .nil) hsz (ht.mono h2) (k' := .inRegion ops (List.range' (i + 1) rest.length) :: k') (.cons (.reg hrest) (hk.mono h2)) (hd.mono h2) (hro.mono h2)
        refine ⟨_, w', _, Mi', f', ?_, h2, h4.seen p.prog sfr.fn, ⟨⟨_, _, rfl, q1, hcs.mono h2⟩, h5⟩, h6⟩
        rw [hst, apply_ok (fun _ _ _ _ h => by cases h) h1 (.inr (.inl rfl))]
        simp only [outcome, finish_at ho, GStep.after, Array.append_empty]
    | call ha =>
      rename_i kf args args' h
      simp only [OpR.heap] at h5 h6
      simp only [] at hop
      cases es : enterA p kf args false with
      | none => rw [es] at hop; cases hop
      | some fr =>
        rw [es] at hop
        cases hop
        have q1 := enter_rel hp (kind := .normal) ha es rfl
        have qself : FRel f' sfr (realF sfr tmps (.inRegion ops (List.range' i (o :: rest).length) :: k') defers round) := ⟨_, _, _, _, rfl, hsz, ht.mono h2, by rw [htodo]; exact .cons (.reg hdrop) (hk.mono h2), hd.mono h2, hro.mono h2⟩
        refine ⟨_, w', _, Mi', f', ?_, h2, h4.seen p.prog sfr.fn, ⟨⟨_, _ :: cs, rfl, q1, .cons qself (hcs.mono h2)⟩, h5⟩, h6⟩
        rw [hst, apply_ok (fun _ _ _ _ h => by cases h) h1 (.inr (.inr (.inl ⟨_, _, rfl⟩)))]
        simp only [outcome, GStep.after, Array.append_empty, List.cons_append]
    | yield hl ha hol hrl hn =>
      rename_i l x args args' h al l'
      simp only [OpR.heap] at h5 h6
      simp only [hol] at hop
      cases es : setParams al.nt al.params.toList args al.tmps with
      | none => rw [es] at hop; cases hop
      | some t =>
        rw [es] at hop
        cases hop
        obtain ⟨q1, q2⟩ := setMany_rel es ha hrl.size hrl.tmps
        have qself : FRel f' sfr (realF sfr tmps (.inRegion ops (List.range' i (o :: rest).length) :: k') defers round) := ⟨_, _, _, _, rfl, hsz, ht.mono h2, by rw [htodo]; exact .cons (.reg hdrop) (hk.mono h2), hd.mono h2, hro.mono h2⟩
        have hfold : ((l'.params.zip args').foldl (fun tmps (x : Tmp × Value) => tmps.setIfInBounds x.1 x.2) l'.tmps) = ((al.params.toList.zip args'.toList).foldl (fun tmps (x : Tmp × Value) => tmps.setIfInBounds x.1 x.2) l'.tmps) := by
          rw [hrl.params, ← Array.foldl_toList, Array.toList_zip]
        refine ⟨_, w', _, Mi', f', ?_, h2, h4.seen p.prog sfr.fn, ⟨⟨_, _ :: cs, rfl, ⟨(al.params.toList.zip args'.toList).foldl (fun tmps (x : Tmp × Value) => tmps.setIfInBounds x.1 x.2) l'.tmps, [.code al.assign, .beginRound, .code al.body], [], some x.blk, rfl, ?_, ?_, .cons (.code _) (.cons .beginRound (.cons (.code _) .nil)), .nil, .some hl⟩, .cons qself (hcs.mono h2)⟩, h5⟩, h6⟩
        · rw [hst, apply_ok (fun _ _ _ _ h => by cases h) h1 (.inr (.inr (.inr (.inl ⟨_, _, _, _, _, rfl⟩))))]
          rw [← hfold]
          simp only [outcome, GStep.after, Array.append_empty, List.cons_append, Frame.round, realF, hrl.fn, hrl.assign, hrl.body]
          rfl
        · exact q2
        · exact q1
    | defer hdd =>
      rename_i d d' h
      simp only [OpR.heap] at h5 h6
      simp only [] at hop
      cases es : setDst { sfr with defers := d :: sfr.defers } o undef (.reg ops i.succ rest :: k) with
      | none => rw [es] at hop; cases er : sfr.round <;> rw [er] at hop <;> cases hop
      | some fr =>
        rw [es] at hop
        cases er : sfr.round with
        | some l => rw [er] at hop; cases hop
        | none =>
          rw [er] at hop
          cases hop
          obtain ⟨q1, q2⟩ := setDst_rel (f := f') es (v' := undef) (.tuple .nil) hsz (ht.mono h2) (k' := .inRegion ops (List.range' (i + 1) rest.length) :: k') (.cons (.reg hrest) (hk.mono h2)) (.cons hdd (hd.mono h2)) (hro.mono h2)
          refine ⟨_, w', _, Mi', f', ?_, h2, h4.seen p.prog sfr.fn, ⟨⟨_, _, rfl, q1, hcs.mono h2⟩, h5⟩, h6⟩
          rw [hst, apply_ok (fun _ _ _ _ h => by cases h) h1 (.inr (.inr (.inr (.inr ⟨_, rfl⟩))))]
          have : ({ realF sfr tmps (.inRegion ops (List.range' i (o :: rest).length) :: k') defers round with defers := d' :: defers } : Frame) = realF { sfr with defers := d :: sfr.defers } tmps (.inRegion ops (List.range' i (o :: rest).length) :: k') (d' :: defers) round := rfl
          show GStep.after _ (.go (G (Frame.finish ({ realF sfr tmps (.inRegion ops (List.range' i (o :: rest).length) :: k') defers round with defers := d' :: defers } : Frame) undef) (cs ++ bot)) w' #[]) = _
          rw [this, finish_at ho]
          simp only [GStep.after, Array.append_empty]
    | recover =>
      rename_i h
      simp only [OpR.heap] at h5 h6
      simp only [] at hop
      cases er : sfr.round with
      | some l => rw [er] at hop; cases hop
      | none =>
        have hround : round = none := by rw [er] at hro; cases hro; rfl
        rw [er] at hop
        cases ed : sfr.deferred with
        | false => rw [ed] at hop; cases hop
        | true =>
          rw [ed] at hop
          cases hcs with
          | nil => cases hop
          | cons hc tc =>
            rename_i c cf l l'
            simp only [] at hop
            cases ecr : c.ret with
            | false => rw [ecr] at hop; cases hop
            | true =>
              rw [ecr] at hop
              simp only [] at hop
              cases es : setDst sfr o .nilIface (.reg ops i.succ rest :: k) with
              | none => rw [es] at hop; cases hop
              | some fr =>
                rw [es] at hop
                cases hop
                obtain ⟨q1, q2⟩ := setDst_rel (f := f') es (v' := .nilIface) .nilIface hsz (ht.mono h2) (k' := .inRegion ops (List.range' (i + 1) rest.length) :: k') (.cons (.reg hrest) (hk.mono h2)) (hd.mono h2) (hro.mono h2)
                obtain ⟨ct, ctodo, cd, cro, rfl, crest⟩ := hc.ex
                refine ⟨_, w', _, Mi', f', ?_, h2, h4.seen p.prog sfr.fn, ⟨⟨_, _ :: l', rfl, q1, .cons (FRel.mono h2 ⟨ct, ctodo, cd, cro, rfl, crest⟩) (tc.mono h2)⟩, h5⟩, h6⟩
                rw [hst]
                subst hround
                have hrec : tryRecover (realF sfr tmps (.inRegion ops (List.range' i (o :: rest).length) :: k') defers none) (realF c ct ctodo cd cro :: (l' ++ bot)) = none := by
                  simp [tryRecover, realF, ed, ecr]
                have hk : ((if sfr.deferred then CallKind.deferred else CallKind.normal) == CallKind.early) = false := by rw [ed]; rfl
                have hfin := finish_at (k' := k') (tmps := tmps) (defers := defers) (round := none) (fr := sfr) (rest := rest) ho .nilIface
                rw [List.cons_append, apply_recover hk rfl hrec h1, hfin]
                simp only [GStep.after, Array.append_empty, List.cons_append]
                rfl
end
end Go.Cx
end
section
namespace Go.Cx
open Go.Conc (G)
variable {p : Tab} {f : Inj} {Mi Sh : Loc → Prop} {bot : List Frame} {main : Bool} {h h' : AHeap} {w : World}
theorem DsRel.append {f : Inj} : ∀ {a a' b b' : List Deferred}, DsRel f a a' → DsRel f b b' → DsRel f (a ++ b) (a' ++ b')
  | _, _, _, _, .nil, h => h
  | _, _, _, _, .cons h t, h' => .cons h (t.append h')
section
variable {s s' : S} {tmps : Array Value} {todo : List Item} {defers : List Deferred} {round : Option Nat} {cs : List Frame}
theorem retA_sound (hp : TabOk p) (hret : s.fr.ret = true) (hsz : tmps.size = s.fr.nt) (ht : TRel f s.fr.tmps tmps) (hk : IsRel f s.fr.todo todo) (hd : DsRel f s.fr.defers defers) (hro : RoRel f s.fr.round round)
    (hcs : FsRel f s.cs cs) (hr : HRel f (fun l => Mi l ∨ Sh l) Mi s.h w) (hop : retA p s = .next s') :
    Adv p.prog main f Mi Sh bot s.h (G (realF s.fr tmps todo defers round) (cs ++ bot)) w s' := by
  obtain ⟨sfr, scs, sh⟩ := s
  simp only [] at *
  unfold retA at hop
  simp only [] at hop
  have hmode : (realF sfr tmps todo defers round).mode = .returning := by simp [realF, hret]
  generalize edd : sfr.defers = dd at hop hd
  cases hd with
  | nil =>
    simp only [] at hop
    cases er : resultsA p sfr sh with
    | none => rw [er] at hop; cases hop
    | some v =>
      rw [er] at hop
      simp only [] at hop
      obtain ⟨fn, v', h1, h2, h3, h4⟩ := results_sound (w := w) hp hr ht er
      obtain ⟨g', d1, d2, d3⟩ := pop_rel (p := p) (main := main) (bot := bot) (fr := realF sfr tmps todo [] round) hop h2 hcs hr rfl
      refine ⟨g', w, seen p.prog sfr.fn ((results fn tmps).events p.prog w #[]), Mi, f, ?_, f.le_refl, (Did.still h4).seen _ _, d2, by rw [d3]; exact .refl _ _⟩
      have hst : stepG p.prog main (G (realF sfr tmps todo [] round) (cs ++ bot)) w = unwind p.prog main (realF sfr tmps todo [] round) (cs ++ bot) none w := by
        simp [G, stepG, realF, hret]
      rw [hst]
      have hmode' : (realF sfr tmps todo [] round).mode = .returning := by simp [realF, hret]
      unfold unwind
      have hdf : (realF sfr tmps todo [] round).defers = [] := rfl
      rw [hdf]
      simp only []
      rw [hmode']
      simp only []
      have hfn : p.prog.funcs[(realF sfr tmps todo [] round).fn]? = some fn := h1
      rw [hfn]
      simp only []
      rw [Sem.runT_eq]
      have htm : (realF sfr tmps todo [] round).tmps = tmps := rfl
      rw [htm, h3]
      simp only []
      rw [d1]
      simp only [GStep.after, Array.append_empty]
      rfl
  | cons hd0 hds =>
    rename_i d d' ds ds'
    simp only [] at hop
    have hst : stepG p.prog main (G (realF sfr tmps todo (d' :: ds') round) (cs ++ bot)) w = unwind p.prog main (realF sfr tmps todo (d' :: ds') round) (cs ++ bot) none w := by
      simp [G, stepG, realF, hret]
    cases hd0 with
    | collected hb =>
      rename_i r x
      simp only [] at hop
      split at hop
      · next calls e1 e2 =>
        cases hop
        obtain ⟨o, o1, o2⟩ := hr.obj r x hb
        rw [e1] at o1; cases o1
        obtain ⟨hx0, hK, calls', k1, k2⟩ := o2
        have hMi : Mi (.obj x.blk) := hr.mine r x hb e2 _ rfl
        obtain ⟨g1, g2⟩ := getObj_any p.prog k1 (fun _ _ _ h => by cases h) rfl
        obtain ⟨s1, s2⟩ := setObj_any p.prog (o' := .deferred none) k1 (fun _ _ _ h => by cases h) rfl
        have hput := putObj_rel (o1 := .deferred none) hr hb e1 ⟨_, rfl⟩ (fun _ _ _ _ _ h => by cases h) (w' := { w with heap := w.heap.setIfInBounds x.blk (.deferred none) }) rfl k1 fun w₂ h₂ => ⟨hx0, hK, h₂⟩
        have erun : (Instr.takeDeferred x.blk).runT p.prog w #[] = (.ok calls' { w with heap := w.heap.setIfInBounds x.blk (.deferred none) }, #[⟨.obj x.blk, false, false⟩, ⟨.obj x.blk, true, false⟩]) := by
          rw [Sem.runT_eq]
          simp only [Instr.takeDeferred, Sem.run_bind, Sem.events_bind, g1, g2, Result.andThen_ok, Result.evThen_ok, s1, s2, Sem.run_pure, Sem.events_pure]
          rfl
        refine ⟨_, _, _, Mi, f, ?_, f.le_refl, Did.seen (es := #[⟨.obj x.blk, false, false⟩, ⟨.obj x.blk, true, false⟩]) ⟨env_putObj rfl k1 (fun _ _ _ h => by cases h) hMi, fun l => ?_, fun ev hev => ?_⟩ p.prog sfr.fn, ⟨⟨_, _, rfl, ⟨_, _, _, _, rfl, hsz, ht, hk, k2.append hds, hro⟩, hcs⟩, hput⟩, .put hb⟩
        · rw [hst]
          unfold unwind
          simp only [realF, erun, GStep.after, Array.append_empty, hret, if_true]
          rfl
        · simp only [Array.size_setIfInBounds]
          exact ⟨.inl, fun h => h.elim id fun ⟨b, _, h1, h2⟩ => absurd h2 (Nat.not_lt.2 h1)⟩
        · simp at hev
          rcases hev with rfl | rfl <;> exact .inr ⟨rfl, .inl hMi⟩
      · cases hop
    | fn hfn h1 h2 =>
      rename_i fnn c c' a a'
      cases fnn with
      | func gk =>
        simp only [] at hop
        cases ec : callFn p gk (a.toList ++ c.toList) sh with
        | none => rw [ec] at hop; cases hop
        | some r =>
          rw [ec] at hop
          have hc0 := ec
          unfold callFn at ec
          cases e1 : p.funcs.get gk with
          | none => rw [e1] at ec; cases ec
          | some fn =>
            rw [e1] at ec
            simp only [] at ec
            cases e2 : fn.body with
            | none => rw [e2] at ec; cases ec
            | some cc =>
              rw [e2] at ec
              cases ec
              simp only [] at hop
              cases ee : enterA p gk (a.toList ++ c.toList) true with
              | none => rw [ee] at hop; cases hop
              | some fr =>
                rw [ee] at hop
                cases hop
                have hargs : VsRel f (a.toList ++ c.toList) (a' ++ c').toList := by simpa using h2.append h1
                have q1 := enter_rel hp (kind := .deferred) hargs ee rfl
                have hpf := hp.funcs gk fn e1
                have hnum := hp.num gk fn e1
                have einv : (invoke (.fn (.func gk) c') a').runT p.prog w #[] = (.ok (.enter gk (a' ++ c')) w, #[]) := by
                  rw [Sem.runT_eq]
                  simp [invoke, callFunc, hpf, hnum, e2]
                refine ⟨_, w, _, Mi, f, ?_, f.le_refl, Did.seen (es := #[]) .quiet p.prog sfr.fn, ⟨⟨_, _ :: cs, rfl, q1, .cons ⟨_, _, _, _, rfl, hsz, ht, hk, hds, hro⟩ hcs⟩, hr⟩, .refl _ _⟩
                rw [hst]
                unfold unwind
                simp [realF, callDeferred, einv, hret, GStep.after, G, -Sem.runT_eq]
      | _ => cases hop
end
theorem Did.trans {Mi Mi1 Mi2 Sh : Loc → Prop} {w w1 w2 : World} {es1 es2 : Array Event} (h1 : Did Mi Sh w w1 es1 Mi1) (h2 : Did Mi1 Sh w1 w2 es2 Mi2) : Did Mi Sh w w2 (es1 ++ es2) Mi2 := by
  refine ⟨⟨Nat.le_trans h1.env.size h2.env.size, h2.env.tape.trans h1.env.tape, h2.env.os.trans h1.env.os, h2.env.output.trans h1.env.output, fun b o eo => ?_⟩, fun l => ?_, fun e he => ?_⟩
  · have hb : b < w.heap.size := (Array.getElem?_eq_some_iff.1 eo).1
    have hn : ∀ l, locBlk l = some b → ¬ Mi l → ¬ Mi1 l := by
      intro l hl hm h
      rcases (h1.mine l).1 h with h | ⟨b', e1, e2, _⟩
      · exact hm h
      · rw [hl] at e1; cases e1; omega
    have a1 := h1.env.same b o eo
    cases o with
    | cells c e fr =>
      obtain ⟨c1, g1, g2, g3⟩ := a1
      obtain ⟨c2, k1, k2, k3⟩ := h2.env.same b _ g1
      exact ⟨c2, k1, k2.trans g2, fun i hi => (k3 i (hn _ rfl hi)).trans (g3 i hi)⟩
    | pending c t => exact fun hm => h2.env.same b _ (a1 hm) (hn _ rfl hm)
    | view a t => exact fun hm => h2.env.same b _ (a1 hm) (hn _ rfl hm)
    | number a t => exact fun hm => h2.env.same b _ (a1 hm) (hn _ rfl hm)
    | map a t => exact fun hm => h2.env.same b _ (a1 hm) (hn _ rfl hm)
    | chan a b c d e f => exact fun hm => h2.env.same _ _ (a1 hm) (hn _ rfl hm)
    | stringIter a t => exact fun hm => h2.env.same b _ (a1 hm) (hn _ rfl hm)
    | mapIter a b c d => exact fun hm => h2.env.same _ _ (a1 hm) (hn _ rfl hm)
    | loop a => exact fun hm => h2.env.same b _ (a1 hm) (hn _ rfl hm)
    | deferred a => exact fun hm => h2.env.same b _ (a1 hm) (hn _ rfl hm)
    | coro a => exact fun hm => h2.env.same b _ (a1 hm) (hn _ rfl hm)
    | finalizers a t => exact fun hm => h2.env.same b _ (a1 hm) (hn _ rfl hm)
  · rw [h2.mine, h1.mine]
    have := h1.env.size
    have := h2.env.size
    constructor
    · rintro ((h | ⟨b, e1, e2, e3⟩) | ⟨b, e1, e2, e3⟩)
      · exact .inl h
      · exact .inr ⟨b, e1, e2, by omega⟩
      · exact .inr ⟨b, e1, by omega, e3⟩
    · rintro (h | ⟨b, e1, e2, e3⟩)
      · exact .inl (.inl h)
      · by_cases hb : b < w1.heap.size
        · exact .inl (.inr ⟨b, e1, e2, hb⟩)
        · exact .inr ⟨b, e1, by omega, e3⟩
  · rw [Array.mem_append] at he
    rcases he with he | he
    · exact (h1.evs e he).grow fun l hl => (h2.mine l).2 (.inl hl)
    · exact h2.evs e he
theorem Old.trans {f f1 f2 : Inj} {h h1 h2 : AHeap} (a : Old f h f1 h1) (b : Old f1 h1 f2 h2) : Old f h f2 h2 :=
  ⟨Nat.le_trans a.next b.next, fun i e hl => by
    obtain ⟨e1, g1⟩ := a.none i e hl
    have hl1 : Lonely h1.objs i := by
      obtain ⟨c, x, hh⟩ := hl
      exact ⟨c, x, by rw [g1]; exact hh⟩
    obtain ⟨e2, g2⟩ := b.none i e1 hl1
    exact ⟨e2, g2.trans g1⟩, b.lo.trans a.lo, b.wl.trans a.wl, b.no.trans a.no⟩
section
variable {s s' : S} {tmps : Array Value} {todo : List Item} {defers : List Deferred} {round : Option Nat} {cs : List Frame}
theorem rangeA_sound (hp : TabOk p) {g : Operand} {params : Array Tmp} {assign body : Code} {k : List AI} {k' : List Item} {h1 : AHeap} {w1 : World} {f1 : Inj} {Mi1 : Loc → Prop} {es1 : Array Event} {ad : Nat} {x : Base} {mark mark' : List Deferred}
    (hret : s.fr.ret = false) (hsz : tmps.size = s.fr.nt) (ht : TRel f s.fr.tmps tmps) (hk : IsRel f k k') (hd : DsRel f s.fr.defers defers) (hro : RoRel f s.fr.round round)
    (hcs : FsRel f s.cs cs) (hle : f.le f1) (hdid : Did Mi Sh w w1 es1 Mi1) (hr : HRel f1 (fun l => Mi1 l ∨ Sh l) Mi1 h1 w1) (hold : Old f s.h f1 h1) (had : f1 ad = some x) (hmark : DsRel f1 mark mark') (hop : rangeA p s g params assign body k h1 ad mark = .next s')
    (hen : (Instr.enterLoop s.fr.fn tmps params assign body round).runT p.prog w #[] = (.ok (w1.heap.size, mark') (pushed w1 (.loop { state := .ready, pending := none, fn := s.fr.fn, tmps, params, assign, body, defers := x.blk })), es1)) :
    Adv p.prog main f Mi Sh bot s.h (G (realF s.fr tmps (.code (.rangeFunc g params assign body) :: k') defers round) (cs ++ bot)) w s' := by
  obtain ⟨sfr, scs, sh⟩ := s
  simp only [] at *
  unfold rangeA at hop
  simp only [] at hop
  have hev := ht.ev (fr := realF sfr tmps (.code (.rangeFunc g params assign body) :: k') defers round) rfl
  split at hop
  · next fn first captured eg =>
    have hg := hev g _ eg
    split at hop
    · next fn' args h2 ec =>
      split at hop
      · next fr ee =>
        cases hop
        have hz : ORel (f1.put h1.next ⟨w1.heap.size, 0, 0, 0⟩) (fun l => (Mi1 l ∨ Sh l) ∨ NewIn w1.heap.size (w1.heap.size + 1) l) ⟨w1.heap.size, 0, 0, 0⟩
            (.loop { state := .ready, pending := none, fn := sfr.fn, nt := sfr.nt, tmps := sfr.tmps, params, assign, body, defers := ad })
            (pushed w1 (.loop { state := .ready, pending := none, fn := sfr.fn, tmps, params, assign, body, defers := x.blk })) := by
          have hle1 : f1.le (f1.put h1.next ⟨w1.heap.size, 0, 0, 0⟩) := put_le hr _
          exact ⟨rfl, .inr ⟨w1.heap.size, rfl, Nat.le_refl _, Nat.lt_succ_self _⟩, _, pushed_new w1 _, rfl, rfl, rfl, hsz, (ht.mono hle).mono hle1, rfl, rfl, rfl, x, hle1 _ _ had, rfl⟩
        obtain ⟨q1, q2⟩ := newObj_sound hr rfl hz
        have hle1 : f1.le (f1.put h1.next ⟨w1.heap.size, 0, 0, 0⟩) := put_le hr _
        have hle2 : f.le (f1.put h1.next ⟨w1.heap.size, 0, 0, 0⟩) := Inj.le_trans hle hle1
        generalize hgv : (realF sfr tmps (.code (.rangeFunc g params assign body) :: k') defers round).eval g = gv at hg
        cases hg with
        | func hfn a1 a2 =>
          rename_i fa' fc'
          unfold callFn at ec
          cases e1 : p.funcs.get fn with
          | none => rw [e1] at ec; cases ec
          | some fd =>
            rw [e1] at ec
            simp only [] at ec
            cases e2 : fd.body with
            | none => rw [e2] at ec; cases ec
            | some cc =>
              rw [e2] at ec
              cases ec
              have hpf := hp.funcs fn fd e1
              have hnum := hp.num fn fd e1
              have hyield : VRel (f1.put h1.next ⟨w1.heap.size, 0, 0, 0⟩) (.func (.yield h1.next) #[] #[]) (.func (.yield w1.heap.size) #[] #[]) := .yield (x := ⟨w1.heap.size, 0, 0, 0⟩) (Inj.put_same _ _ _)
              have hargs : VsRel (f1.put h1.next ⟨w1.heap.size, 0, 0, 0⟩) (first.toList ++ [.func (.yield h1.next) #[] #[]] ++ captured.toList) ((fa' ++ #[Value.func (.yield w1.heap.size) #[] #[]]) ++ fc').toList := by
                simpa using ((a1.mono hle2).append (.cons hyield .nil)).append (a2.mono hle2)
              have q3 := enter_rel hp (kind := .normal) hargs ee rfl
              have qself : FRel (f1.put h1.next ⟨w1.heap.size, 0, 0, 0⟩) { sfr with todo := .inRF h1.next :: k, defers := mark ++ sfr.defers } (realF sfr tmps (.inRangeFunc w1.heap.size :: k') (mark' ++ defers) round) :=
                ⟨_, _, _, _, rfl, hsz, ht.mono hle2, .cons (.inRF (x := ⟨w1.heap.size, 0, 0, 0⟩) (Inj.put_same _ _ _)) (hk.mono hle2), (hmark.mono hle1).append (hd.mono hle2), hro.mono hle2⟩
              refine ⟨_, _, _, _, _, ?_, hle2, (hdid.seen p.prog sfr.fn).trans q1, ⟨⟨_, _ :: cs, rfl, q3, .cons qself (hcs.mono hle2)⟩, q2⟩, hold.trans (.obj hr _ _)⟩
              have hsem : (do let d ← resolve (realF sfr tmps (.inRangeFunc w1.heap.size :: k') (mark' ++ defers) round).eval { callee := .value g, args := #[.const (.func (.yield w1.heap.size) #[] #[])], argTypes := #[] } 0; invoke d.target d.args : Sem Next).runT p.prog (pushed w1 (.loop { state := .ready, pending := none, fn := sfr.fn, tmps, params, assign, body, defers := x.blk })) #[] = (.ok (.enter fn (fa' ++ #[Value.func (.yield w1.heap.size) #[] #[]] ++ fc')) (pushed w1 (.loop { state := .ready, pending := none, fn := sfr.fn, tmps, params, assign, body, defers := x.blk })), #[]) := by
                have hgv2 : (realF sfr tmps (.inRangeFunc w1.heap.size :: k') (mark' ++ defers) round).eval g = .func (.func fn) fa' fc' := by rw [← hgv]; cases g <;> rfl
                rw [Sem.runT_eq]
                have hcv : (realF sfr tmps (.inRangeFunc w1.heap.size :: k') (mark' ++ defers) round).eval (.const (.func (.yield w1.heap.size) #[] #[])) = .func (.yield w1.heap.size) #[] #[] := rfl
                simp [resolve, Deferred.ofValue, hgv2, invoke, callFunc, hpf, hnum, e2, hcv]
              have hap := apply_ok (p := p) (fr := sfr) (k' := k') (tmps := tmps) (defers := mark' ++ defers) (round := round) (it := .inRangeFunc w1.heap.size) (cs := cs ++ bot) (fun _ _ _ _ h => by cases h) (by rw [← Sem.runT_fst p.prog _ _ #[], hsem]) (.inr (.inr (.inl ⟨_, _, rfl⟩)))
              have hstep : stepG p.prog main (G (realF sfr tmps (.code (.rangeFunc g params assign body) :: k') defers round) (cs ++ bot)) w =
                  GStep.after (seen p.prog sfr.fn es1) (stepG.apply p.prog true (realF sfr tmps (.inRangeFunc w1.heap.size :: k') (mark' ++ defers) round) (cs ++ bot) none (do let d ← resolve (realF sfr tmps (.inRangeFunc w1.heap.size :: k') (mark' ++ defers) round).eval { callee := .value g, args := #[.const (.func (.yield w1.heap.size) #[] #[])], argTypes := #[] } 0; invoke d.target d.args) (pushed w1 (.loop { state := .ready, pending := none, fn := sfr.fn, tmps, params, assign, body, defers := x.blk }))) := by
                simp [G, stepG, realF, hret, stepG.exec, hen, -Sem.runT_eq, -Sem.events_bind, -Sem.run_bind]
              rw [hstep, hap]
              have hnil : (do let d ← resolve (realF sfr tmps (.inRangeFunc w1.heap.size :: k') (mark' ++ defers) round).eval { callee := .value g, args := #[.const (.func (.yield w1.heap.size) #[] #[])], argTypes := #[] } 0; invoke d.target d.args : Sem Next).events p.prog (pushed w1 (.loop { state := .ready, pending := none, fn := sfr.fn, tmps, params, assign, body, defers := x.blk })) #[] = #[] := by
                unfold Sem.events
                rw [hsem]
              rw [hnil]
              have hs0 : seen p.prog sfr.fn #[] = #[] := by simp [seen]
              rw [hs0]
              simp only [outcome, GStep.after, Array.append_empty]
              rfl
      · cases hop
    · cases hop
  · cases hop
end
end Go.Cx
end
section
namespace Go.Cx
open Go.Conc (G)
variable {p : Tab} {f : Inj} {Mi Sh : Loc → Prop} {bot : List Frame} {main : Bool} {h h' : AHeap} {w : World}
section
variable {s s' : S} {tmps : Array Value} {todo : List Item} {defers : List Deferred} {round : Option Nat} {cs : List Frame}
theorem range_none_sound (hp : TabOk p) {g : Operand} {params : Array Tmp} {assign body : Code} {k : List AI} {k' : List Item}
    (hret : s.fr.ret = false) (hsz : tmps.size = s.fr.nt) (ht : TRel f s.fr.tmps tmps) (hk : IsRel f k k') (hd : DsRel f s.fr.defers defers) (hro : RoRel f s.fr.round round)
    (hcs : FsRel f s.cs cs) (hr : HRel f (fun l => Mi l ∨ Sh l) Mi s.h w) (hround : s.fr.round = none) (hop : rangeA p s g params assign body k (s.h.alloc (.deferred (some []))) s.h.next [⟨.collected s.h.next, #[]⟩] = .next s') :
    Adv p.prog main f Mi Sh bot s.h (G (realF s.fr tmps (.code (.rangeFunc g params assign body) :: k') defers round) (cs ++ bot)) w s' := by
  have hr0 : round = none := by rw [hround] at hro; cases hro; rfl
  obtain ⟨q1, q2⟩ := newObj_sound (O := .deferred (some [])) hr (o := .deferred (some [])) rfl ⟨rfl, .inr ⟨w.heap.size, rfl, Nat.le_refl _, Nat.lt_succ_self _⟩, [], pushed_new w _, .nil⟩
  refine rangeA_sound hp (x := ⟨w.heap.size, 0, 0, 0⟩) (mark' := [⟨.collected w.heap.size, #[]⟩]) hret hsz ht hk hd hro hcs (put_le hr _) q1 q2 (.obj hr _ _) (Inj.put_same _ _ _) (.cons (.collected (x := ⟨w.heap.size, 0, 0, 0⟩) (Inj.put_same _ _ _)) .nil) hop ?_
  subst hr0
  rw [Sem.runT_eq]
  rfl
theorem range_some_sound (hp : TabOk p) {g : Operand} {params : Array Tmp} {assign body : Code} {k : List AI} {k' : List Item} {l : Nat} {al : ALoop}
    (hret : s.fr.ret = false) (hsz : tmps.size = s.fr.nt) (ht : TRel f s.fr.tmps tmps) (hk : IsRel f k k') (hd : DsRel f s.fr.defers defers) (hro : RoRel f s.fr.round round)
    (hcs : FsRel f s.cs cs) (hr : HRel f (fun l => Mi l ∨ Sh l) Mi s.h w) (hround : s.fr.round = some l) (hal : s.h.objs.get l = some (.loop al)) (hop : rangeA p s g params assign body k s.h al.defers [] = .next s') :
    Adv p.prog main f Mi Sh bot s.h (G (realF s.fr tmps (.code (.rangeFunc g params assign body) :: k') defers round) (cs ++ bot)) w s' := by
  rw [hround] at hro
  cases hro with
  | some hl =>
    rename_i y
    obtain ⟨o, o1, o2⟩ := hr.obj l y hl
    rw [hal] at o1; cases o1
    obtain ⟨hx0, hK, l', k1, k2⟩ := o2
    obtain ⟨x, hx1, hx2⟩ := k2.defers
    obtain ⟨g1, g2⟩ := getObj_any p.prog k1 (fun _ _ _ h => by cases h) rfl
    refine rangeA_sound hp (x := x) (mark' := []) (es1 := #[⟨.obj y.blk, false, false⟩]) (w1 := w) (Mi1 := Mi) hret hsz ht hk hd (by rw [hround]; exact .some hl) hcs f.le_refl (.still fun e he => ?_) hr (.refl _ _) hx1 .nil hop ?_
    · simp at he; subst he
      exact .inr ⟨rfl, hK.elim .inl fun h => .inr ⟨rfl, h⟩⟩
    · rw [Sem.runT_eq]
      have a1 : (Instr.getLoop y.blk).run p.prog w = .ok l' w := by simp [Instr.getLoop, g1]
      have a2 : ∀ ev, (Instr.getLoop y.blk).events p.prog w ev = ev.push ⟨.obj y.blk, false, false⟩ := fun ev => by simp [Instr.getLoop, g1, g2]
      simp only [Instr.enterLoop, Sem.run_bind, Sem.events_bind, a1, a2, Result.andThen_ok, Result.evThen_ok, Sem.run_pure, Sem.events_pure, hx2]
      rfl
theorem begin_sound (hp : TabOk p) {k : List AI} {k' : List Item} {l : Nat} {al : ALoop} (hret : s.fr.ret = false) (hsz : tmps.size = s.fr.nt) (ht : TRel f s.fr.tmps tmps) (hk : IsRel f k k') (hd : DsRel f s.fr.defers defers) (hro : RoRel f s.fr.round round)
    (hcs : FsRel f s.cs cs) (hr : HRel f (fun l => Mi l ∨ Sh l) Mi s.h w) (hround : s.fr.round = some l) (hal : s.h.objs.get l = some (.loop al)) (hlo : s.h.owns l = true) (hst : al.state = .ready)
    (hs' : s' = { s with fr := { s.fr with todo := k }, h := s.h.put l (.loop { al with state := .busy }) }) :
    Adv p.prog main f Mi Sh bot s.h (G (realF s.fr tmps (.beginRound :: k') defers round) (cs ++ bot)) w s' := by
  subst hs'
  rw [hround] at hro
  cases hro with
  | some hl =>
    rename_i x
    obtain ⟨l', k1, k2, k3⟩ := setLoop_sound (al' := { al with state := .busy }) hr hl hal hlo
    obtain ⟨w', q1, q2, q3, q4⟩ := k3 { l' with state := .busy } ⟨rfl, k1.pending, k1.fn, k1.size, k1.tmps, k1.params, k1.assign, k1.body, k1.defers⟩
    have hls : l'.state = .ready := by rw [k1.state, hst]
    have a1 := (k2 p.prog).1
    have a2 := (k2 p.prog).2
    have b1 := (q1 p.prog).1
    have b2 := (q1 p.prog).2
    have hsem : (do Instr.beginRound x.blk; pure .skip : Sem Next).run p.prog w = .ok .skip w' := by
      simp [Instr.beginRound, a1, b1, hls]
    have hev : (do Instr.beginRound x.blk; pure .skip : Sem Next).events p.prog w #[] = #[⟨.obj x.blk, false, false⟩, ⟨.obj x.blk, true, false⟩] := by
      simp [Instr.beginRound, a1, a2, b1, b2, hls]
    have hap := apply_ok (p := p) (fr := s.fr) (k' := k') (tmps := tmps) (defers := defers) (round := some x.blk) (it := .beginRound) (cs := cs ++ bot) (fun _ _ _ _ h => by cases h) hsem (.inr (.inl rfl))
    have hstep : stepG p.prog main (G (realF s.fr tmps (.beginRound :: k') defers (some x.blk)) (cs ++ bot)) w =
        stepG.apply p.prog true (realF s.fr tmps (.beginRound :: k') defers (some x.blk)) (cs ++ bot) none (do Instr.beginRound x.blk; pure .skip) w := by
      simp [G, stepG, realF, hret, stepG.exec, -Sem.runT_eq, -Sem.events_bind, -Sem.run_bind]
    refine ⟨_, w', _, Mi, f, ?_, f.le_refl, q2.seen p.prog s.fr.fn, ⟨⟨_, _, rfl, ⟨_, _, _, _, rfl, hsz, ht, hk, hd, by show RoRel f s.fr.round (some x.blk); rw [hround]; exact .some hl⟩, hcs⟩, q3⟩, q4⟩
    rw [hstep, hap, hev]
    simp only [outcome, GStep.after, Array.append_empty, Frame.finish, realF]
theorem endRF_sound (hp : TabOk p) {k : List AI} {k' : List Item} {l : Nat} {al : ALoop} {x : Base} (hret : s.fr.ret = false) (hsz : tmps.size = s.fr.nt) (ht : TRel f s.fr.tmps tmps) (hk : IsRel f k k') (hd : DsRel f s.fr.defers defers) (hro : RoRel f s.fr.round round)
    (hcs : FsRel f s.cs cs) (hr : HRel f (fun l => Mi l ∨ Sh l) Mi s.h w) (hl : f l = some x) (hal : s.h.objs.get l = some (.loop al)) (hlo : s.h.owns l = true) (hst : al.state ≠ .busy)
    (hs' : s' = { s with fr := { s.fr with todo := (match al.pending with | some c => .code c :: k | none => k) }, h := s.h.put l (.loop { al with state := .exhausted }) }) :
    Adv p.prog main f Mi Sh bot s.h (G (realF s.fr tmps (.endRangeFunc x.blk :: k') defers round) (cs ++ bot)) w s' := by
  subst hs'
  obtain ⟨l', k1, k2, k3⟩ := setLoop_sound (al' := { al with state := .exhausted }) hr hl hal hlo
  obtain ⟨w', q1, q2, q3, q4⟩ := k3 { l' with state := .exhausted } ⟨rfl, k1.pending, k1.fn, k1.size, k1.tmps, k1.params, k1.assign, k1.body, k1.defers⟩
  have hls : (l'.state == LoopState.busy) = false := by rw [k1.state]; cases e : al.state <;> first | rfl | exact absurd e hst
  have a1 := (k2 p.prog).1
  have a2 := (k2 p.prog).2
  have b1 := (q1 p.prog).1
  have b2 := (q1 p.prog).2
  have hsem : (Instr.endLoop x.blk).runT p.prog w #[] = (.ok al.pending w', #[⟨.obj x.blk, false, false⟩, ⟨.obj x.blk, true, false⟩]) := by
    rw [Sem.runT_eq]
    simp only [Instr.endLoop, Sem.run_bind, Sem.events_bind, a1, a2, Result.andThen_ok, Result.evThen_ok, hls, Bool.false_eq_true, if_false, b1, b2, Sem.run_pure, Sem.events_pure]
    rw [k1.pending]
    rfl
  have hkk : IsRel f (match al.pending with | some c => .code c :: k | none => k) ((al.pending.map Item.code).toList ++ k') := by
    cases al.pending with
    | none => exact hk
    | some c => exact .cons (.code c) hk
  refine ⟨_, w', _, Mi, f, ?_, f.le_refl, q2.seen p.prog s.fr.fn, ⟨⟨_, _, rfl, ⟨_, _, _, _, rfl, hsz, ht, hkk, hd, hro⟩, hcs⟩, q3⟩, q4⟩
  simp [G, stepG, realF, hret, stepG.exec, hsem, GStep.after, -Sem.runT_eq]
end
theorem step_sound (hp : TabOk p) {s s' : S} {g : Goroutine} (hs : step p s = .next s') (hrel : SRel f Mi Sh bot s g w) : Adv p.prog main f Mi Sh bot s.h g w s' := by
  obtain ⟨tmps, todo, defers, round, cs, rfl, hsz, ht, hk, hd, hro, hcs, hr⟩ := hrel.out
  unfold step at hs
  simp only [] at hs
  cases hret : s.fr.ret with
  | true =>
    rw [hret] at hs
    exact retA_sound hp hret hsz ht hk hd hro hcs hr hs
  | false =>
    rw [hret] at hs
    simp only [] at hs
    generalize etodo : s.fr.todo = td at hs hk
    cases hk with
    | nil =>
      simp only [] at hs
      refine leave_sound hret hsz ht (by rw [etodo]; exact .nil) hd hro hcs hr hs (fun e _ => ?_) (fun l e y w1 es er => ?_)
      · subst e; simp [G, realF, hret, stepG, stepG.exec]
      · subst e; simp [G, realF, hret, stepG, stepG.exec, er, -Sem.runT_eq]; try rfl
    | cons hi hkk =>
      rename_i ai it k k'
      have hself : IsRel f s.fr.todo (it :: k') := by rw [etodo]; exact .cons hi hkk
      have to : ∀ {kk : List AI} {kk' : List Item}, IsRel f kk kk' → s' = { s with fr := { s.fr with todo := kk, ret := false } } → stepG p.prog main (G (realF s.fr tmps (it :: k') defers round) (cs ++ bot)) w = .go (G (realF { s.fr with todo := kk } tmps kk' defers round) (cs ++ bot)) w #[] →
          Adv p.prog main f Mi Sh bot s.h (G (realF s.fr tmps (it :: k') defers round) (cs ++ bot)) w s' := by
        intro kk kk' hkk' e hst
        rw [← hret] at e
        subst e
        exact adv_to (cs' := s.cs) hret hsz ht hd hro hcs hr hkk' hst
      cases hi with
      | code c =>
        simp only [] at hs
        cases c with
        | ret =>
          simp only [] at hs
          refine leave_sound hret hsz ht hself hd hro hcs hr hs (fun e _ => ?_) (fun l e y w1 es er => ?_)
          · subst e; simp [G, realF, hret, stepG, stepG.exec]
          · subst e; simp [G, realF, hret, stepG, stepG.exec, er, -Sem.runT_eq]; try rfl
        | skip => cases hs; exact to hkk rfl (by simp [G, realF, hret, stepG, stepG.exec])
        | label l => cases hs; exact to hkk rfl (by simp [G, realF, hret, stepG, stepG.exec])
        | seq a b => cases hs; exact to (.cons (.code a) (.cons (.code b) hkk)) rfl (by simp [G, realF, hret, stepG, stepG.exec])
        | cond c thn els =>
          simp only [] at hs
          have hev := ht.ev (fr := realF s.fr tmps (.code (.cond c thn els) :: k') defers round) rfl
          split at hs
          · next e1 =>
            cases hs
            have := hev c _ e1
            generalize hgv : (realF s.fr tmps (.code (.cond c thn els) :: k') defers round).eval c = gv at this
            cases this
            refine to (.cons (.code thn) hkk) rfl ?_
            simp only [realF] at hgv
            simp [G, realF, hret, stepG, stepG.exec]
            simp only [hret, Bool.false_eq_true, if_false] at hgv
            rw [hgv]
            rfl
          · next e1 =>
            cases hs
            have := hev c _ e1
            generalize hgv : (realF s.fr tmps (.code (.cond c thn els) :: k') defers round).eval c = gv at this
            cases this
            refine to (.cons (.code els) hkk) rfl ?_
            simp only [realF] at hgv
            simp [G, realF, hret, stepG, stepG.exec]
            simp only [hret, Bool.false_eq_true, if_false] at hgv
            rw [hgv]
            rfl
          · cases hs
        | block id body => cases hs; exact to (.cons (.code body) (.cons (.inBlock id) hkk)) rfl (by simp [G, realF, hret, stepG, stepG.exec])
        | loop body => cases hs; exact to (.cons (.code body) (.cons (.inLoop body) hkk)) rfl (by simp [G, realF, hret, stepG, stepG.exec])
        | scope body => cases hs; exact to (.cons (.code body) (.cons (.inScope body) hkk)) rfl (by simp [G, realF, hret, stepG, stepG.exec])
        | exit id =>
          simp only [] at hs
          obtain ⟨x1, x2⟩ := exitTo_rel (id := id) hkk
          split at hs
          · next kk e1 =>
            cases hs
            obtain ⟨kk', g1, g2⟩ := x1 kk e1
            exact to g2 rfl (by simp [G, realF, hret, stepG, stepG.exec, g1])
          · next e1 =>
            have g1 := x2 e1
            refine leave_sound hret hsz ht hself hd hro hcs hr hs (fun e hj => ?_) (fun l e y w1 es er => ?_)
            · rcases hj with h | h <;> cases h
            · subst e; simp [G, realF, hret, stepG, stepG.exec, g1, er, -Sem.runT_eq]; try rfl
        | goto l =>
          simp only [] at hs
          obtain ⟨x1, x2⟩ := gotoIn_rel (l := l) hkk
          split at hs
          · next kk e1 =>
            cases hs
            obtain ⟨kk', g1, g2⟩ := x1 kk e1
            exact to g2 rfl (by simp [G, realF, hret, stepG, stepG.exec, g1])
          · next e1 =>
            have g1 := x2 e1
            refine leave_sound hret hsz ht hself hd hro hcs hr hs (fun e hj => ?_) (fun l e y w1 es er => ?_)
            · rcases hj with h | h <;> cases h
            · subst e; simp [G, realF, hret, stepG, stepG.exec, g1, er, -Sem.runT_eq]; try rfl
        | region id ops draw =>
          simp only [] at hs
          cases draw with
          | true => cases hs
          | false =>
            cases hs
            refine to (.cons (.reg (i := 0) (by simp)) hkk) rfl ?_
            simp [G, realF, hret, stepG, stepG.exec, List.range_eq_range']
        | rangeFunc g params assign body =>
          simp only [] at hs
          split at hs
          · next l e1 =>
            split at hs
            · next al e2 => exact range_some_sound hp hret hsz ht hkk hd hro hcs hr e1 e2 hs
            · cases hs
          · next e1 => exact range_none_sound hp hret hsz ht hkk hd hro hcs hr e1 hs
        | refuse why => cases hs
      | inBlock id => cases hs; exact to hkk rfl (by simp [G, realF, hret, stepG, stepG.exec])
      | inLoop body => cases hs; exact to (.cons (.code body) (.cons (.inLoop body) hkk)) rfl (by simp [G, realF, hret, stepG, stepG.exec])
      | inScope body => cases hs; exact to hkk rfl (by simp [G, realF, hret, stepG, stepG.exec])
      | reg hdrop =>
        rename_i ops i rest
        simp only [] at hs
        cases rest with
        | nil => cases hs; exact to hkk rfl (by simp [G, realF, hret, stepG, stepG.exec])
        | cons o rest =>
          simp only [] at hs
          have hwr := wanted_rel (ops := ops) ht o
          obtain ⟨ho, hrest⟩ := drop_cons hdrop
          cases hw : wantedA ops s.fr o with
          | true =>
            rw [hw] at hs hwr
            exact opA_sound hp hret hdrop hwr hsz ht hkk hd hro hcs hr etodo hs
          | false =>
            rw [hw] at hs hwr
            simp only [] at hs
            split at hs
            · next fr e1 =>
              cases hs
              obtain ⟨q1, q2⟩ := setDst_rel (f := f) e1 (v' := undef) (.tuple .nil) hsz ht (k' := .inRegion ops (List.range' (i + 1) rest.length) :: k') (.cons (.reg hrest) hkk) hd hro
              refine adv_still (es := #[]) ?_ rfl ⟨⟨_, _, rfl, q1, hcs⟩, hr⟩ rfl
              have hfin := finish_at (fr := s.fr) (k' := k') (tmps := tmps) (defers := defers) (round := round) (rest := rest) ho undef
              rw [← hfin]
              simp only [List.length_cons, List.range'_succ]
              simp [G, realF, hret, stepG, stepG.exec, ho, hwr]
            · cases hs
      | inRF hl => cases hs
      | endRF hl =>
        rename_i l x
        simp only [] at hs
        split at hs
        · next al e1 e2 =>
          split at hs
          · cases hs
          · next hne =>
            cases hs
            exact endRF_sound hp hret hsz ht hkk hd hro hcs hr hl e1 e2 (fun e => hne e) (by simp only [hret]; rfl)
        · cases hs
      | beginRound =>
        simp only [] at hs
        split at hs
        · next l e1 =>
          split at hs
          · next al e2 e3 =>
            split at hs
            · next e4 =>
              cases hs
              exact begin_sound hp hret hsz ht hkk hd hro hcs hr e1 e2 e3 e4 (by simp only [hret])
            · cases hs
          · cases hs
        · cases hs
end Go.Cx
end
section
namespace Go.Cx
open Go.Conc (G)
def Rely (L : World → Prop) (K : Loc → Prop) (w w1 : World) : Prop := Env K w w1 ∧ (L w → L w1)
theorem Rely.refl (L : World → Prop) (K : Loc → Prop) (w : World) : Rely L K w w := ⟨.refl K w, id⟩
theorem Rely.trans {L : World → Prop} {K : Loc → Prop} {w w1 w2 : World} (h : Rely L K w w1) (h' : Rely L K w1 w2) : Rely L K w w2 := ⟨h.1.trans h'.1, h'.2 ∘ h.2⟩
theorem Rely.mono {L : World → Prop} {K K' : Loc → Prop} {w w1 : World} (hK : ∀ l, K' l → K l) (h : Rely L K w w1) : Rely L K' w w1 := ⟨h.1.mono hK, h.2⟩
inductive GoesX (P : Program) (main : Bool) (Sh : Loc → Prop) (L : World → Prop) (Q : (Loc → Prop) → Goroutine → World → Prop) : Nat → (Loc → Prop) → Goroutine → World → Prop where
  | here {n : Nat} {Mi : Loc → Prop} {g : Goroutine} {w : World} (h : ∀ w1, Rely L (fun l => Mi l ∨ Sh l) w w1 → Q Mi g w1) : GoesX P main Sh L Q n Mi g w
  | go {n : Nat} {Mi : Loc → Prop} {g : Goroutine} {w : World} (g' : World → Goroutine) (w' : World → World) (es : World → Array Event) (Mi' : World → Loc → Prop) (hr : g.status = .running)
      (h : ∀ w1, Rely L (fun l => Mi l ∨ Sh l) w w1 → stepG P main g w1 = .go (g' w1) (w' w1) (es w1) ∧ Did Mi Sh w1 (w' w1) (es w1) (Mi' w1))
      (k : ∀ w1, Rely L (fun l => Mi l ∨ Sh l) w w1 → GoesX P main Sh L Q n (Mi' w1) (g' w1) (w' w1)) : GoesX P main Sh L Q (n + 1) Mi g w
variable {P : Program} {main : Bool} {Sh : Loc → Prop} {L : World → Prop} {Q Q' : (Loc → Prop) → Goroutine → World → Prop} {Mi : Loc → Prop} {g : Goroutine} {w : World} {n m : Nat}
theorem GoesX.step (hr : g.status = .running) (h : ∀ w1, Rely L (fun l => Mi l ∨ Sh l) w w1 → ∃ g' w' es Mi', stepG P main g w1 = .go g' w' es ∧ Did Mi Sh w1 w' es Mi' ∧ GoesX P main Sh L Q n Mi' g' w') : GoesX P main Sh L Q (n + 1) Mi g w := by
  classical
  have h' : ∀ w1, ∃ (x : Goroutine × World × Array Event × (Loc → Prop)), Rely L (fun l => Mi l ∨ Sh l) w w1 → stepG P main g w1 = .go x.1 x.2.1 x.2.2.1 ∧ Did Mi Sh w1 x.2.1 x.2.2.1 x.2.2.2 ∧ GoesX P main Sh L Q n x.2.2.2 x.1 x.2.1 := by
    intro w1
    by_cases he : Rely L (fun l => Mi l ∨ Sh l) w w1
    · obtain ⟨g', w', es, Mi', a, b, c⟩ := h w1 he
      exact ⟨⟨g', w', es, Mi'⟩, fun _ => ⟨a, b, c⟩⟩
    · exact ⟨⟨g, w, #[], Mi⟩, fun e => absurd e he⟩
  obtain ⟨x, hx⟩ := Classical.axiomOfChoice h'
  exact .go (fun w1 => (x w1).1) (fun w1 => (x w1).2.1) (fun w1 => (x w1).2.2.1) (fun w1 => (x w1).2.2.2) hr (fun w1 he => ⟨(hx w1 he).1, (hx w1 he).2.1⟩) (fun w1 he => (hx w1 he).2.2)
theorem GoesX.cases (h : GoesX P main Sh L Q n Mi g w) : (∀ w1, Rely L (fun l => Mi l ∨ Sh l) w w1 → Q Mi g w1) ∨ ∃ n', n = n' + 1 ∧ g.status = .running ∧
    ∀ w1, Rely L (fun l => Mi l ∨ Sh l) w w1 → ∃ g' w' es Mi', stepG P main g w1 = .go g' w' es ∧ Did Mi Sh w1 w' es Mi' ∧ GoesX P main Sh L Q n' Mi' g' w' := by
  cases h with
  | here h => exact .inl h
  | go g' w' es Mi' hr h k => exact .inr ⟨_, rfl, hr, fun w1 he => ⟨_, _, _, _, (h w1 he).1, (h w1 he).2, k w1 he⟩⟩
theorem GoesX.rely {w1 : World} (h : GoesX P main Sh L Q n Mi g w) (he : Rely L (fun l => Mi l ∨ Sh l) w w1) : GoesX P main Sh L Q n Mi g w1 := by
  cases h with
  | here h => exact .here fun w2 h2 => h w2 (he.trans h2)
  | go g' w' es Mi' hr h k => exact .go g' w' es Mi' hr (fun w2 h2 => h w2 (he.trans h2)) (fun w2 h2 => k w2 (he.trans h2))
theorem GoesX.more (h : GoesX P main Sh L Q n Mi g w) : ∀ {m : Nat}, n ≤ m → GoesX P main Sh L Q m Mi g w := by
  induction h with
  | here h => exact fun _ => .here h
  | go g' w' es Mi' hr h k ih =>
    intro m hm
    match m, hm with
    | m + 1, hm => exact .go g' w' es Mi' hr h (fun w1 he => ih w1 he (Nat.le_of_succ_le_succ hm))
theorem GoesX.bind (hQ : ∀ Mi g w, (∀ w1, Rely L (fun l => Mi l ∨ Sh l) w w1 → Q Mi g w1) → GoesX P main Sh L Q' m Mi g w) (h : GoesX P main Sh L Q n Mi g w) : GoesX P main Sh L Q' (n + m) Mi g w := by
  induction h with
  | here h => exact (hQ _ _ _ h).more (by omega)
  | go g' w' es Mi' hr h k ih =>
    refine GoesX.more (.go g' w' es Mi' hr h ih) (by omega)
theorem GoesX.mono (hQ : ∀ Mi g w, Q Mi g w → Q' Mi g w) (h : GoesX P main Sh L Q n Mi g w) : GoesX P main Sh L Q' n Mi g w :=
  GoesX.bind (m := 0) (fun Mi g w h => .here fun w1 h1 => hQ _ _ _ (h w1 h1)) h
theorem GoesX.running (hQ : ∀ Mi g w, Q Mi g w → g.status = .running) (h : GoesX P main Sh L Q n Mi g w) : g.status = .running := by
  cases h with
  | here h => exact hQ _ _ _ (h w (.refl _ _ _))
  | go g' w' es Mi' hr h k => exact hr
theorem SRel.running {f : Inj} {Mi Sh : Loc → Prop} {bot : List Frame} {s : S} {g : Goroutine} {w : World} (h : SRel f Mi Sh bot s g w) : g.status = .running := by
  obtain ⟨fr, cs, rfl, _⟩ := h.fr
  rfl
end Go.Cx
end
