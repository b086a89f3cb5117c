/- Ground of the proofs of statements about package arrow: it says nothing of a statement by itself, and has no condition. -/
import Derived.Test.YtlabfeofejemjaaGreatCx7
import Derived.Conc.Listed
import GoSem.Dispatch
import Derived.Laws.Sem
set_option linter.unusedSectionVars false
set_option linter.unusedSimpArgs false
set_option linter.unusedVariables false
section
namespace Go.Cx
open Go.Conc
def has (t : T AObj) (b : Nat) : Bool := match t.get b with | some _ => true | none => false
def okV (t : T AObj) : Nat → Value → Bool
  | 0, _ => false
  | n + 1, v =>
    match v with
    | .bool _ | .int _ _ | .string _ | .pointer none | .slice none _ _ | .map none | .nilFunc | .nilIface => true
    | .pointer (some a) => has t a.block
    | .slice (some a) _ _ => has t a.block
    | .map (some r) => has t r
    | .func fn a c => (match fn with | .yield l => has t l | _ => true) && a.toList.all (okV t n) && c.toList.all (okV t n)
    | .iface _ v => okV t n v
    | .agg a => a.toList.all (okV t n)
    | .tuple a => a.toList.all (okV t n)
    | _ => false
def allT {α : Type} (q : α → Bool) : T α → Bool
  | .e => true
  | .n l v r => (match v with | none => true | some x => q x) && allT q l && allT q r
theorem allT_get {α : Type} {q : α → Bool} : ∀ {t : T α} {k : Nat} {v : α}, allT q t = true → t.get k = some v → q v = true
  | .e, k, v, _, h => by rw [T.get_e] at h; cases h
  | .n l x r, k, v, ha, h => by
    simp only [allT, Bool.and_eq_true] at ha
    obtain ⟨⟨h1, h2⟩, h3⟩ := ha
    unfold T.get at h
    split at h
    · subst h; exact h1
    · split at h
      · exact allT_get h2 h
      · exact allT_get h3 h
def kept (f : Inj) (t : T AObj) : Inj := fun b => match has t b with | true => f b | false => none
theorem kept_le (f : Inj) (t : T AObj) : (kept f t).le f := by
  intro b x h
  unfold kept at h
  split at h
  · exact h
  · cases h
theorem kept_of {f : Inj} {t : T AObj} {b : Nat} {x : Base} (h : f b = some x) (hk : has t b = true) : kept f t b = some x := by
  unfold kept
  rw [hk]
  exact h
mutual
theorem VRel.kept {f : Inj} {t : T AObj} : ∀ {n : Nat} {v v' : Value}, VRel f v v' → okV t n v = true → VRel (kept f t) v v'
  | 0, _, _, _, h => by simp [okV] at h
  | _ + 1, _, _, .bool b, _ => .bool b
  | _ + 1, _, _, .int k n, _ => .int k n
  | _ + 1, _, _, .string s, _ => .string s
  | _ + 1, _, _, .ptrNil, _ => .ptrNil
  | _ + 1, _, _, .ptr h, hk => .ptr (kept_of h hk)
  | _ + 1, _, _, .sliceNil n c, _ => .sliceNil n c
  | _ + 1, _, _, .slice h hc he hu, hk => .slice (kept_of h hk) hc he hu
  | _ + 1, _, _, .mapNil, _ => .mapNil
  | _ + 1, _, _, .map h, hk => .map (kept_of h hk)
  | n + 1, _, _, .func hfn h1 h2, hk => by
    simp only [okV, Bool.and_eq_true] at hk
    exact .func hfn (h1.kept hk.1.2) (h2.kept hk.2)
  | n + 1, _, _, .yield h, hk => by
    simp only [okV, Bool.and_eq_true] at hk
    exact .yield (kept_of h hk.1.1)
  | _ + 1, _, _, .nilFunc, _ => .nilFunc
  | _ + 1, _, _, .nilIface, _ => .nilIface
  | n + 1, _, _, .iface t h, hk => .iface t (h.kept (n := n) (by simpa [okV] using hk))
  | n + 1, _, _, .agg h, hk => .agg (h.kept (n := n) (by simpa [okV] using hk))
  | n + 1, _, _, .tuple h, hk => .tuple (h.kept (n := n) (by simpa [okV] using hk))
theorem VsRel.kept {f : Inj} {t : T AObj} : ∀ {n : Nat} {l l' : List Value}, VsRel f l l' → l.all (okV t n) = true → VsRel (kept f t) l l'
  | _, _, _, .nil, _ => .nil
  | n, _, _, .cons h tl, hk => by
    simp only [List.all_cons, Bool.and_eq_true] at hk
    exact .cons (h.kept hk.1) (tl.kept hk.2)
end
def okI (t : T AObj) (i : AI) : Bool := match i with | .inRF l => has t l | .endRF l => has t l | _ => true
def okD (t : T AObj) (n : Nat) (d : Deferred) : Bool := match d.target with | .collected b => has t b | .fn _ c => c.toList.all (okV t n) && d.args.toList.all (okV t n) | _ => false
def okF (t : T AObj) (n : Nat) (a : AF) : Bool := allT (okV t n) a.tmps && a.todo.all (okI t) && a.defers.all (okD t n) && (match a.round with | none => true | some l => has t l)
def okO (t : T AObj) (n : Nat) (o : AObj) : Bool :=
  match o with
  | .cells c _ r _ m => c.all (fun x => match x with | none => true | some v => okV t n v) && has t r && m.all (has t)
  | .map es => es.all fun e => okV t n e.1 && okV t n e.2
  | .loop l => allT (okV t n) l.tmps && has t l.defers
  | .deferred none => true
  | .deferred (some ds) => ds.all (okD t n)
theorem DRel.kept {f : Inj} {t : T AObj} {n : Nat} {d d' : Deferred} (h : DRel f d d') (hk : okD t n d = true) : DRel (kept f t) d d' := by
  cases h with
  | fn hfn h1 h2 =>
    simp only [okD, Bool.and_eq_true] at hk
    exact .fn hfn (h1.kept hk.1) (h2.kept hk.2)
  | collected h => exact .collected (kept_of h hk)
theorem DsRel.kept {f : Inj} {t : T AObj} {n : Nat} : ∀ {l l' : List Deferred}, DsRel f l l' → l.all (okD t n) = true → DsRel (kept f t) l l'
  | _, _, .nil, _ => .nil
  | _, _, .cons h tl, hk => by
    simp only [List.all_cons, Bool.and_eq_true] at hk
    exact .cons (h.kept hk.1) (tl.kept hk.2)
theorem IRel.kept {f : Inj} {t : T AObj} {a : AI} {b : Item} (h : IRel f a b) (hk : okI t a = true) : IRel (kept f t) a b := by
  cases h with
  | code c => exact .code c
  | inBlock id => exact .inBlock id
  | inLoop c => exact .inLoop c
  | inScope c => exact .inScope c
  | reg h => exact .reg h
  | inRF h => exact .inRF (kept_of h hk)
  | endRF h => exact .endRF (kept_of h hk)
  | beginRound => exact .beginRound
theorem IsRel.kept {f : Inj} {t : T AObj} : ∀ {l : List AI} {l' : List Item}, IsRel f l l' → l.all (okI t) = true → IsRel (kept f t) l l'
  | _, _, .nil, _ => .nil
  | _, _, .cons h tl, hk => by
    simp only [List.all_cons, Bool.and_eq_true] at hk
    exact .cons (h.kept hk.1) (tl.kept hk.2)
theorem VRel.keptD {f : Inj} {t : T AObj} {n i : Nat} {m : T Value} {vv : Value} (this : VRel f ((m.get i).getD undef) vv) (hk : allT (okV t n) m = true) : VRel (Cx.kept f t) ((m.get i).getD undef) vv := by
  cases e : m.get i with
  | none =>
    rw [e] at this
    simp only [Option.getD_none] at this ⊢
    cases this with
    | tuple h =>
      rename_i a'
      obtain ⟨al⟩ := a'
      cases h
      exact .tuple .nil
  | some v =>
    rw [e] at this
    exact this.kept (allT_get hk e)
theorem TRel.kept {f : Inj} {t : T AObj} {n : Nat} {m : T Value} {a : Array Value} (h : TRel f m a) (hk : allT (okV t n) m = true) : TRel (kept f t) m a := fun i => (h i).keptD hk
theorem FRel.kept {f : Inj} {t : T AObj} {n : Nat} {a : AF} {fr : Frame} (h : FRel f a fr) (hk : okF t n a = true) : FRel (kept f t) a fr := by
  obtain ⟨tmps, todo, defers, round, h1, h2, h3, h4, h5, h6⟩ := h.ex
  simp only [okF, Bool.and_eq_true] at hk
  obtain ⟨⟨⟨k1, k2⟩, k3⟩, k4⟩ := hk
  refine ⟨tmps, todo, defers, round, h1, h2, h3.kept k1, h4.kept k2, h5.kept k3, ?_⟩
  generalize a.round = ro at h6 k4 ⊢
  cases h6 with
  | none => exact .none
  | some hl => exact .some (kept_of hl k4)
theorem FsRel.kept {f : Inj} {t : T AObj} {n : Nat} : ∀ {l : List AF} {l' : List Frame}, FsRel f l l' → l.all (okF t n) = true → FsRel (kept f t) l l'
  | _, _, .nil, _ => .nil
  | _, _, .cons h tl, hk => by
    simp only [List.all_cons, Bool.and_eq_true] at hk
    exact .cons (h.kept hk.1) (tl.kept hk.2)
theorem has_some {t : T AObj} {b : Nat} (h : has t b = true) : ∃ o, t.get b = some o := by
  unfold has at h
  split at h
  · next o e => exact ⟨o, e⟩
  · cases h
def okLay (t : T AObj) (n : Nat) (y : Lay) : Bool := okF t n y.fr && y.cs.all (okF t n)
theorem label_has {t : T AObj} {n : Nat} {k : FK} {v : Value} {l : Nat} (h : labelOf k (some v) = some l) (hk : okV t n v = true) : has t l = true := by
  cases n with
  | zero => cases hk
  | succ n =>
    unfold labelOf at h
    split at h
    · next e =>
      cases h
      cases e
      simpa [okV] using hk
    · next e =>
      cases e
      split at h
      · cases h; simpa [okV] using hk
      · cases h
    · cases h
theorem LaysRel.kept {f : Inj} {t : T AObj} {n : Nat} {h h' : AHeap} (ht : h'.objs = t) (hsub : ∀ b o, t.get b = some o → h.objs.get b = some o) {bot0 : List Frame} {Bd : Nat} {lay : List Lay} {bot : List Frame} (hl : LaysRel f h bot0 Bd lay bot) (hk : lay.all (okLay t n) = true) : LaysRel (kept f t) h' bot0 Bd lay bot := by
  induction hl with
  | nil => exact .nil
  | cons hB hret h1 hreg hsz htx hpd hdst hdiff hki hd hro hcs tl ih =>
    simp only [List.all_cons, Bool.and_eq_true, okLay, okF] at hk
    obtain ⟨⟨⟨⟨⟨k1, k2⟩, k3⟩, k4⟩, k5⟩, k6⟩ := hk
    refine .cons hB hret h1 hreg hsz (fun i hi => (htx i hi).keptD k1) (fun q hq hn o d e1 e2 e3 k l e4 => ?_) hdst hdiff (hki.kept k2) (hd.kept k3) ?_ (hcs.kept (by simpa [okF] using k5)) (ih (by simpa [okLay, okF] using k6))
    · obtain ⟨p1, p2, p3, p4⟩ := hpd q hq hn o d e1 e2 e3 k l e4
      refine ⟨?_, ?_, p3, p4⟩
      · unfold Cx.kept
        split
        · exact p1
        · rfl
      · rename_i y _ _ _ _ _ _ _ _ _ _ _ _
        cases ev : y.fr.tmps.get d with
        | none => rw [ev] at e4; simp [labelOf] at e4
        | some v =>
          rw [ev] at e4
          obtain ⟨o', eo⟩ := has_some (label_has e4 (allT_get k1 ev))
          obtain ⟨c, x, p2⟩ := p2
          rw [hsub _ _ eo] at p2
          cases p2
          exact ⟨c, x, by rw [ht]; exact eo⟩
    · rename_i y _ _ _ _ _ _ _ _ round _ _ _
      generalize y.fr.round = ro at hro k4 ⊢
      cases hro with
      | none => exact .none
      | some hl => exact .some (kept_of hl k4)
def pickT (t : T AObj) : List Nat → T AObj → T AObj
  | [], r => r
  | b :: bs, r => match t.get b with
    | some o => pickT t bs (r.set b o)
    | none => pickT t bs r
theorem pickT_get (t : T AObj) : ∀ (l : List Nat) (r : T AObj), (∀ b o, r.get b = some o → t.get b = some o) → ∀ b o, (pickT t l r).get b = some o → t.get b = some o
  | [], r, h, b, o, e => h b o e
  | x :: l, r, h, b, o, e => by
    unfold pickT at e
    split at e
    · next o' e' =>
      refine pickT_get t l _ (fun b o e2 => ?_) b o e
      by_cases hb : b = x
      · subst hb; rw [T.get_set_same] at e2; cases e2; exact e'
      · rw [T.get_set_ne _ _ hb] at e2; exact h b o e2
    · exact pickT_get t l r h b o e
def gcA (l : List Nat) (n : Nat) (x : L) : Option L :=
  match x.reg with
  | none =>
    let t := pickT x.s.h.objs l .e
    match okF t n x.s.fr && x.s.cs.all (okF t n) && allT (okO t n) t && x.lay.all (okLay t n) with
    | true => some ⟨{ x.s with h := { x.s.h with objs := t } }, none, x.lay⟩
    | false => none
  | _ => none
theorem ORel.kept {f : Inj} {t : T AObj} {n : Nat} {K : Loc → Prop} {x : Base} {o : AObj} {w : World} (h : ORel f K x o w) (hk : okO t n o = true) : ORel (kept f t) K x o w := by
  match o, h with
  | .cells c u r ba m, ⟨a1, rc, e, a2, a3, a4, a5⟩ =>
    simp only [okO, Bool.and_eq_true] at hk
    refine ⟨a1, rc, e, a2, a3, a4, fun i v hi => ?_⟩
    obtain ⟨k1, v', k2, k3⟩ := a5 i v hi
    have := List.all_eq_true.1 hk.1.1 _ (List.mem_of_getElem? hi)
    exact ⟨k1, v', k2, k3.kept this⟩
  | .map es, ⟨a1, a2, es', clock, a3, a4⟩ =>
    refine ⟨a1, a2, es', clock, a3, ?_⟩
    have key : ∀ {l : List (Value × Value)} {l' : List MapEntry}, MRel f l l' → (l.all fun e => okV t n e.1 && okV t n e.2) = true → MRel (Cx.kept f t) l l' := by
      intro l l' hm
      induction hm with
      | nil => exact fun _ => .nil
      | cons hk hv _ ih =>
        intro ha
        simp only [List.all_cons, Bool.and_eq_true] at ha
        exact .cons (hk.kept ha.1.1) (hv.kept ha.1.2) (ih ha.2)
    exact key a4 hk
  | .loop l, ⟨a1, a2, l', a3, a4⟩ =>
    simp only [okO, Bool.and_eq_true] at hk
    obtain ⟨y, e1, e2⟩ := a4.defers
    exact ⟨a1, a2, l', a3, a4.state, a4.pending, a4.fn, a4.size, a4.tmps.kept hk.1, a4.params, a4.assign, a4.body, y, kept_of e1 hk.2, e2⟩
  | .deferred none, ⟨a1, a2, a3⟩ => exact ⟨a1, a2, a3⟩
  | .deferred (some ds), ⟨a1, a2, ds', a3, a4⟩ => exact ⟨a1, a2, ds', a3, a4.kept hk⟩
theorem gc_sound {l : List Nat} {n : Nat} {x x' : L} (h : gcA l n x = some x') {f : Inj} {M Sh : Loc → Prop} {bot : List Frame} {g : Goroutine} {w : World} (hr : XRel f M Sh bot x g w) : ∃ f', f'.le f ∧ XRel f' M Sh bot x' g w := by
  obtain ⟨s, reg, lay⟩ := x
  unfold gcA at h
  split at h
  · next e1 =>
    simp only at e1
    subst e1
    simp only [] at h
    split at h
    · next hk =>
      cases h
      simp only [Bool.and_eq_true] at hk
      obtain ⟨⟨⟨k1, k2⟩, k3⟩, k9⟩ := hk
      generalize ht : pickT s.h.objs l .e = t at k1 k2 k3 k9 ⊢
      have sub : ∀ b o, t.get b = some o → s.h.objs.get b = some o := by
        rw [← ht]
        exact pickT_get _ l .e (fun b o e => by rw [T.get_e] at e; cases e)
      cases hr with
      | plain hs hB hlays =>
      obtain ⟨fr, cs, rfl, hfr, hcs⟩ := hs.fr
      have hh := hs.heap
      have mem : ∀ r m, m ∈ members t r → m ∈ members s.h.objs r := by
        intro r m hm
        unfold members at hm ⊢
        split at hm
        · next e => rw [sub _ _ e]; exact hm
        · cases hm
      refine ⟨Cx.kept f t, kept_le f t, .plain (s := { s with h := { s.h with objs := t } }) ⟨⟨fr, cs, rfl, hfr.kept k1, hcs.kept k2⟩, ⟨fun b o e => hh.wf.lt b o (sub b o e), fun b c u r ba m e => ?_, fun r m hm => ?_⟩, fun b x hx => ?_, fun b x hx ho => hh.mine b x (kept_le f t b x hx) ho, fun b x i hx hi => hh.part b x i (kept_le f t b x hx) hi,
        fun b b' x x' o o' h1 h2 h3 h4 => hh.apart b b' x x' o o' (kept_le f t b x h1) (kept_le f t b' x' h2) (sub _ _ h3) (sub _ _ h4), fun b b' x x' o o' h1 h2 h3 h4 => hh.coord b b' x x' o o' (kept_le f t b x h1) (kept_le f t b' x' h2) (sub _ _ h3) (sub _ _ h4), fun b x hx => hh.home b x (kept_le f t b x hx)⟩ hB (LaysRel.kept (t := t) (h := s.h) (h' := { s.h with objs := t }) rfl sub hlays k9)⟩
      · obtain ⟨g1, g2, c', u', m', g3⟩ := hh.wf.mem b c u r ba m (sub _ _ e)
        have ho := allT_get k3 e
        simp only [okO, Bool.and_eq_true] at ho
        obtain ⟨o, eo⟩ := has_some ho.1.2
        have := sub _ _ eo
        rw [g3] at this
        cases this
        refine ⟨?_, g2, c', u', m', eo⟩
        unfold members at g1 ⊢
        rw [g3] at g1
        rw [eo]
        exact g1
      · obtain ⟨c, u, ba, mm, g1⟩ := hh.wf.kin r m (mem r m hm)
        have hm' := hm
        unfold members at hm'
        split at hm'
        · next c2 u2 r2 b2 mem2 e =>
          have ho := allT_get k3 e
          simp only [okO, Bool.and_eq_true] at ho
          obtain ⟨o, eo⟩ := has_some (List.all_eq_true.1 ho.2 m hm')
          have := sub _ _ eo
          rw [g1] at this
          cases this
          exact ⟨c, u, ba, mm, eo⟩
        · cases hm'
      · have hb : has t b = true := by
          unfold Cx.kept at hx
          split at hx
          · next e => exact e
          · cases hx
        obtain ⟨o, eo⟩ := has_some hb
        obtain ⟨o', g1, g2⟩ := hh.obj b x (kept_le f t b x hx)
        rw [sub _ _ eo] at g1
        cases g1
        exact ⟨o, eo, g2.kept (allT_get k3 eo)⟩
    · cases h
  · cases h
inductive Reaches (p : Tab) (pl : T (T (List Phase))) : Nat → L → L → Prop where
  | refl (x : L) : Reaches p pl 0 x x
  | run {n m : Nat} {x y z : L} (h : runL p pl n x = .next y) (t : Reaches p pl m y z) : Reaches p pl (costL p pl n x + m) x z
  | gc {l : List Nat} {n m : Nat} {x y z : L} (h : gcA l n x = some y) (t : Reaches p pl m y z) : Reaches p pl m x z
theorem Reaches.trans {p : Tab} {pl : T (T (List Phase))} {m n : Nat} {x y z : L} (h : Reaches p pl m x y) (h' : Reaches p pl n y z) : Reaches p pl (m + n) x z := by
  induction h with
  | refl x => rw [Nat.zero_add]; exact h'
  | run h t ih => rw [Nat.add_assoc]; exact .run h (ih h')
  | gc h t ih => exact .gc h (ih h')
theorem reaches_sound {p : Tab} {pl : T (T (List Phase))} (hp : TabOk p) (hmix : p.prog.follows .mixedOrders = true) {L0 : World → Prop} {main : Bool} {bot : List Frame} {Sh : Loc → Prop} {m : Nat} {x y : L} (h : Reaches p pl m x y) :
    ∀ {f : Inj} {M : Loc → Prop} {g : Goroutine} {w : World}, XRel f M Sh bot x g w → GoesX p.prog main Sh L0 (fun Mi g w => ∃ f', XRel f' Mi Sh bot y g w) m M g w := by
  induction h with
  | refl x => exact fun hr => .here fun w1 h1 => ⟨_, hr.env h1.1⟩
  | run h t ih =>
    intro f M g w hr
    refine GoesX.bind ?_ (runL_sound (L0 := L0) hp hmix _ h hr)
    intro Mi2 g2 w2 hq
    obtain ⟨f2, _, hx⟩ := hq w2 (.refl _ _ _)
    exact ih hx
  | gc h t ih =>
    intro f M g w hr
    obtain ⟨f', _, hx⟩ := gc_sound h hr
    exact ih hx
end Go.Cx
end
section
namespace Go.Cx
open Go.Conc Go.ConcN Go.Conc.Lib Go.ConcR.Gen Go.ConcN.Gen
open Go.ConcR (KK wgBlock WgAt stA smA rd wr mk Payload DC0)
section
variable {f : Inj} {M Sh : Loc → Prop} {w : World} {h h1 : AHeap} {bB bW bR n m nr : Nat} {xB xW xR : Base}
theorem HRel.move2 (hr : HRel f (fun l => M l ∨ Sh l) M h w) (hb : blankAt h bB n = true) (hB : f bB = some xB) (hbw : blankAt h bW m = true) (hW : f bW = some xW) (hbr : blankAt h bR nr = true) (hR : f bR = some xR) {M1 S1 : Loc → Prop} (ho : h1.objs = h.objs) (hn : h1.next = h.next)
    (hK : ∀ l, M l ∨ Sh l → (∃ b i, l = cellAt b i ∨ l = .obj b) → (∀ i, l ≠ cellAt xB.blk i) → (∀ i, l ≠ cellAt xW.blk i) → (∀ i, l ≠ cellAt xR.blk i) → M1 l ∨ S1 l) (hm : ∀ b x, f b = some x → h1.owns b = true → ∀ l, locBlk l = some x.blk → M1 l)
    (hp : ∀ b x i, f b = some x → inList b i 1 h1.wl = true → M1 (cellAt x.blk (x.off + i))) : HRel f (fun l => M1 l ∨ S1 l) M1 h1 w := by
  refine ⟨⟨fun b o e => by rw [hn]; exact hr.wf.lt b o (ho ▸ e), fun b c x r ba m e => by rw [ho] at e ⊢; exact hr.wf.mem b c x r ba m e, fun r m e => by rw [ho] at e ⊢; exact hr.wf.kin r m e⟩, fun b x hx => ?_, hm, hp,
    fun b b' x x' o o' h1 h2 h3 h4 => hr.apart b b' x x' o o' h1 h2 (ho ▸ h3) (ho ▸ h4), fun b b' x x' o o' h1 h2 h3 h4 => hr.coord b b' x x' o o' h1 h2 (ho ▸ h3) (ho ▸ h4), fun b x hx => hK _ (hr.home b x hx) ⟨_, 0, .inr rfl⟩ (fun i => by simp) (fun i => by simp) (fun i => by simp)⟩
  obtain ⟨o, e1, e2⟩ := hr.obj b x hx
  refine ⟨o, by rw [ho]; exact e1, ?_⟩
  match o, e2 with
  | .cells c u r ba m, ⟨a1, rc, e, a2, a3, a4, a5⟩ =>
    refine ⟨a1, rc, e, a2, a3, a4, fun i v hi => ?_⟩
    obtain ⟨k1, k2⟩ := a5 i v hi
    refine ⟨hK _ k1 ⟨_, _, .inl rfl⟩ (fun j hj => ?_) (fun j hj => ?_) (fun j hj => ?_), k2⟩
    · simp only [cellAt, Loc.cell.injEq, Addr.mk.injEq] at hj
      obtain rfl := hr.only hb hB hx hj.1
      obtain ⟨c', u', e', hn', _⟩ := blankAt_some hb
      rw [e1] at e'
      cases e'
      exact allNone_get hn' i v hi
    · simp only [cellAt, Loc.cell.injEq, Addr.mk.injEq] at hj
      obtain rfl := hr.only hbw hW hx hj.1
      obtain ⟨c', u', e', hn', _⟩ := blankAt_some hbw
      rw [e1] at e'
      cases e'
      exact allNone_get hn' i v hi
    · simp only [cellAt, Loc.cell.injEq, Addr.mk.injEq] at hj
      obtain rfl := hr.only hbr hR hx hj.1
      obtain ⟨c', u', e', hn', _⟩ := blankAt_some hbr
      rw [e1] at e'
      cases e'
      exact allNone_get hn' i v hi
  | .map es, ⟨a1, a2, a3⟩ => exact ⟨a1, hK _ a2 ⟨_, 0, .inr rfl⟩ (fun i => by simp) (fun i => by simp) (fun i => by simp), a3⟩
  | .loop l, ⟨a1, a2, a3⟩ => exact ⟨a1, hK _ a2 ⟨_, 0, .inr rfl⟩ (fun i => by simp) (fun i => by simp) (fun i => by simp), a3⟩
  | .deferred none, ⟨a1, a2, a3⟩ => exact ⟨a1, hK _ a2 ⟨_, 0, .inr rfl⟩ (fun i => by simp) (fun i => by simp) (fun i => by simp), a3⟩
  | .deferred (some ds), ⟨a1, a2, a3⟩ => exact ⟨a1, hK _ a2 ⟨_, 0, .inr rfl⟩ (fun i => by simp) (fun i => by simp) (fun i => by simp), a3⟩
end
theorem stepL_done {p : Tab} {pl : T (T (List Phase))} {x : L} {v : Value} {h : AHeap} (e : stepL p pl x = .done v h) : x = ⟨x.s, none, []⟩ ∧ step p x.s = .done v h := by
  unfold stepL at e
  repeat' split at e
  all_goals first | cases e | skip
  · exfalso
    unfold loudD at e
    simp only [] at e
    repeat' split at e
    all_goals cases e
  · rename_i e1 _ _ _ _ e3 e2
    obtain ⟨s, reg, lay⟩ := x
    simp only at *
    subst e1
    subst e3
    exact ⟨rfl, e2⟩
section
variable [Payload]
variable {p : Tab} {pl : T (T (List Phase))} {Lk : WgLink} {Wg C nC : Nat} {xB xW : Base} {vals : List (List Value)} {c : Cfg} {hn : c.n < 2147483647} {hCW : C ≠ Wg} {hCB : C ≠ xB.blk} {w0 : World} {hWN : w0.heap.size ≤ Wg} {hCN : w0.heap.size ≤ C} {bot : List Frame}
def AtLast (p : Tab) (pl : T (T (List Phase))) (Wg : Nat) (bot : List Frame) (xl : L) (Mi : Loc → Prop) (g : Goroutine) (w : World) : Prop := ∃ f, XRel f Mi (fun l => l = Loc.obj Wg) bot xl g w
theorem endOk (H : WgLib p.prog Lk) (hp : TabOk p) (hmix : p.prog.follows .mixedOrders = true) (hxW : xW.blk = Wg) (hxO : xW.off = 0) (hBW : c.bB ≠ c.bW) {y xl : L} {h2 : AHeap}
    (hf : fillA c vals y.s.h = some h2) {ml : Nat} (he : Reaches p pl ml ⟨{ y.s with h := h2 }, none, []⟩ xl) :
    EndOk p Lk c Wg C nC xB xW w0 (Crw p Lk c.n Wg C nC xB.blk xB.off vals hn hCW hCB w0 hWN hCN) (fun _ _ g w => ∃ m, GoesX p.prog true (fun l => l = Loc.obj Wg) (WgLive Lk.tWg Wg) (AtLast p pl Wg bot xl) m (AllBut w0 Wg) g w) bot y := by
  intro f M Sh g w x1 hc hbW hbB hJ hSh
  obtain ⟨ops, i, o, rest, kk, args', h', fr', tmps, k', defers, cs, args'', g1, f1, f', hb, ha, hf1, hf2, hva, hh, rfl⟩ := hc
  have hbW' := hf2 _ _ (hf1 _ _ hbW)
  have hbB' := hf2 _ _ (hf1 _ _ hbB)
  have hargs := args_wg hb.chk hva hbW' hxO
  rw [hxW] at hargs
  obtain ⟨lf1, lf2⟩ := lib_frame ha
  have hy : y.s.h = h' := by rw [hb.ey]
  rw [hy] at hf
  have hF2 : ∀ w w', Env (fun l => M l ∨ Sh l) w w' → HRel f' (fun l => M l ∨ Sh l) M h' w → HRel f' (fun l => M l ∨ Sh l) M h' w' := fun w w' he hr => hr.env he
  rw [hargs, enter_wait H, lf1]
  refine ⟨AnchX Lk (fun w => HRel f' (fun l => M l ∨ Sh l) M h' w) Wg _ _, ?_, ?_, ⟨3, waitStartX H hF2 w ⟨hh, hJ.1⟩⟩⟩
  · rintro g w ⟨T, rfl, _⟩
    rfl
  · intro g w hA
    refine waitRoundX (F2 := fun w => HRel f' (fun l => AllBut w0 Wg l ∨ l = .obj Wg) (AllBut w0 Wg) h2 w) (mT := ml) H (fun i h => h.elim (hJ.2.2.1 i) (hSh.1 i)) hF2 (fun w w' he hr => hr.env he)
      (fun w hF _ hJn => join_rel hF hf hbW' hxW hbB' hBW (fun b x hx => (hF.home b x hx).elim (fun h => hJ.2.2.2.2.1 _ _ h rfl) (fun h => hSh.2 _ _ h rfl)) hJn) ?_ g w hA
    intro w hF hl
    rw [lf2]
    have hx : XRel f' (AllBut w0 Wg) (fun l => l = Loc.obj Wg) bot ⟨{ y.s with h := h2 }, none, []⟩ (G (realF x1.s.fr (putDst o.dst tmps (.tuple #[])) (.inRegion ops (List.range' (i + 1) rest.length) :: k') defers none) (cs ++ bot)) w := by
      have : y.s = { x1.s with fr := fr', h := h' } := by rw [hb.ey]
      rw [this]
      exact SRel.flat (call_back ha hb.dst hf2 (v' := .tuple #[]) (.tuple .nil) hF)
    exact reaches_sound hp hmix he hx
end
end Go.Cx
end
section
namespace Go.Cx
open Go.Conc Go.ConcN Go.Conc.Lib Go.ConcR.Gen Go.ConcN.Gen
open Go.ConcR (KK wgBlock WgAt stA smA rd wr mk Payload DC0)
def Lone (t : Trace) : Prop := ∀ op ∈ t, op.g = 0 ∧ op.act ≠ .mark .disable ∧ op.act ≠ .mark .enable ∧ ∀ a, op.act ≠ .mark (.release a)
theorem lone_ofEvents {M S : Loc → Prop} (hl : ∀ l, M l ∨ S l → ∃ b, locBlk l = some b) {es : Array Event} (h : ∀ e ∈ es, EvIn M S e) (fn : FuncId) (pos : String) : Lone (MemOp.ofEvents 0 fn pos es) := by
  intro op hop
  obtain ⟨e, he, rfl⟩ := Go.Conc.mem_ofEvents hop
  obtain ⟨h1, h2, h3⟩ := evIn_loc hl (h e he)
  have key : ∀ m, MemAct.ofEvent e = .mark m → e.loc = .mark m := by
    intro m hm
    obtain ⟨l, wr, sy⟩ := e
    cases l with
    | mark m' => simp [MemAct.ofEvent] at hm; subst hm; rfl
    | obj r => cases wr <;> cases sy <;> simp [MemAct.ofEvent] at hm
    | _ => simp [MemAct.ofEvent] at hm
  exact ⟨rfl, fun hm => h1 (key _ hm), fun hm => h2 (key _ hm), fun a hm => h3 a (key _ hm)⟩
theorem Lone.app {t u : Trace} (h : Lone t) (h' : Lone u) : Lone (t ++ u) := fun op hop => (Array.mem_append.1 hop).elim (h op) (h' op)
section
variable {P : Program} {S : Loc → Prop} {L : World → Prop} {Q : (Loc → Prop) → Goroutine → World → Prop}
theorem goesX_solo (hL : ∀ w d, L w → L (w.at d)) : ∀ (n : Nat) (a : Goroutine) (w : World) (sl : Option (Nat × Nat)) (t : Trace) (M : Loc → Prop), Lone t → (∀ l, M l ∨ S l → ∃ b, locBlk l = some b) → GoesX P true S L Q n M a w →
    ∃ (N : Nat) (a' : Goroutine) (w' : World) (sl' : Option (Nat × Nat)) (t' : Trace) (M' : Loc → Prop), runNT P N (crowd #[a] w sl) t = (.next (crowd #[a'] w' sl'), t') ∧ Q M' a' w' ∧ Lone t'
  | 0, a, w, sl, t, M, ht, hl, hG => by
    rcases hG.cases with hq | ⟨n', e, _⟩
    · exact ⟨0, a, w, sl, t, M, rfl, hq w (.refl _ _ w), ht⟩
    · omega
  | n + 1, a, w, sl, t, M, ht, hl, hG => by
    rcases hG.cases with hq | ⟨n', e, hrun, hstep⟩
    · exact ⟨0, a, w, sl, t, M, rfl, hq w (.refl _ _ w), ht⟩
    obtain rfl : n' = n := by omega
    have haw : ∀ g ∈ #[a], awake g := by
      intro g hg
      obtain rfl : g = a := by simpa using hg
      exact awake_of (.inl hrun)
    obtain ⟨i, g, d, sl', hi, hg, hst⟩ := crowd_pick (P := P) (w := w) (sl := sl) haw ⟨0, a, rfl, hrun⟩
    obtain rfl : i = 0 := by have := (Array.getElem?_eq_some_iff.1 hi).1; simp at this; exact this
    obtain rfl : g = a := by simpa using hi.symm
    obtain ⟨a', w', es, M', hgo, hd, hG'⟩ := hstep (w.at d) ⟨env_at _ w d, hL w d⟩
    have hl' : ∀ l, M' l ∨ S l → ∃ b, locBlk l = some b := by
      intro l hl2
      rcases hl2 with hl2 | hl2
      · rcases (hd.mine l).1 hl2 with hl2 | ⟨b, hb, _⟩
        · exact hl l (.inl hl2)
        · exact ⟨b, hb⟩
      · exact hl l (.inr hl2)
    have hrunT := runT_crowd_go (P := P) (sl := sl') (i := 0) hi (show stepG P (0 == 0) g (w.at d) = _ from hgo)
    have e1 : ((#[g].map (Go.Conc.woken P g a' w')).setIfInBounds 0 a') = #[a'] := by simp
    rw [e1] at hrunT
    obtain ⟨N, a'', w'', sl'', t', M'', hr, hQ, ht'⟩ := goesX_solo hL n' a' w' sl' _ M' (ht.app (lone_ofEvents hl' hd.evs g.frame.fn g.frame.place)) hl' hG'
    exact ⟨N + 1, a'', w'', sl'', t', M'', by simp only [runNT, hst, hrunT]; exact hr, hQ, ht'⟩
end
theorem allocA_some {p : Tab} {c : Cfg} {tWg : TypeId} {x y : L} (h : allocA p c tWg x = some y) : ∃ ops i o rest k z fr, x = ⟨x.s, none, []⟩ ∧ x.s.fr.ret = false ∧ x.s.fr.round = none ∧ x.s.fr.todo = .reg ops i (o :: rest) :: k ∧ o.op = .alloc tWg ∧
    wantedA ops x.s.fr o = true ∧ x.s.h.next = c.bW ∧ p.zero tWg = some z ∧ z.cells = #[.int .u64 0, .int .u32 0] ∧ setDst x.s.fr o (.pointer (some ⟨x.s.h.next, 0, none⟩)) (.reg ops (Nat.succ i) rest :: k) = some fr ∧ y = ⟨{ x.s with fr, h := x.s.h.row z.cells.toList 0 }, none, []⟩ := by
  unfold allocA at h
  split at h
  · next ops i o rest k e1 e2 e3 =>
    split at h
    · next t e4 =>
      split at h
      · next z fr e5 e6 e7 =>
        split at h
        · next e8 =>
          cases h
          simp only [Bool.and_eq_true] at e5
          obtain ⟨⟨h1, h2⟩, h3⟩ := e5
          obtain rfl := Nat.eq_of_beq_eq_true h1
          obtain ⟨a, b, d⟩ := opAt_some e3
          refine ⟨ops, i, o, rest, k, z, fr, ?_, b, e2, d, e4, h2, Nat.eq_of_beq_eq_true h3, e6, Array.toList_inj.1 e8, e7, rfl⟩
          obtain ⟨s, reg, lay⟩ := x
          simp only at a e1
          subst a; subst e1
          rfl
        · cases h
      · cases h
    · cases h
  · cases h
section
variable {p : Tab} {pl : T (T (List Phase))} {Lk : WgLink} {c : Cfg} {bot : List Frame}
def I0 (Mi : Loc → Prop) (w : World) : Prop := ∀ l, Mi l → ∃ b, locBlk l = some b ∧ b < w.heap.size
theorem I0.rely {L : World → Prop} {Mi Sh : Loc → Prop} {w w1 : World} (h : I0 Mi w) (hr : Rely L (fun l => Mi l ∨ Sh l) w w1) : I0 Mi w1 :=
  fun l hl => let ⟨b, h1, h3⟩ := h l hl; ⟨b, h1, Nat.lt_of_lt_of_le h3 hr.1.size⟩
theorem I0.did {Mi Mi' Sh : Loc → Prop} {w w' : World} {es : Array Event} (h : I0 Mi w) (hd : Did Mi Sh w w' es Mi') : I0 Mi' w' := by
  intro l hl
  rcases (hd.mine l).1 hl with hl | ⟨b, h1, h2, h3⟩
  · obtain ⟨b, h1, h3⟩ := h l hl
    exact ⟨b, h1, Nat.lt_of_lt_of_le h3 hd.env.size⟩
  · exact ⟨b, h1, h3⟩
def Frm (w0 : World) (Mi : Loc → Prop) (w : World) : Prop := (∀ l b, Mi l → locBlk l = some b → w0.heap.size ≤ b) ∧ Env (OldL w0) w0 w
theorem Frm.not {w0 w : World} {Mi : Loc → Prop} (h : Frm w0 Mi w) {l : Loc} (hl : Mi l) : ¬ OldL w0 l := fun ⟨b, h1, h2⟩ => absurd h2 (Nat.not_lt.2 (h.1 l b hl h1))
theorem Frm.rely {w0 : World} {L : World → Prop} {Mi Sh : Loc → Prop} {w w1 : World} (hS : ∀ l, OldL w0 l → Sh l) (h : Frm w0 Mi w) (hr : Rely L (fun l => Mi l ∨ Sh l) w w1) : Frm w0 Mi w1 :=
  ⟨h.1, h.2.trans (hr.1.mono fun l hl => .inr (hS l hl))⟩
theorem Frm.did {w0 : World} {Mi Mi' Sh : Loc → Prop} {w w' : World} {es : Array Event} (h : Frm w0 Mi w) (hd : Did Mi Sh w w' es Mi') : Frm w0 Mi' w' := by
  refine ⟨fun l b hl hb => ?_, h.2.trans (hd.env.mono fun l hl hm => h.not hm hl)⟩
  rcases (hd.mine l).1 hl with hl | ⟨b', h1, h2, _⟩
  · exact h.1 l b hl hb
  · rw [hb] at h1; cases h1
    exact Nat.le_trans h.2.size h2
theorem EvIn.wide {Mi Sh Sh' : Loc → Prop} (hs : ∀ l, Sh l → Sh' l) {e : Event} (h : EvIn Mi Sh e) : EvIn Mi Sh' e := h.imp id fun ⟨h1, h2⟩ => ⟨h1, h2.imp id fun ⟨a, b⟩ => ⟨a, hs _ b⟩⟩
theorem Did.wide {Mi Sh Sh' Mi' : Loc → Prop} (hs : ∀ l, Sh l → Sh' l) {w w' : World} {es : Array Event} (h : Did Mi Sh w w' es Mi') : Did Mi Sh' w w' es Mi' := ⟨h.env, h.mine, fun e he => (h.evs e he).wide hs⟩
theorem GoesX.wide {P : Program} {main : Bool} {Sh Sh' : Loc → Prop} {L : World → Prop} {Q : (Loc → Prop) → Goroutine → World → Prop} (hs : ∀ l, Sh l → Sh' l) {n : Nat} {Mi : Loc → Prop} {g : Goroutine} {w : World} (h : GoesX P main Sh L Q n Mi g w) : GoesX P main Sh' L Q n Mi g w := by
  have hr : ∀ {Mi : Loc → Prop} {w w1 : World}, Rely L (fun l => Mi l ∨ Sh' l) w w1 → Rely L (fun l => Mi l ∨ Sh l) w w1 := fun h => h.mono fun l hl => hl.imp id (hs l)
  induction h with
  | here h => exact .here fun w1 he => h w1 (hr he)
  | go g' w' es Mi' hrun h k ih => exact .go g' w' es Mi' hrun (fun w1 he => ⟨(h w1 (hr he)).1, (h w1 (hr he)).2.wide hs⟩) fun w1 he => ih w1 (hr he)
def AtWg (tWg : TypeId) (c : Cfg) (bot : List Frame) (y0 : L) (Mi : Loc → Prop) (g : Goroutine) (w : World) : Prop :=
  ∃ f xW, XRel f Mi (fun _ => False) bot y0 g w ∧ f c.bW = some xW ∧ xW.off = 0 ∧ WgAt tWg xW.blk w 0 0
theorem toWg (hp : TabOk p) (hmix : p.prog.follows .mixedOrders = true) {tWg : TypeId} {m : Nat} {x x1 y0 : L} {f : Inj} {M : Loc → Prop} {g : Goroutine} {w : World} (h1 : Reaches p pl m x x1) (h2 : allocA p c tWg x1 = some y0) (hr : XRel f M (fun _ => False) bot x g w) :
    ∃ m, GoesX p.prog true (fun _ => False) (fun _ => True) (AtWg tWg c bot y0) m M g w := by
  obtain ⟨ops, i, o, rest, k, z, fr, a1, a2, a3, a4, a5, a6, a7, a8, a9, a10, rfl⟩ := allocA_some h2
  refine ⟨m + (0 + 1), ?_⟩
  refine GoesX.bind ?_ (reaches_sound (L0 := fun _ => True) hp hmix h1 hr)
  intro Mi1 g1 w1 hq
  obtain ⟨f1, hx1⟩ := hq w1 (.refl _ _ _)
  refine .step hx1.running fun w2 h2 => ?_
  have hs1 : SRel f1 Mi1 (fun _ => False) bot x1.s g1 w2 := by
    have := hx1.env h2.1
    rw [a1] at this
    exact this.flat
  obtain ⟨tmps, k', defers, cs, ha⟩ := hs1.opAt a2 a3 a4
  obtain ⟨g', k1, k2, k3, k4⟩ := alloc_step (main := true) (s' := x1.s) hp ha a6 a5 a8 a10 hs1.heap
  refine ⟨g', _, #[], _, k1, k3, .here fun w3 h3 => ⟨_, ⟨w2.heap.size, 0, 0, z.cells.size⟩, (k4.flat).env h3.1, ?_, rfl, ?_⟩⟩
  · rw [← a7]; exact Inj.put_same _ _ _
  · refine h3.1.wg (fun i => .inl (.inr ⟨_, rfl, Nat.le_refl _, Nat.lt_succ_self _⟩)) ?_
    show (w2.heap.push _)[w2.heap.size]? = _
    rw [Array.getElem?_push_size, a9]
    rfl
end
end Go.Cx
end
section
namespace Go.Cx
open Go.Conc Go.ConcN Go.Conc.Lib Go.ConcR.Gen Go.ConcN.Gen
open Go.ConcR (KK wgBlock WgAt stA smA rd wr mk Payload DC0)
structure AtEndOf (p : Tab) (pl : T (T (List Phase))) (bot : List Frame) (xl : L) (w0 : World) (Wg : Nat) (gs : Array Goroutine) (a : Goroutine) (w : World) (t : Trace) (q : Nat → Nat) (M : Loc → Prop) : Prop where
  first : gs[0]? = some a
  last : AtLast p pl Wg bot xl M a w
  leave : Leavers p.prog t gs q
  past : PastX (ShN Wg) t
  clear : Clear (ShN Wg) M (fun l => l = Loc.obj Wg ∨ OldL w0 l) w
  frame : Frm w0 M w
  grp : w0.heap.size ≤ Wg
section
variable {p : Tab} {pl : T (T (List Phase))} {Lk : WgLink} {c : Cfg} {bot : List Frame}
theorem whole_sound (H : WgLib p.prog Lk) (hp : TabOk p) (hmix : p.prog.follows .mixedOrders = true) (hadd : c.add = Lk.add) (hdone : c.done = Lk.done) (hwait : c.wait = Lk.wait) (hn0 : 0 < c.n) (hn : c.n < 2147483647)
    {x0 x1 y0 y xl : L} {m1 m2 : Nat} {vals : List (List Value)} {h2 : AHeap} (e1 : Reaches p pl m1 x0 x1) (e2 : allocA p c Lk.tWg x1 = some y0) (e3 : readyA c y0 (demoteA c y0.s.h) = true)
    (e4 : startsA p pl c c.n 0 ⟨{ y0.s with h := demoteA c y0.s.h }, none, []⟩ = some (vals, y)) (e5 : fillA c vals y.s.h = some h2) (hw : Reaches p pl m2 ⟨{ y.s with h := h2 }, none, []⟩ xl) {f : Inj} {M : Loc → Prop} {a : Goroutine} {w : World} {sl : Option (Nat × Nat)} {t : Trace} (ht : Lone t) (hM : ∀ l, ¬ M l) (hr : XRel f M (fun _ => False) bot x0 a w) :
    ∃ (Wg N : Nat) (gs : Array Goroutine) (a' : Goroutine) (w' : World) (sl' : Option (Nat × Nat)) (t' : Trace) (q : Nat → Nat) (M' : Loc → Prop), runNT p.prog N (crowd #[a] w sl) t = (.next (crowd gs w' sl'), t') ∧ AtEndOf p pl bot xl w Wg gs a' w' t' q M' := by
  unfold readyA at e3
  simp only [Bool.and_eq_true] at e3
  obtain ⟨⟨⟨⟨⟨⟨⟨⟨⟨⟨k1, k2⟩, k3⟩, k4⟩, k5⟩, k6⟩, k7⟩, k8⟩, k9⟩, k10⟩, k11⟩ := e3
  obtain ⟨mw, hG1⟩ := toWg (c := c) hp hmix e1 e2 hr
  have hG1' := (hG1.wide (Sh' := OldL w) (fun _ h => h.elim)).keep (I := fun Mi w1 => I0 Mi w1 ∧ Frm w Mi w1) (fun _ _ _ h hr => ⟨h.1.rely hr, h.2.rely (fun _ h => h) hr⟩) (fun _ _ _ _ _ h hd => ⟨h.1.did hd, h.2.did hd⟩) ⟨fun l hl => (hM l hl).elim, fun l b hl _ => (hM l hl).elim, .refl _ _⟩
  obtain ⟨N1, a1, w1, sl1, t1, M1, hrun1, ⟨⟨f1, xW, hx1, hbW, hxO, hwg⟩, hI1, hF1⟩, ht1⟩ := goesX_solo (fun _ _ h => h) mw a w sl t M ht (fun l hl => hl.elim (fun h => (hM l h).elim) fun ⟨b, h, _⟩ => ⟨b, h⟩) hG1'
  have hy0 : y0 = ⟨y0.s, none, []⟩ := by
    obtain ⟨_, _, _, _, _, _, _, _, _, _, _, _, _, _, _, _, _, rfl⟩ := allocA_some e2
    rfl
  have hs1 : SRel f1 M1 (fun _ => False) bot y0.s a1 w1 := by rw [hy0] at hx1; exact hx1.flat
  have point : ∀ {d b : Nat}, pointsTo y0.s.fr.tmps d b = true → ∃ x, f1 b = some x := by
    intro d b hpt
    unfold pointsTo at hpt
    split at hpt
    · next b' e =>
      obtain rfl := Nat.eq_of_beq_eq_true hpt
      obtain ⟨fr, cs, _, hfr, _⟩ := hs1.fr
      obtain ⟨tm, td, df, rd, rfl, _, htr, _⟩ := hfr.ex
      have := htr d
      rw [e] at this
      simp only [Option.getD_some] at this
      generalize tm.getD d undef = vv at this
      cases this with
      | ptr h => exact ⟨_, h⟩
    · cases hpt
  obtain ⟨xB, hbB⟩ := point k6
  obtain ⟨xR, hbR⟩ := point k7
  have hRB : c.bR ≠ c.bB := fun e => by simp [e, Nat.beq_refl] at k10
  have hRW : c.bR ≠ c.bW := fun e => by simp [e, Nat.beq_refl] at k11
  have hBW : c.bB ≠ c.bW := fun e => by simp [e, Nat.beq_refl] at k5
  have hr1 := hs1.heap
  have inM : ∀ b x, f1 b = some x → y0.s.h.owns b = true → ∀ l, locBlk l = some x.blk → M1 l := hr1.mine
  have hN : ∀ b x, f1 b = some x → w.heap.size ≤ x.blk := fun b x hx => hF1.1 _ _ ((hr1.home b x hx).elim id False.elim) rfl
  have hr2 : HRel f1 (fun l => M1 l ∨ False) M1 { y0.s.h with objs := blank (blank (blank y0.s.h.objs c.bW) c.bB) c.bR } w1 := ((hr1.blank (b := c.bW)).blank (b := c.bB)).blank (b := c.bR)
  have hk1' : blankAt { y0.s.h with objs := blank (blank (blank y0.s.h.objs c.bW) c.bB) c.bR } c.bB (Nat.mul 2 c.n) = true := k1
  have hk2' : blankAt { y0.s.h with objs := blank (blank (blank y0.s.h.objs c.bW) c.bB) c.bR } c.bW 2 = true := k2
  have hk3' : blankAt { y0.s.h with objs := blank (blank (blank y0.s.h.objs c.bW) c.bB) c.bR } c.bR c.nR = true := k8
  have hCW : xR.blk ≠ xW.blk := fun e => hRW (hr2.only hk2' hbW hbR e)
  have hCB : xR.blk ≠ xB.blk := fun e => hRB (hr2.only hk1' hbB hbR e)
  obtain ⟨nC, ety, hnC, hpay0⟩ : ∃ nC ety, c.n ≤ nC ∧ ∃ cs, w1.heap[xR.blk]? = some (.cells cs ety) ∧ cs.size = nC := by
    obtain ⟨cr, ur, er, _, hlr⟩ := blankAt_some hk3'
    obtain ⟨o, g1, g2⟩ := hr2.obj _ _ hbR
    rw [er] at g1
    cases g1
    obtain ⟨_, rc, ety, g3, _, g4, _⟩ := g2
    have := Nat.le_of_ble_eq_true k9
    exact ⟨rc.size, ety, by omega, rc, g3, rfl⟩
  letI : Payload := ⟨ety⟩
  have hpay : PayAt xR.blk nC w1 := hpay0
  have hBne : xB.blk ≠ xW.blk := fun e => hBW (hr2.only hk2' hbW hbB e)
  have remM : ∀ l, Rem xB c.n 0 l → M1 l := fun l hl => inM _ _ hbB k3 l hl.blk
  have hr3 : HRel f1 (fun l => Rem xB c.n 0 l ∨ (M1 l ∧ ¬ Rem xB c.n 0 l ∧ ¬ ShN xW.blk l ∧ ∀ i, l ≠ cellAt xR.blk i)) (Rem xB c.n 0) (demoteA c y0.s.h) w1 := by
    refine hr2.move2 hk1' hbB hk2' hbW hk3' hbR rfl rfl (fun l hl hform hB hW hR => .inr ⟨hl.elim id False.elim, fun h => ?_, fun h => ?_, hR⟩) (fun b x hx ho => ?_) (fun b x i hx hi => by simp [demoteA, inList] at hi)
    · obtain ⟨i, j, _, _, _, d⟩ := h
      exact hB _ d
    · obtain ⟨ad, e, hb⟩ := h
      obtain ⟨b, i, e' | e'⟩ := hform
      · rw [e] at e'
        cases e'
        exact hW i (by rw [e, ← hb])
      · rw [e] at e'; cases e'
    · have h1 := owns_lt ho
      have h2 := hr1.lt hx
      simp only [demoteA] at h1
      omega
  have hx3 : XRel f1 (Rem xB c.n 0) (fun l => M1 l ∧ ¬ Rem xB c.n 0 l ∧ ¬ ShN xW.blk l ∧ ∀ i, l ≠ cellAt xR.blk i) bot ⟨{ y0.s with h := demoteA c y0.s.h }, none, []⟩ a1 w1 := SRel.flat ⟨hs1.fr, hr3⟩
  have hJ : J Lk xW.blk xR.blk nC xB w c.n 0 (Rem xB c.n 0) w1 := ⟨⟨0, 0, hwg⟩, hpay, fun i h => hBne (by have := h.blk; simp only [locBlk, Option.some.injEq] at this; exact this.symm), fun l h => h, fun l b hl hb => hF1.1 l b (remM l hl) hb, hF1.2.size⟩
  have hscript := starts_sound (vals := vals) (nC := nC) (xW := xW) (hn := hn) (hCW := hCW) (hCB := hCB) (w0 := w) (hWN := hN _ _ hbW) (hCN := hN _ _ hbR) H hp hmix hadd hdone hwait hnC rfl hxO (endOk (bot := bot) H hp hmix rfl hxO hBW e5 hw) c.n 0 e4 (by omega) (fun j => by rw [Nat.zero_add]) hx3 hbW hbB hJ
    ⟨fun i h => h.2.2.1 ⟨_, rfl, rfl⟩, fun l b h hb => hF1.1 l b h.1 hb⟩
  have noSy : ∀ l, Rem xB c.n 0 l ∨ (M1 l ∧ ¬ Rem xB c.n 0 l ∧ ¬ ShN xW.blk l ∧ ∀ i, l ≠ cellAt xR.blk i) → ¬ ShN xW.blk l := by
    intro l hl
    rcases hl with hl | hl
    · rintro ⟨ad, e, hb⟩
      have := hl.blk
      rw [e] at this
      simp only [locBlk, Option.some.injEq] at this
      exact hBne (this.symm.trans hb)
    · exact hl.2.2.1
  have inM1 : ∀ l, Rem xB c.n 0 l ∨ (M1 l ∧ ¬ Rem xB c.n 0 l ∧ ¬ ShN xW.blk l ∧ ∀ i, l ≠ cellAt xR.blk i) → M1 l := fun l hl => hl.elim (remM l) (·.1)
  obtain ⟨N2, m2, t2, hrun2, gs, w2, sl2, a2, q2, Mq, Sq, rfl, hsz, ha2, ⟨m3, hG3⟩, hL2, hP2, hlt2, hfr2⟩ := crowd_from (X := Crw p Lk c.n xW.blk xR.blk nC xB.blk xB.off vals hn hCW hCB w (hN _ _ hbW) (hN _ _ hbR)) (sl := sl1) hn0 (fun op ho => (ht1 op ho).1) (fun op ho => ⟨(ht1 op ho).2.1, (ht1 op ho).2.2.1, (ht1 op ho).2.2.2 _⟩)
    hwg hpay (fun l hl => ⟨noSy l hl, hI1 l (inM1 l hl)⟩) (fun l hl i e => by
      rcases hl with hl | hl
      · have := hl.blk
        subst e
        simp only [locBlk, Option.some.injEq] at this
        exact hCB this
      · exact hl.2.2.2 i e) hF1.2 (fun l hl => hF1.not (remM l hl)) hscript
  have hclear : Clear (ShN xW.blk) (AllBut w xW.blk) (fun l => l = Loc.obj xW.blk ∨ OldL w l) w2 := by
    refine ⟨fun l hl => ?_, fun l ⟨ad, e, hb⟩ => ⟨xW.blk, by rw [e]; simp [locBlk, hb], hlt2⟩⟩
    rcases hl with ⟨b, h1, h2, _⟩ | h | ⟨b, h1, h2⟩
    · refine ⟨fun ⟨ad, e, hb⟩ => ?_, b, h1⟩
      rw [e] at h1
      simp only [locBlk, Option.some.injEq] at h1
      exact h2 (h1.symm.trans hb)
    · rw [h]
      exact ⟨fun ⟨ad, e, _⟩ => (by cases e), xW.blk, rfl⟩
    · refine ⟨fun ⟨ad, e, hb⟩ => ?_, b, h1⟩
      rw [e] at h1
      simp only [locBlk, Option.some.injEq] at h1
      have := hN _ _ hbW
      omega
  have hG3' := (hG3.wide (Sh' := fun l => l = Loc.obj xW.blk ∨ OldL w l) (fun _ h => .inl h)).keep (I := fun Mi w1 => Frm w Mi w1) (fun _ _ _ h hr => h.rely (fun _ h => .inr h) hr) (fun _ _ _ _ _ h hd => h.did hd) ⟨fun l b ⟨b', h1, _, h3⟩ hb => by rw [hb] at h1; cases h1; exact h3, hfr2⟩
  obtain ⟨N3, gs', a3, w3, sl3, t3, q3, M3, hrun3, hs3, ha3, ⟨hQ3, hF3⟩, hL3, hP3, hC3⟩ := goesX_beside (P := p.prog) (Shun := ShN xW.blk) (L := WgLive Lk.tWg xW.blk) (fun _ _ h => h) (fun _ _ _ ⟨⟨_, hx⟩, _⟩ => hx.running) _ m3 gs a2 w2 sl2 t2 q2 (AllBut w xW.blk) (Nat.le_refl _) ha2 hL2 hP2 hclear hG3'
  refine ⟨xW.blk, N1 + (N2 + N3), gs', a3, w3, sl3, t3, q3, M3, ?_, ⟨ha3, hQ3, hL3, hP3, hC3, hF3, hN _ _ hbW⟩⟩
  rw [runNT_add, hrun1]
  simp only []
  rw [runNT_add]
  have hrun2' : runNT p.prog N2 (crowd #[a1] w1 sl1) t1 = (.next (crowd gs w2 sl2), t2) := hrun2
  rw [hrun2']
  exact hrun3
end
end Go.Cx
end
section
namespace Go.Cx
open Go.Conc Go.ConcN Go.Conc.Lib Go.ConcR.Gen Go.ConcN.Gen
open Go.ConcR (KK wgBlock WgAt stA smA rd wr mk Payload DC0)
theorem runN_of_NT {P : Program} : ∀ {N : Nat} {m m' : Machine} {t t' : Trace}, runNT P N m t = (.next m', t') → runN P N m = .next m'
  | 0, m, m', t, t', h => by simp only [runNT] at h; cases h; rfl
  | N + 1, m, m', t, t', h => by
    simp only [runNT] at h
    cases e : stepT P m with
    | mk r ops =>
      rw [e] at h
      cases r with
      | next m1 => simp only [] at h; rw [runN_succ_next e]; exact runN_of_NT h
      | _ => simp at h
section
variable {P : Program} {Shun S : Loc → Prop} {L : World → Prop} {Post : Value → World → Prop} {Q : (Loc → Prop) → Goroutine → World → Prop}
theorem GoesX.stable {main : Bool} {n : Nat} {M : Loc → Prop} {g : Goroutine} {w : World} (h : GoesX P main S L Q n M g w) : GoesX P main S L (fun M g w => ∀ w1, Rely L (fun l => M l ∨ S l) w w1 → Q M g w1) n M g w :=
  GoesX.bind (m := 0) (fun M g w h => .here fun w1 h1 w2 h2 => h w2 (h1.trans h2)) h
theorem goesX_of_still {main : Bool} {K : Loc → Prop} {Stop : Goroutine → World → Prop} (hS : ∀ l, K l → S l) : ∀ (n : Nat) {M : Loc → Prop} {g : Goroutine} {w : World}, Goes P main (fun w w1 => Env K w w1) DC0 Stop n g w → (∀ g w, Stop g w → g.status = .running) → GoesX P main S L (fun _ g w => Stop g w) n M g w
  | 0, M, g, w, h, hr => .here fun w1 h1 => h w1 (h1.1.mono fun l hl => .inr (hS l hl))
  | n + 1, M, g, w, h, hr => by
    rcases h with h | ⟨hs, h⟩
    · exact .here fun w1 h1 => h w1 (h1.1.mono fun l hl => .inr (hS l hl))
    · refine .step hs fun w1 h1 => ?_
      have := h w1 (h1.1.mono fun l hl => .inr (hS l hl))
      cases e : stepG P main g w1 with
      | go g' w' es =>
        rw [e, goes_go] at this
        obtain ⟨⟨rfl, rfl⟩, hG⟩ := this
        exact ⟨g', _, _, M, rfl, .quiet, goesX_of_still hS n hG hr⟩
      | _ => rw [e] at this; exact this.elim
def AtEndX (P : Program) (Post : Value → World → Prop) (M S : Loc → Prop) (g : Goroutine) (w : World) : Prop :=
  g.status = .running ∧ ∃ v es, stepG P true g w = .ended (.done v) w es ∧ (∀ e ∈ es, EvIn M S e) ∧ Post v w
def EInv (P : Program) (Shun S : Loc → Prop) (L : World → Prop) (Post : Value → World → Prop) (μ : Nat) (m : Machine) (t : Trace) : Prop :=
  ∃ (gs : Array Goroutine) (a : Goroutine) (w : World) (sl : Option (Nat × Nat)) (q : Nat → Nat) (M : Loc → Prop),
    m = crowd gs w sl ∧ gs[0]? = some a ∧ Leavers P t gs q ∧ PastX Shun t ∧ Clear Shun M S w ∧ (∀ w1, Rely L (fun l => M l ∨ S l) w w1 → AtEndX P Post M S a w1) ∧ μ = sumTo gs.size q
theorem ends_step (hL : ∀ w d, L w → L (w.at d)) (μ : Nat) (m : Machine) (t : Trace) (h : EInv P Shun S L Post μ m t) :
    (∃ o w ops, stepT P m = (.ended o w, ops) ∧ Go.Conc.Good P Post m o w (t ++ ops)) ∨ (∃ m' ops μ', stepT P m = (.next m', ops) ∧ μ' < μ ∧ EInv P Shun S L Post μ' m' (t ++ ops)) := by
  obtain ⟨gs, a, w, sl, q, M, rfl, h0, hLv, hP, hC, hE, rfl⟩ := h
  have hat : ∀ (d : Nat), Rely L (fun l => M l ∨ S l) w (w.at d) := fun d => ⟨env_at _ w d, hL w d⟩
  have hrun : a.status = .running := (hE w (.refl _ _ w)).1
  have haw : ∀ g ∈ gs, awake g := by
    intro g hg
    obtain ⟨i, hi, rfl⟩ := Array.mem_iff_getElem.1 hg
    rcases Nat.eq_zero_or_pos i with rfl | hpos
    · have : gs[0] = a := by simpa [Array.getElem?_eq_getElem hi] using h0
      rw [this]; exact awake_of (.inl hrun)
    · exact awake_of ((hLv.old i _ hpos (Array.getElem?_eq_getElem hi)).status.elim .inl fun x => .inr (.inr x))
  obtain ⟨i, g, d, sl', hi, hg, hst⟩ := crowd_pick (P := P) (w := w) (sl := sl) haw ⟨0, a, h0, hrun⟩
  rcases Nat.eq_zero_or_pos i with rfl | hpos
  · obtain rfl : g = a := by rw [h0] at hi; exact (Option.some.inj hi).symm
    obtain ⟨_, v, es, hend, hes, hpost⟩ := hE (w.at d) (hat d)
    have hrunT := runT_many_ended (P := P) (sl := sl') (i := 0) hi (show stepG P (0 == 0) g (w.at d) = _ from hend)
    have hC0 : Clear Shun M S (w.at d) := ⟨hC.out, hC.old⟩
    have hP' := hP.own hC0 (Did.still (w := w.at d) hes) g.frame.fn g.frame.place
    refine .inl ⟨_, _, _, hst.trans hrunT, v, rfl, hpost, hP'.clean, hP'.over, ⟨fun x hx => ?_, rfl⟩, fun j x hx hj => ?_⟩
    · obtain ⟨j, hj⟩ := List.mem_iff_getElem?.1 hx
      rw [List.getElem?_drop] at hj
      exact ⟨_, (hLv.old (1 + j) x (by omega) (by simpa [crowd] using hj)).leaves⟩
    · have hq := hLv.old j x (by omega) hx
      refine ⟨q j, ?_⟩
      have e : (t ++ MemOp.ofEvents 0 g.frame.fn g.frame.place es).deaf j (t ++ MemOp.ofEvents 0 g.frame.fn g.frame.place es).size = Deaf t j :=
        Deaf_other t (g := j) (g' := 0) (by omega) _ (fun op hop => by obtain ⟨e, _, rfl⟩ := Go.Conc.mem_ofEvents hop; rfl)
      rw [e]
      exact hq.hears _
  · have hq := hLv.old i g hpos hi
    have hi0 : (i == 0) = false := by simp; omega
    have hlt : i < gs.size := (Array.getElem?_eq_some_iff.1 hi).1
    cases hqi : q i with
    | zero => rw [hqi] at hq; rw [hq.1] at hg; cases hg
    | succ k =>
      rw [hqi] at hq
      rcases hq with ⟨hf, _⟩ | ⟨_, g', es, hm, hstp, hq'⟩
      · rw [hf] at hg; cases hg
      have hrunT := runT_crowd_go (P := P) (sl := sl') (i := i) hi (by rw [hi0]; exact hstp (w.at d))
      have hsz : ((gs.map (Go.Conc.woken P g g' (w.at d))).setIfInBounds i g').size = gs.size := by simp
      have hsum : sumTo gs.size (upd q i k) + (k + 1) = sumTo gs.size q + k := by
        have := sumTo_upd q k id hlt
        simpa [hqi] using this
      refine .inr ⟨_, _, sumTo gs.size (upd q i k), hst.trans hrunT, by omega, _, a, w.at d, sl', upd q i k, M, rfl, ?_, ⟨fun j x hj hx => ?_, fun j hj => by
        rw [Deaf_other t (g' := i) (by simp at hj; omega) _ (fun op hop => by obtain ⟨e, _, rfl⟩ := Go.Conc.mem_ofEvents hop; rfl)]
        exact hLv.above j (by simpa using hj)⟩, hP.mute (by omega) hm, ⟨hC.out, hC.old⟩, fun w1 h1 => hE w1 ((hat d).trans h1), by rw [hsz]⟩
      · have hne : i ≠ 0 := by omega
        rw [Array.getElem?_setIfInBounds_ne hne, Array.getElem?_map, h0]
        simp [woken_run hrun]
      · by_cases hji : i = j
        · subst hji
          rw [Array.getElem?_setIfInBounds_self_of_lt (by simpa using hlt)] at hx
          obtain rfl := Option.some.inj hx
          rw [upd_same, Deaf_own]
          exact hq'
        · rw [Array.getElem?_setIfInBounds_ne hji, Array.getElem?_map] at hx
          obtain ⟨y, hy, rfl⟩ := Option.map_eq_some_iff.1 hx
          have hqj := hLv.old j y hj hy
          rw [woken_quitsD hqj, upd_ne q k (Ne.symm hji), Deaf_other t hji _ (fun op hop => by obtain ⟨e, _, rfl⟩ := Go.Conc.mem_ofEvents hop; rfl)]
          exact hqj
theorem ends_beside (hL : ∀ w d, L w → L (w.at d)) {gs : Array Goroutine} {a : Goroutine} {w : World} {sl : Option (Nat × Nat)} {t : Trace} {q : Nat → Nat} {M : Loc → Prop} (h0 : gs[0]? = some a) (hLv : Leavers P t gs q) (hP : PastX Shun t) (hC : Clear Shun M S w)
    (hE : ∀ w1, Rely L (fun l => M l ∨ S l) w w1 → AtEndX P Post M S a w1) :
    ∃ N last o w' t', runNT P (N + 1) (crowd gs w sl) t = (.ended o w', t') ∧ runN P N (crowd gs w sl) = .next last ∧ Go.step P last = .ended o w' ∧ Go.Conc.Good P Post last o w' t' :=
  run_of_inv Nat.lt_wfRel.wf (EInv P Shun S L Post) (Go.Conc.Good P Post) (ends_step hL) _ _ _ ⟨gs, a, w, sl, q, M, rfl, h0, hLv, hP, hC, hE, rfl⟩
end
theorem run_then {P : Program} {N K : Nat} {m m' last : Machine} {t t' t'' : Trace} {o : Outcome} {w' : World} (h : runNT P N m t = (.next m', t')) (h1 : runNT P (K + 1) m' t' = (.ended o w', t'')) (h2 : runN P K m' = .next last) :
    runNT P (N + K + 1) m t = (.ended o w', t'') ∧ runN P (N + K) m = .next last := by
  constructor
  · rw [Nat.add_assoc, runNT_add, h]; exact h1
  · rw [runN_add, runN_of_NT h]; exact h2
section
variable {p : Tab} {pl : T (T (List Phase))} {b : Frame} {bot : List Frame}
def AtRet (P : Program) (Post : Value → World → Prop) (g : Goroutine) (w : World) : Prop := g.status = .running ∧ ∃ v, stepG P true g w = .ended (.done v) w #[] ∧ Post v w
theorem whole_ends (hp : TabOk p) {xl : L} {v : Value} {hA : AHeap} (hd : stepL p pl xl = .done v hA) (hdf : xl.s.fr.deferred = false) (hv : closed 1 v = true) {w0 : World} {Wg : Nat} {gs : Array Goroutine} {a : Goroutine} {w : World} {sl : Option (Nat × Nat)} {t : Trace} {q : Nat → Nat} {M : Loc → Prop}
    (hE : AtEndOf p pl (b :: bot) xl w0 Wg gs a w t q M) {Post : Value → World → Prop} {n : Nat}
    (hfin : ∀ w', Env (OldL w0) w0 w' → Goes p.prog true (fun w w1 => Env (OldL w0) w w1) DC0 (AtRet p.prog Post) n (G (b.finish v) bot) w') :
    ∃ N last o w' t', runNT p.prog (N + 1) (crowd gs w sl) t = (.ended o w', t') ∧ runN p.prog N (crowd gs w sl) = .next last ∧ Go.step p.prog last = .ended o w' ∧ Go.Conc.Good p.prog Post last o w' t' := by
  obtain ⟨hx, hs⟩ := stepL_done hd
  obtain ⟨f, hlast⟩ := hE.last
  rw [hx] at hlast
  have hG : GoesX p.prog true (fun l => l = Loc.obj Wg ∨ OldL w0 l) (fun _ => True) (fun _ g w => AtRet p.prog Post g w) (n + 1) M a w := by
    refine .step hlast.running fun w1 h1 => ?_
    have hr : SRel f M (fun l => l = Loc.obj Wg) (b :: bot) xl.s a w1 := (hlast.flat).env (h1.1.mono fun l hl => hl.imp id .inl)
    obtain ⟨v', w', es, M', f', k1, k2, k3, k4, k5, k6⟩ := done_sound (main := true) hp hs hdf hr
    obtain rfl := k3.eq_of_closed hv
    have hfr := (hE.frame.rely (fun _ h => .inr h) h1).did k4
    exact ⟨_, _, _, _, k1, k4.wide (fun _ h => .inl h), goesX_of_still (fun _ h => .inr h) n (hfin w' hfr.2) fun _ _ h => h.1⟩
  obtain ⟨N, gs', a', w', sl', t', q', M', hrun, hsz, ha, hQ, hLv, hP, hC⟩ := goesX_beside (P := p.prog) (Shun := ShN Wg) (L := fun _ => True) (fun _ _ h => h) (fun M g w h => (h w (.refl _ _ w)).1) _ (n + 1) gs a w sl t q M (Nat.le_refl _) hE.first hE.leave hE.past hE.clear hG.stable
  obtain ⟨K, last, o, w2, t2, h1, h2, h3, h4⟩ := ends_beside (sl := sl') (Post := Post) (fun _ _ h => h) ha hLv hP hC (fun w1 hr => let ⟨e1, v, e2, e3⟩ := hQ w1 hr; ⟨e1, v, #[], e2, fun e he => by simp at he, e3⟩)
  obtain ⟨r1, r2⟩ := run_then hrun h1 h2
  exact ⟨N + K, last, o, w2, t2, r1, r2, h3, h4⟩
end
end Go.Cx
namespace Go.Cx
open Go.Conc Go.ConcN Go.Conc.Lib Go.ConcR.Gen Go.ConcN.Gen
open Go.ConcR (KK wgBlock WgAt stA smA rd wr mk Payload DC0)
section
variable {p : Tab} {pl : T (T (List Phase))} {Lk : WgLink} {c : Cfg} {b : Frame} {bot : List Frame}
theorem whole_run (H : WgLib p.prog Lk) (hp : TabOk p) (hmix : p.prog.follows .mixedOrders = true) (hadd : c.add = Lk.add) (hdone : c.done = Lk.done) (hwait : c.wait = Lk.wait) (hn0 : 0 < c.n) (hn : c.n < 2147483647)
    {x0 x1 y0 y xl : L} {m1 m2 : Nat} {vals : List (List Value)} {h2 hA : AHeap} {v : Value} (e1 : Reaches p pl m1 x0 x1) (e2 : allocA p c Lk.tWg x1 = some y0) (e3 : readyA c y0 (demoteA c y0.s.h) = true)
    (e4 : startsA p pl c c.n 0 ⟨{ y0.s with h := demoteA c y0.s.h }, none, []⟩ = some (vals, y)) (e5 : fillA c vals y.s.h = some h2) (hw : Reaches p pl m2 ⟨{ y.s with h := h2 }, none, []⟩ xl)
    (hd : stepL p pl xl = .done v hA) (hdf : xl.s.fr.deferred = false) (hv : closed 1 v = true)
    {f : Inj} {M : Loc → Prop} {a : Goroutine} {w : World} {sl : Option (Nat × Nat)} {t : Trace} (ht : Lone t) (hM : ∀ l, ¬ M l) (hr : XRel f M (fun _ => False) (b :: bot) x0 a w)
    {Post : Value → World → Prop} {n : Nat} (hfin : ∀ w', Env (OldL w) w w' → Goes p.prog true (fun w0 w1 => Env (OldL w) w0 w1) DC0 (AtRet p.prog Post) n (G (b.finish v) bot) w') :
    ∃ N last o w' t', runNT p.prog (N + 1) (crowd #[a] w sl) t = (.ended o w', t') ∧ runN p.prog N (crowd #[a] w sl) = .next last ∧ Go.step p.prog last = .ended o w' ∧ Go.Conc.Good p.prog Post last o w' t' := by
  obtain ⟨Wg, N, gs, a', w', sl', t', q, M', hrun, hE⟩ := whole_sound (sl := sl) (t := t) H hp hmix hadd hdone hwait hn0 hn e1 e2 e3 e4 e5 hw ht hM hr
  obtain ⟨K, last, o, w2, t2, h1, h2, h3, h4⟩ := whole_ends (sl := sl') hp hd hdf hv hE hfin
  obtain ⟨r1, r2⟩ := run_then hrun h1 h2
  exact ⟨N + K, last, o, w2, t2, r1, r2, h3, h4⟩
end
end Go.Cx
end
section
namespace Go.Cx
def okMark : Mark → Prop
  | .disable | .enable | .release _ => False
  | _ => True
def okEv (e : Event) : Prop := match e.loc with | .mark m => okMark m | _ => True
def OkEvs (es : Array Event) : Prop := ∀ e ∈ es, okEv e
theorem OkEvs.push {es : Array Event} (h : OkEvs es) {e : Event} (he : okEv e) : OkEvs (es.push e) := fun x hx => (Array.mem_push.1 hx).elim (h x) fun e1 => e1 ▸ he
theorem OkEvs.append {es es' : Array Event} (h : OkEvs es) (h' : OkEvs es') : OkEvs (es ++ es') := fun x hx => (Array.mem_append.1 hx).elim (h x) (h' x)
theorem seen_ok {p : Program} {fn : FuncId} {es : Array Event} (h : OkEvs es) : OkEvs (seen p fn es) := fun e he => h e (Go.Conc.mem_seen he)
end Go.Cx
end
section
namespace Go.Cx
def bad : Obj → Prop
  | .loop _ | .pending _ _ => True
  | _ => False
def okHalt : Halt → Prop
  | .panic _ | .stuck _ => True
  | .unsupported u => ∀ g, u ≠ .initOrder g
  | _ => False
def dead {α : Type} : Sem α → Prop
  | .halt h => okHalt h
  | _ => False
def calm (p : Program) {α : Type} (Q : α → Prop) : Sem α → Prop
  | .pure a => Q a
  | .load _ _ k => ∀ v, calm p Q (k v)
  | .store _ _ _ k => calm p Q k
  | .new o k => ¬ bad o ∧ ∀ r, calm p Q (k r)
  | .shape _ k => ∀ s, calm p Q (k s)
  | .freeze _ _ k => calm p Q k
  | .frozen _ k => ∀ b, calm p Q (k b)
  | .getObj _ k => (∀ o, ¬ bad o → calm p Q (k o)) ∧ (dead (k (.coro none)) ∨ ∀ o, bad o → k o = k (.coro none))
  | .setObj _ _ _ => False
  | .choose _ k => ∀ n, calm p Q (k n)
  | .sys _ _ => False
  | .program k => calm p Q (k p)
  | .mark m k => okMark m ∧ calm p Q k
  | .halt h => okHalt h
section
variable {p : Program}
theorem calm_bind' {α β : Type} {Q : α → Prop} {R : β → Prop} {f : α → Sem β} (hf : ∀ a, Q a → calm p R (f a)) : ∀ (s : Sem α), calm p Q s → calm p R (s.bind f)
  | .pure a, h => hf a h
  | .load m a k, h => fun v => calm_bind' hf (k v) (h v)
  | .store m a v k, h => calm_bind' hf k h
  | .new o k, h => ⟨h.1, fun r => calm_bind' hf (k r) (h.2 r)⟩
  | .shape r k, h => fun s => calm_bind' hf (k s) (h s)
  | .freeze a n k, h => calm_bind' hf k h
  | .frozen a k, h => fun b => calm_bind' hf (k b) (h b)
  | .getObj r k, h => ⟨fun o ho => calm_bind' hf (k o) (h.1 o ho), h.2.imp (fun hd => by
      unfold dead at hd
      split at hd
      · next e => show dead ((k (.coro none)).bind f); rw [e]; exact hd
      · exact hd.elim) fun he o ho => by show (k o).bind f = (k (.coro none)).bind f; rw [he o ho]⟩
  | .setObj r o k, h => h.elim
  | .choose q k, h => fun n => calm_bind' hf (k n) (h n)
  | .sys c k, h => h.elim
  | .program k, h => calm_bind' hf (k p) h
  | .mark m k, h => ⟨h.1, calm_bind' hf k h.2⟩
  | .halt x, h => h
theorem calm_bind {α β : Type} {Q : α → Prop} {R : β → Prop} {s : Sem α} {f : α → Sem β} (hs : calm p Q s) (hf : ∀ a, Q a → calm p R (f a)) : calm p R (s >>= f) := calm_bind' hf s hs
theorem calm_bind1 {α β : Type} {R : β → Prop} {s : Sem α} {f : α → Sem β} (hs : calm p (fun _ => True) s) (hf : ∀ a, calm p R (f a)) : calm p R (s >>= f) := calm_bind' (fun a _ => hf a) s hs
theorem calm_map {α β : Type} {R : β → Prop} {s : Sem α} {f : α → β} (hs : calm p (fun a => R (f a)) s) : calm p R (Functor.map f s) := by
  rw [map_eq_pure_bind]
  exact calm_bind hs fun a h => h
theorem calm_mono' {α : Type} {Q R : α → Prop} (h : ∀ a, Q a → R a) : ∀ (s : Sem α), calm p Q s → calm p R s
  | .pure a, hs => h a hs
  | .load m a k, hs => fun v => calm_mono' h (k v) (hs v)
  | .store m a v k, hs => calm_mono' h k hs
  | .new o k, hs => ⟨hs.1, fun r => calm_mono' h (k r) (hs.2 r)⟩
  | .shape r k, hs => fun s => calm_mono' h (k s) (hs s)
  | .freeze a n k, hs => calm_mono' h k hs
  | .frozen a k, hs => fun b => calm_mono' h (k b) (hs b)
  | .getObj r k, hs => ⟨fun o ho => calm_mono' h (k o) (hs.1 o ho), hs.2⟩
  | .setObj r o k, hs => hs.elim
  | .choose q k, hs => fun n => calm_mono' h (k n) (hs n)
  | .sys c k, hs => hs.elim
  | .program k, hs => calm_mono' h (k p) hs
  | .mark m k, hs => ⟨hs.1, calm_mono' h k hs.2⟩
  | .halt x, hs => hs
theorem calm_mono {α : Type} {Q R : α → Prop} {s : Sem α} (hs : calm p Q s) (h : ∀ a, Q a → R a) : calm p R s := calm_mono' h s hs
structure Twin (B w v : World) : Prop where
  tape : w.tape = v.tape
  drawn : w.drawn = v.drawn
  os : w.os = v.os
  output : w.output = v.output
  size : w.heap.size = v.heap.size
  at_ : ∀ i : Nat, w.heap[i]? = v.heap[i]? ∨ (∃ o, bad o ∧ w.heap[i]? = some o ∧ v.heap[i]? = some (.coro none))
  ok : ∀ (i : Nat) (o : Obj), v.heap[i]? = some o → ¬ bad o
  keep : ∀ (i : Nat) (o : Obj), B.heap[i]? = some o → bad o → w.heap[i]? = some o
  only : ∀ (i : Nat) (o : Obj), w.heap[i]? = some o → bad o → B.heap[i]? = some o
section
variable {B w v : World}
theorem Twin.cells (h : Twin B w v) (i : Nat) {c : Array Value} {t : TypeId} {fz : Nat × Nat} : w.heap[i]? = some (.cells c t fz) ↔ v.heap[i]? = some (.cells c t fz) := by
  rcases h.at_ i with e | ⟨o, hb, e1, e2⟩
  · rw [e]
  · rw [e1, e2]
    constructor
    · intro h; cases h; exact hb.elim
    · intro h; cases h
theorem Twin.cell (h : Twin B w v) (a : Addr) : w.cell? a = v.cell? a := by
  unfold World.cell?
  rcases h.at_ a.block with e | ⟨o, hb, e1, e2⟩
  · rw [e]
  · rw [e1, e2]; cases o <;> first | rfl | exact hb.elim
theorem Twin.shape (h : Twin B w v) (r : Nat) : w.shape? r = v.shape? r := by
  unfold World.shape?
  rcases h.at_ r with e | ⟨o, hb, e1, e2⟩
  · rw [e]
  · rw [e1, e2]; cases o <;> first | rfl | exact hb.elim
theorem Twin.frozen (h : Twin B w v) (a : Addr) : w.frozen? a = v.frozen? a := by
  unfold World.frozen?
  rcases h.at_ a.block with e | ⟨o, hb, e1, e2⟩
  · rw [e]
  · rw [e1, e2]; cases o <;> first | rfl | exact hb.elim
theorem Twin.turn (h : Twin B w v) {i : Nat} {f : Obj → Obj} (hf : ∀ o, ¬ bad o → ¬ bad (f o)) (hb : ∀ o, bad o → f o = o) (hc : f (.coro none) = .coro none) :
    Twin B { w with heap := w.heap.modify i f } { v with heap := v.heap.modify i f } where
  tape := h.tape
  drawn := h.drawn
  os := h.os
  output := h.output
  size := by simp [h.size]
  at_ := by
    intro j
    simp only [Array.getElem?_modify]
    by_cases e : i = j
    · subst e
      simp only [if_true]
      rcases h.at_ i with e | ⟨o, hb', e1, e2⟩
      · left; rw [e]
      · right; exact ⟨o, hb', by rw [e1]; simp [hb o hb'], by rw [e2]; simp [hc]⟩
    · simp only [if_neg e]; exact h.at_ j
  ok := by
    intro j o
    simp only [Array.getElem?_modify]
    by_cases e : i = j
    · subst e
      simp only [if_true]
      cases hv : v.heap[i]? with
      | none => simp
      | some x => simp only [Option.map_some, Option.some.injEq]; rintro rfl; exact hf x (h.ok i x hv)
    · simp only [if_neg e]; exact h.ok j o
  keep := by
    intro j o ho hb'
    simp only [Array.getElem?_modify]
    by_cases e : i = j
    · subst e; simp only [if_true]; rw [h.keep i o ho hb']; simp [hb o hb']
    · simp only [if_neg e]; exact h.keep j o ho hb'
  only := by
    intro j o
    simp only [Array.getElem?_modify]
    by_cases e : i = j
    · subst e
      simp only [if_true]
      cases hw : w.heap[i]? with
      | none => simp
      | some x =>
        simp only [Option.map_some, Option.some.injEq]
        rintro rfl hb'
        have hx : bad x := Classical.byContradiction fun hx => hf x hx hb'
        rw [hb x hx]
        exact h.only i x hw hx
    · simp only [if_neg e]; exact h.only j o
theorem Twin.set (h : Twin B w v) (a : Addr) (x : Value) : Twin B (w.setCell a x) (v.setCell a x) :=
  h.turn (fun o ho => by cases o <;> first | exact ho | exact id) (fun o ho => by cases o <;> first | exact ho.elim | rfl) rfl
theorem Twin.freeze (h : Twin B w v) (a : Addr) (n : Nat) : Twin B (w.freeze a n) (v.freeze a n) := by
  unfold World.freeze
  split
  · exact h
  · exact h.turn (fun o ho => by cases o <;> first | exact ho | exact id) (fun o ho => by cases o <;> first | exact ho.elim | rfl) rfl
theorem Twin.draw (h : Twin B w v) : Twin B { w with drawn := w.drawn + 1 } { v with drawn := v.drawn + 1 } :=
  ⟨h.tape, congrArg (· + 1) h.drawn, h.os, h.output, h.size, h.at_, h.ok, h.keep, h.only⟩
theorem Twin.push (h : Twin B w v) {o : Obj} (ho : ¬ bad o) : Twin B { w with heap := w.heap.push o } { v with heap := v.heap.push o } where
  tape := h.tape
  drawn := h.drawn
  os := h.os
  output := h.output
  size := by simp [h.size]
  at_ := by
    intro j
    simp only [Array.getElem?_push, h.size]
    split
    · exact .inl rfl
    · exact h.at_ j
  ok := by
    intro j x
    simp only [Array.getElem?_push]
    split
    · rintro hx; cases hx; exact ho
    · exact h.ok j x
  keep := by
    intro j x hx hb
    have := h.keep j x hx hb
    simp only [Array.getElem?_push]
    rw [if_neg (fun e => by subst e; simp at this)]
    exact this
  only := by
    intro j x
    simp only [Array.getElem?_push]
    split
    · rintro hx hb; cases hx; exact absurd hb ho
    · exact h.only j x
theorem Twin.seen (h : Twin B w v) (p : Program) (a : Addr) (u : TypeId) (k : Addr) (at' : Bool) : w.seen p a u k at' = v.seen p a u k at' := by
  unfold World.seen
  rcases h.at_ a.block with e | ⟨o, hb, e1, e2⟩
  · rw [e]
  · rw [e1, e2]; cases o <;> first | rfl | exact hb.elim
theorem Twin.viewLoad (h : Twin B w v) (p : Program) (a : Addr) (u : TypeId) (k : Addr) (at' : Bool) : w.viewLoad p a u k at' = v.viewLoad p a u k at' := by
  unfold World.viewLoad; rw [h.seen]
theorem Twin.farLoad (h : Twin B w v) (p : Program) (a : Addr) (at' : Bool) {r : Value × List Addr} (e : v.farLoad p a at' = .ok r) : w.farLoad p a at' = .ok r := by
  unfold World.farLoad at e ⊢
  rcases h.at_ a.block with e1 | ⟨o, hb, e1, e2⟩
  · rw [e1]
    split at e
    · next b u hx => rw [h.viewLoad]; exact e
    · cases e
  · rw [e2] at e; cases e
theorem Twin.farLoad_bad (h : Twin B w v) (p : Program) (a : Addr) (at' : Bool) {x : Halt} (e : v.farLoad p a at' = .error x) : okHalt x := by
  unfold World.farLoad at e
  split at e
  · split at e
    · cases e
    · cases e; intro g; simp
  · cases e
    unfold World.noCell
    split
    · next hx => exact absurd trivial (h.ok _ _ hx)
    · intro g; simp
    · trivial
end
end
end Go.Cx
end
section
namespace Go.Cx
section
variable {p : Program} {B w v : World}
theorem seen_cells {p : Program} {w : World} {a : Addr} {u : TypeId} {k : Addr} {at' : Bool} {c : Array Value} {e : TypeId} {fz : Nat × Nat} {x : Nat} {y : Value} {z : List (Nat × Nat × List UInt8)}
    (h : w.seen p a u k at' = .ok (c, e, fz, x, y, z)) : w.heap[a.block]? = some (.cells c e fz) := by
  unfold World.seen at h
  simp only [bind, Except.bind, pure, Except.pure, throw, throwThe, MonadExceptOf.throw] at h
  repeat' (split at h)
  all_goals first | (cases h; done) | skip
  all_goals (try (simp only [Except.ok.injEq, Prod.mk.injEq] at h))
  all_goals (try (obtain ⟨rfl, rfl, rfl, _⟩ := h; assumption))
  all_goals (try simp_all)
theorem Twin.put (h : Twin B w v) {b : Nat} {c c' : Array Value} {e : TypeId} {fz : Nat × Nat} (hc : v.heap[b]? = some (.cells c e fz)) :
    Twin B { w with heap := w.heap.setIfInBounds b (.cells c' e fz) } { v with heap := v.heap.setIfInBounds b (.cells c' e fz) } where
  tape := h.tape
  drawn := h.drawn
  os := h.os
  output := h.output
  size := by simp [h.size]
  at_ := by
    intro j
    simp only [Array.getElem?_setIfInBounds]
    by_cases ej : b = j
    · simp only [ej, if_true, h.size]; exact .inl trivial
    · simp only [if_neg ej]; exact h.at_ j
  ok := by
    intro j x
    simp only [Array.getElem?_setIfInBounds]
    by_cases ej : b = j
    · simp only [ej, if_true]
      split
      · intro hx; cases hx; exact id
      · intro hx; cases hx
    · simp only [if_neg ej]; exact h.ok j x
  keep := by
    intro j x hx hb
    simp only [Array.getElem?_setIfInBounds]
    by_cases ej : b = j
    · subst ej
      have h1 := h.keep b x hx hb
      have h2 := (h.cells b).2 hc
      rw [h1] at h2; cases h2; exact hb.elim
    · simp only [if_neg ej]; exact h.keep j x hx hb
  only := by
    intro j x
    simp only [Array.getElem?_setIfInBounds]
    by_cases ej : b = j
    · simp only [ej, if_true]
      split
      · intro hx hb; cases hx; exact hb.elim
      · intro hx; cases hx
    · simp only [if_neg ej]; exact h.only j x
theorem Twin.viewStore (h : Twin B w v) (p : Program) (a : Addr) (u : TypeId) (k : Addr) (x : Value) (at' : Bool) {v1 : World} {l : List Addr} (e : v.viewStore p a u k x at' = .ok (v1, l)) :
    ∃ w1, w.viewStore p a u k x at' = .ok (w1, l) ∧ Twin B w1 v1 := by
  unfold World.viewStore at e ⊢
  rw [h.seen]
  cases hs : v.seen p a u k at' with
  | error m =>
    rw [hs] at e
    simp only [bind, Except.bind, pure, Except.pure, throw, throwThe, MonadExceptOf.throw] at e
    split at e <;> cases e
  | ok r =>
    obtain ⟨c, ty, fz, first, like, cells⟩ := r
    have hc := seen_cells hs
    rw [hs] at e
    simp only [bind, Except.bind, pure, Except.pure, throw, throwThe, MonadExceptOf.throw] at e ⊢
    split at e
    · cases e
    · next ht =>
      rw [if_neg ht]
      split at e
      · next bytes hb =>
        split at e
        · cases e
        · next hl =>
          simp only [if_neg hl]
          split at e
          · cases e
          · next c' hc' =>
            simp only [Except.ok.injEq, Prod.mk.injEq] at e
            obtain ⟨rfl, rfl⟩ := e
            first | exact ⟨_, rfl, h.put hc⟩ | (rw [hc']; exact ⟨_, rfl, h.put hc⟩) | (simp only [hc']; exact ⟨_, rfl, h.put hc⟩)
      · cases e
theorem Twin.farStore (h : Twin B w v) (p : Program) (a : Addr) (x : Value) (at' : Bool) {v1 : World} {l : List Addr} (e : v.farStore p a x at' = .ok (v1, l)) :
    ∃ w1, w.farStore p a x at' = .ok (w1, l) ∧ Twin B w1 v1 := by
  unfold World.farStore at e ⊢
  rcases h.at_ a.block with e1 | ⟨o, hb, e1, e2⟩
  · rw [e1]
    split at e
    · next b u hx =>
      split at e
      · next r hr =>
        cases e
        obtain ⟨w1, h1, h2⟩ := h.viewStore p b u a x at' hr
        exact ⟨w1, by rw [h1], h2⟩
      · cases e
    · cases e
  · rw [e2] at e; cases e
theorem Twin.farStore_bad (h : Twin B w v) (p : Program) (a : Addr) (y : Value) (at' : Bool) {x : Halt} (e : v.farStore p a y at' = .error x) : okHalt x := by
  unfold World.farStore at e
  split at e
  · split at e
    · cases e
    · cases e; intro g; simp
  · cases e
    unfold World.noCell
    split
    · next hx => exact absurd trivial (h.ok _ _ hx)
    · intro g; simp
    · trivial
def Par {α : Type} (B : World) (Q : α → Prop) (rv rw : Result α × Array Event) : Prop :=
  match rv.1 with
  | .ok a v1 => Q a ∧ OkEvs rv.2 ∧ ∃ w1, rw = (.ok a w1, rv.2) ∧ Twin B w1 v1
  | .halt h _ => okHalt h
theorem okEvs_map {es : Array Event} (h : OkEvs es) (l : List Addr) (x y : Bool) : OkEvs (es ++ l.toArray.map fun a => (⟨.cell a, x, y⟩ : Event)) :=
  h.append fun e he => by
    simp only [Array.mem_map, List.mem_toArray] at he
    obtain ⟨a, _, rfl⟩ := he
    exact trivial
theorem calm_run {α : Type} {Q : α → Prop} : ∀ (s : Sem α) (w v : World) (es : Array Event), calm p Q s → Twin B w v → OkEvs es → Par B Q (s.runT p v es) (s.runT p w es) := by
  intro s
  induction s with
  | pure a => intro w v es hs h he; exact ⟨hs, he, w, rfl, h⟩
  | load m a k ih =>
    intro w v es hs h he
    simp only [Sem.runT]
    rw [h.cell]
    cases hc : v.cell? a with
    | some x => exact ih x w v _ (hs x) h (he.push trivial)
    | none =>
      cases hf : v.farLoad p a (m == .atomic) with
      | error x => exact h.farLoad_bad p a _ hf
      | ok r =>
        rw [h.farLoad p a _ hf]
        exact ih r.1 w v _ (hs _) h (okEvs_map he _ _ _)
  | store m a x k ih =>
    intro w v es hs h he
    have key : ∀ (hx : Sem.runT p (.store m a x k) v es = (match v.cell? a with
        | some _ => if v.frozen? a then (.halt (.unsupported (.unsafePointer "a write to bytes that a string shares")) v, es) else k.runT p (v.setCell a x) (es.push ⟨.cell a, true, m == .atomic⟩)
        | none => match v.farStore p a x (m == .atomic) with
          | .ok (v, touched) => k.runT p v (es ++ touched.toArray.map (⟨.cell ·, true, m == .atomic⟩))
          | .error h => (.halt h v, es)))
        (hy : Sem.runT p (.store m a x k) w es = (match w.cell? a with
        | some _ => if w.frozen? a then (.halt (.unsupported (.unsafePointer "a write to bytes that a string shares")) w, es) else k.runT p (w.setCell a x) (es.push ⟨.cell a, true, m == .atomic⟩)
        | none => match w.farStore p a x (m == .atomic) with
          | .ok (w, touched) => k.runT p w (es ++ touched.toArray.map (⟨.cell ·, true, m == .atomic⟩))
          | .error h => (.halt h w, es))), Par B Q (Sem.runT p (.store m a x k) v es) (Sem.runT p (.store m a x k) w es) := by
      intro hx hy
      rw [hx, hy, h.cell, h.frozen]
      cases hc : v.cell? a with
      | some y =>
        simp only []
        split
        · intro g; simp
        · exact ih _ _ _ hs (h.set a x) (he.push trivial)
      | none =>
        simp only []
        cases hf : v.farStore p a x (m == .atomic) with
        | error y => exact h.farStore_bad p a x _ hf
        | ok r =>
          obtain ⟨v1, l⟩ := r
          obtain ⟨w1, e1, h1⟩ := h.farStore p a x _ hf
          rw [e1]
          exact ih _ _ _ hs h1 (okEvs_map he _ _ _)
    cases x with
    | agg xs => simp only [Sem.runT]; exact (trivial : okHalt (.stuck _))
    | tuple xs => simp only [Sem.runT]; exact (trivial : okHalt (.stuck _))
    | _ =>
      refine key ?_ ?_
      · conv => lhs; unfold Sem.runT
        first | rfl | (cases v.cell? a <;> first | rfl | (cases World.farStore p v a _ _ <;> rfl))
      · conv => lhs; unfold Sem.runT
        first | rfl | (cases w.cell? a <;> first | rfl | (cases World.farStore p w a _ _ <;> rfl))
  | new o k ih =>
    intro w v es hs h he
    simp only [Sem.runT, h.size]
    exact ih _ _ _ _ (hs.2 _) (h.push hs.1) he
  | shape r k ih => intro w v es hs h he; simp only [Sem.runT, h.shape]; exact ih _ _ _ _ (hs _) h he
  | freeze a n k ih => intro w v es hs h he; simp only [Sem.runT]; exact ih _ _ _ hs (h.freeze a n) he
  | frozen a k ih => intro w v es hs h he; simp only [Sem.runT, h.frozen]; exact ih _ _ _ _ (hs _) h he
  | getObj r k ih =>
    intro w v es hs h he
    simp only [Sem.runT]
    cases hv : v.heap[r]? with
    | none => simp only []; trivial
    | some o =>
      have ho := h.ok _ _ hv
      rcases h.at_ r with e | ⟨o', hb, e1, e2⟩
      · rw [e, hv]
        cases o <;> first
          | trivial
          | exact absurd trivial ho
          | exact ih _ w v _ (hs.1 _ ho) h (he.push trivial)
      · rw [hv] at e2; cases e2
        rw [e1]
        rcases hs.2 with hd | heq
        · unfold dead at hd
          split at hd
          · next e => simp only [e, Sem.runT]; exact hd
          · exact hd.elim
        · have := ih (.coro none) w v (es.push ⟨.obj r, false, Obj.isChan (.coro none)⟩) (hs.1 _ ho) h (he.push trivial)
          cases o' <;> first
            | exact hb.elim
            | (have hk := heq _ hb; simp only [hk]; exact this)
  | setObj r o k ih => intro w v es hs; exact hs.elim
  | choose q k ih =>
    intro w v es hs h he
    simp only [Sem.runT]
    rw [h.tape, h.drawn]
    split
    · exact ih _ _ _ _ (hs _) h he
    · exact ih _ _ _ _ (hs _) ⟨rfl, rfl, h.os, h.output, h.size, h.at_, h.ok, h.keep, h.only⟩ he
  | sys c k ih => intro w v es hs; exact hs.elim
  | program k ih => intro w v es hs h he; simp only [Sem.runT]; exact ih _ _ _ _ hs h he
  | mark m k ih => intro w v es hs h he; simp only [Sem.runT]; exact ih _ _ _ hs.2 h (he.push hs.1)
  | halt x => intro w v es hs h he; exact hs
end
end Go.Cx
end
