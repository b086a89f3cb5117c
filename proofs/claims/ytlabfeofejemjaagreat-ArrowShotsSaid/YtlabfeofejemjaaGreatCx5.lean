/- Ground of the proofs of statements about package arrow: it says nothing of a statement by itself, and has no condition. -/
import Derived.Test.YtlabfeofejemjaaGreatCx4
import Derived.Conc.WgGenN3
import Derived.Test.YtlabfeofejemjaaGreatCx2
import Derived.Calls
set_option linter.unusedSectionVars false
set_option linter.unusedSimpArgs false
set_option linter.unusedVariables false
set_option maxHeartbeats 8000000
set_option maxRecDepth 100000
section
namespace Go.Cx
open Go.Conc Go.ConcN
open Go.ConcR (KK wgBlock WgAt stA smA rd wr mk Payload DC0 Bk g_of_ofEvents bk_of_mute ofEvent_loc_mark ofEvent_mk)
section
variable [Payload] {X : Crew} {Next : (Loc → Prop) → (Loc → Prop) → Goroutine → World → Prop}
  {T0 j : Nat} {gs : Array Goroutine} {w w' : World} {sl : Option (Nat × Nat)} {D : Nat → WD} {tag tag' : XT} {f0 f' d0 : Nat} {a a' : Goroutine} {t : Trace} {M S : Nat → Loc → Prop} {st sm st' sm' : Int} {es : Array Event}
theorem Lowers.up {i : Nat} (h : Lowers X Next T0 gs w sl j D tag' f' t i) (hlt : psi X.n (Vc j D) tag' < psi X.n (Vc j D) tag) : Lowers X Next T0 gs w sl j D tag f0 t i := by
  obtain ⟨m, ops, μ, h1, h2, h3⟩ := h
  exact ⟨m, ops, μ, h1, lt2_trans h2 (Prod.Lex.left _ _ (by omega)), h3⟩
theorem WS.quits {k : Nat} {M S : Loc → Prop} {m d : Nat} {g : Goroutine} {s : Nat} (h : WS X k M S s m d g w) (hs : s = 1) : QuitsD X.P m d g := by
  cases h with
  | x h => cases hs
  | lib h _ => exact h.quits hs
theorem WS.res {k : Nat} {M S : Loc → Prop} {m d : Nat} {g : Goroutine} {s : Nat} (h : WS X k M S s m d g w) (hs : s = 1) : X.Res (k - 1) w := by
  cases h with
  | x h => cases hs
  | lib _ h => exact h
theorem joined (hcom : Com X T0 X.n gs w t D 0 M S) (hq : AllQuit X.n D) (hTz : ∀ g i a, g ≤ X.n → i < T0 → touchAt t i = some a → Knows t 0 i) (fn : FuncId) (pos : String) :
    PastX X.Sy (t ++ MemOp.ofEvents 0 fn pos #[mk (.acquire (stA X.Wg))]) := by
  have e1 : MemOp.ofEvents 0 fn pos #[mk (.acquire (stA X.Wg))] = #[{ g := 0, fn, pos, act := .mark (.acquire (stA X.Wg)) }] := by rw [ofEvents_eq]; simp [ofEvent_mk]
  rw [e1]
  generalize ht' : t ++ #[({ g := 0, fn, pos, act := .mark (.acquire (stA X.Wg)) } : MemOp)] = t'
  have hy : t'[t.size]? = some { g := 0, fn, pos, act := .mark (.acquire (stA X.Wg)) } := by rw [← ht']; simp
  have hact : t'.act? t.size = some (.mark (.acquire (stA X.Wg))) := by rw [act?_of hy]
  have hgq : t'.g? t.size = some 0 := by simp [Trace.g?, hy]
  have hh : t'.heard t.size := ⟨0, hgq, by rw [← ht', deaf_old (Nat.le_refl _)]; exact hcom.deaf0⟩
  have hrelB : ∀ i, i < X.n → ∃ r, RelBy (stA X.Wg) t' (i + 1) r ∧ r < t.size := by
    intro i hi
    obtain ⟨r, hr⟩ := hcom.rel i hi (by rw [hq i hi]; omega)
    refine ⟨r, ?_, lt_of_act? hr.act⟩
    rw [← ht']
    exact hr.appNot fun op hop => by simp at hop; subst hop; simp
  have hnorel : NoRelease (stA X.Wg) t' := by rw [← ht']; exact hcom.own.norel.app fun op hop => by simp at hop; subst hop; simp
  have hgs : ∀ i g, t'.g? i = some g → g ≤ X.n := by
    intro i g hg
    obtain ⟨op, ho, rfl⟩ := Option.map_eq_some_iff.1 hg
    rw [← ht'] at ho
    rcases getElem?_append_cases ho with ⟨_, ho'⟩ | ⟨_, hou⟩
    · exact hcom.own.ti.gs i op ho'
    · simp at hou; subst hou; exact Nat.zero_le _
  have all : ∀ i g, t'.g? i = some g → g ≠ 0 → ∃ r, RelBy (stA X.Wg) t' g r ∧ r < t.size := by
    intro i g hg hne
    have := hgs i g hg
    have := hrelB (g - 1) (by omega)
    rwa [show g - 1 + 1 = g by omega] at this
  have hover : t'.HandedOver := handedOver_all all hnorel hact hgq hh
  have hok : ∀ op ∈ #[({ g := 0, fn, pos, act := .mark (.acquire (stA X.Wg)) } : MemOp)], OpOk X.Sy (M 0) (S 0) 0 op := by
    intro op hop
    simp at hop
    subst hop
    exact ⟨rfl, fun x hx => by simp [MemAct.touch?] at hx⟩
  have hti : TI X.Sy T0 w.heap.size M S t' X.n := by
    rw [← ht']
    exact hcom.own.ti.app hcom.own.sep hcom.own.tsz (Nat.zero_le _) hok fun op hop x b hx => by simp at hop; subst hop; simp [MemAct.touch?] at hx
  refine ⟨hti.nr, fun i x hx hm => ?_, hover, ?_⟩
  · obtain ⟨op, ho, hox⟩ := touch_of hx
    by_cases h0 : op.g = 0
    · have := knows_own ho
      rw [h0] at this
      exact .inl this
    · rcases Nat.lt_or_ge i T0 with hi | hi
      · exact .inl (hti.pre 0 (Nat.zero_le _) i x hi hx)
      · by_cases hc : t'.counts i
        · have hgi : t'.g? i = some op.g := by simp [Trace.g?, ho]
          obtain ⟨q', hg', hb⟩ := hover i op.g hgi h0 hc
          obtain ⟨z, hz, hzg⟩ := Option.map_eq_some_iff.1 hg'
          exact .inl ⟨q', z, hz, hzg, .inr hb⟩
        · have hk : x.kind = .atomic := by
            by_cases hk : x.kind = .atomic
            · exact hk
            · exact absurd ⟨x, by simpa [touchAt] using hx, hm, .inl hk⟩ hc
          exact .inr ⟨hti.atm i op x ho hi hox hk, hk⟩
  · rw [← ht', Deaf_still t 0 _ fun op hop => by simp at hop; subst hop; exact ⟨by simp, by simp⟩]
    exact hcom.deaf0
abbrev Moves (X : Crew) (Next : (Loc → Prop) → (Loc → Prop) → Goroutine → World → Prop) (T0 : Nat) (gs : Array Goroutine) (w : World) (sl : Option (Nat × Nat)) (j : Nat) (D : Nat → WD) (tag : XT) (f0 : Nat) (t : Trace) : Prop :=
  Lowers X Next T0 gs w sl j D tag f0 t 0 ∨ ∃ m₁ ops, runT X.P (crowd gs w sl) 0 = (.next m₁, ops) ∧ DoneAt X Next m₁ (t ++ ops)
theorem modeW3 {tg : CTag} (hm : Go.ConcN.Mode j D tg st sm) (e : tg = .w3) : (sm = 0 ∧ Go.ConcN.Mode j D .blk st sm) ∨ (AllQuit j D ∧ st = 0 ∧ sm = 1) := by
  subst e
  cases hm with
  | opn h1 _ _ => exact h1.elim
  | reg h1 h2 h3 => exact .inl ⟨rfl, .reg trivial h2 h3⟩
  | last L h1 h2 h3 h4 => exact .inl ⟨rfl, .last L trivial h2 h3 h4⟩
  | sema h2 => exact .inr ⟨h2, rfl, rfl⟩
  | fin h1 _ => exact h1.elim
theorem stepCaller (ha : gs[0]? = some a) (hxs : XS X Next (M 0) (S 0) tag j f0 d0 a w) (hcom : Com X T0 j gs w t D d0 M S) (hwg : WgAt X.ty X.Wg w st sm) (hmode : Go.ConcN.Mode j D tag.tag st sm) (hrun : a.status = .running) :
    Moves X Next T0 gs w sl j D tag f0 t := by
  have hVj := Vc_le j D
  have hn := X.hn
  have hst := hxs.started
  have stepW1 : ∀ {Anch : Goroutine → World → Prop} {f : Nat}, Go.ConcN.Mode X.n D .w1 st sm → j = X.n → d0 = 1 → (∀ g w, Anch g w → g.status = .running) →
      (∀ g w, Anch g w → ∃ m, GX X.P X.ty X.Wg (fun l => M 0 l ∨ S 0 l) (YW1 X.P X.ty X.Wg (fun l => M 0 l ∨ S 0 l) X.Joined (Next (M 0) (S 0)) Anch) m g w) →
      GX X.P X.ty X.Wg (fun l => M 0 l ∨ S 0 l) (YW1 X.P X.ty X.Wg (fun l => M 0 l ∨ S 0 l) X.Joined (Next (M 0) (S 0)) Anch) f a w → Lowers X Next T0 gs w sl j D .w1 f t 0 := by
    intro Anch f hm1 hj hd0 hA hN h
    subst hj
    subst hd0
    rcases Goes.cases h with hstop | ⟨m', rfl, hstep⟩
    · obtain ⟨_, hall⟩ := hstop w (.refl _ _ w)
      obtain ⟨ho, rfl, rfl, _⟩ := hm1.open_inv trivial
      obtain ⟨a', hgo, h0, hne⟩ := hall (Vc X.n D) (by omega) (by simpa [pend] using hwg)
      by_cases hv : Vc X.n D = 0
      · obtain ⟨m₂, hk⟩ := h0 hv
        refine bookC ha hcom hwg hgo (.refl X.Wg w) hwg xbk_rd (tag' := .ke) (.ke hk) ?_ (.inl (by simp only [psi]; omega))
        have e : ((Vc X.n D + pend .w1 : Nat) : Int) * KK = 0 := by rw [hv]; simp [pend]
        rw [e]
        exact .fin trivial (allQuit_of ho hv)
      · obtain ⟨m₂, hk⟩ := hne hv
        exact bookC ha hcom hwg hgo (.refl X.Wg w) hwg xbk_rd (tag' := .w2 (Vc X.n D)) (.w2 hA hN hk) (hm1.reopen trivial trivial rfl (fun vs e => by cases e; omega)) (.inl (by simp only [psi]; omega))
    · obtain ⟨a', w', es, hgo, ⟨rfl, rfl⟩, hg'⟩ := hstep w (.refl _ _ w)
      exact idleC ha hcom hwg (tag := .w1) hm1 hgo (.w1 hA hN hg') (by omega)
  cases hxs with
  | s6 hr h =>
    rename_i r
    rcases h.cases with hstop | ⟨m', rfl, _, hstep⟩
    · obtain ⟨m, h5⟩ := hstop w (.refl _ _ w)
      refine .inl (Lowers.up (tag' := .sp r 5) (f' := m) ?_ (by simp only [psi]; omega))
      rcases Goes.cases h5 with hstop | ⟨m', rfl, hstep⟩
      · obtain ⟨_, a', hgo, m₂, hk⟩ := hstop w (.refl _ _ w)
        exact bookC ha hcom hwg hgo (.refl X.Wg w) hwg xbk_dis (tag' := .sp r 4) (.s4 hr hk) (hmode.reopen trivial trivial rfl (by simp [XT.tag])) (.inl (by simp only [psi]; omega))
      · obtain ⟨a', w', es, hgo, ⟨rfl, rfl⟩, hg'⟩ := hstep w (.refl _ _ w)
        exact idleC ha hcom hwg (tag := .sp r 5) (hmode.reopen trivial trivial rfl (by simp [XT.tag])) hgo (.s5 hr hg') (by omega)
    · obtain ⟨a', w', es, Mi', hgo, hd, hg'⟩ := hstep w (.refl _ _ w)
      exact .inl (idleX ha hcom hwg hmode hgo hd (.s6 hr hg') (by omega))
  | s5 hr h =>
    rename_i r
    rcases Goes.cases h with hstop | ⟨m', rfl, hstep⟩
    · obtain ⟨_, a', hgo, m₂, hk⟩ := hstop w (.refl _ _ w)
      exact .inl (bookC ha hcom hwg hgo (.refl X.Wg w) hwg xbk_dis (tag' := .sp r 4) (.s4 hr hk) (hmode.reopen trivial trivial rfl (by simp [XT.tag])) (.inl (by simp only [psi]; omega)))
    · obtain ⟨a', w', es, hgo, ⟨rfl, rfl⟩, hg'⟩ := hstep w (.refl _ _ w)
      exact .inl (idleC ha hcom hwg hmode hgo (.s5 hr hg') (by omega))
  | s4 hr h =>
    rename_i r
    rcases Goes.cases h with hstop | ⟨m', rfl, hstep⟩
    · obtain ⟨_, hall⟩ := hstop w (.refl _ _ w)
      obtain ⟨ho, rfl, rfl, _⟩ := hmode.open_inv trivial
      obtain ⟨a', hgo, hk⟩ := hall (Vc (X.n - (r + 1)) D) (by omega) (by simpa [pend, XT.tag] using hwg)
      have e : (((Vc (X.n - (r + 1)) D : Nat) : Int) + 1) * KK = ((Vc (X.n - (r + 1)) D + pend (.sp r 3) : Nat) : Int) * KK := by simp [pend]
      have hm3 : Go.ConcN.Mode (X.n - (r + 1)) D (.sp r 3) ((((Vc (X.n - (r + 1)) D : Nat) : Int) + 1) * KK) 0 := by rw [e]; exact .opn trivial ho (by simp)
      rcases hk with ⟨m₂, hk⟩ | ⟨m₂, hk⟩
      · exact .inl (bookC ha hcom hwg hgo (aside_setCell w (stA X.Wg) _) (hwg.setSt _) xbk_rw (tag' := .sp r 3) (.s3 hr hk) hm3 (.inl (by simp only [psi]; omega)))
      · exact .inl (bookC ha hcom hwg hgo (aside_setCell w (stA X.Wg) _) (hwg.setSt _) xbk_rw (tag' := .sp r 2) (.s2 hr hk) (hm3.reopen trivial trivial rfl (by simp [XT.tag])) (.inl (by simp only [psi]; omega)))
    · obtain ⟨a', w', es, hgo, ⟨rfl, rfl⟩, hg'⟩ := hstep w (.refl _ _ w)
      exact .inl (idleC ha hcom hwg hmode hgo (.s4 hr hg') (by omega))
  | s3 hr h =>
    rename_i r
    rcases Goes.cases h with hstop | ⟨m', rfl, hstep⟩
    · obtain ⟨_, a', ad, had, hgo, m₂, hk⟩ := hstop w (.refl _ _ w)
      exact .inl (saidC ha hcom hwg had (.inl rfl) hgo (tag' := .sp r 2) (.s2 hr hk) (hmode.reopen trivial trivial rfl (by simp [XT.tag])) (by simp only [psi]; omega))
    · obtain ⟨a', w', es, hgo, ⟨rfl, rfl⟩, hg'⟩ := hstep w (.refl _ _ w)
      exact .inl (idleC ha hcom hwg hmode hgo (.s3 hr hg') (by omega))
  | s2 hr h =>
    rename_i r
    rcases Goes.cases h with hstop | ⟨m', rfl, hstep⟩
    · obtain ⟨_, a', hgo, m₂, hk⟩ := hstop w (.refl _ _ w)
      exact .inl (bookC ha hcom hwg hgo (.refl X.Wg w) hwg xbk_en (tag' := .sp r 1) (.s1 hr hk) (hmode.reopen trivial trivial rfl (by simp [XT.tag])) (.inl (by simp only [psi]; omega)))
    · obtain ⟨a', w', es, hgo, ⟨rfl, rfl⟩, hg'⟩ := hstep w (.refl _ _ w)
      exact .inl (idleC ha hcom hwg hmode hgo (.s2 hr hg') (by omega))
  | s1 hr h =>
    rename_i r
    rcases h.cases with hstop | ⟨m', rfl, _, hstep⟩
    · exact .inl (goC ha hcom hwg hr rfl hmode (hstop w (.refl _ _ w)))
    · obtain ⟨a', w', es, Mi', hgo, hd, hg'⟩ := hstep w (.refl _ _ w)
      exact .inl (idleX ha hcom hwg hmode hgo hd (.s1 hr hg') (by omega))
  | fn h =>
    rcases h.cases with hstop | ⟨m', rfl, _, hstep⟩
    · obtain ⟨Anch, hA, hN, m, h5⟩ := hstop w (.refl _ _ w)
      refine .inl (Lowers.up (tag' := .kd) (f' := m) ?_ (by simp only [psi]; omega))
      rcases Goes.cases h5 with hstop | ⟨m', rfl, hstep⟩
      · obtain ⟨_, a', hgo, m₂, hk⟩ := hstop w (.refl _ _ w)
        exact bookC ha hcom hwg hgo (.refl X.Wg w) hwg xbk_dis (tag' := .anch) (.anch hA hN hk) (hmode.reopen trivial trivial rfl (by simp [XT.tag])) (.inl (by simp only [psi]; omega))
      · obtain ⟨a', w', es, hgo, ⟨rfl, rfl⟩, hg'⟩ := hstep w (.refl _ _ w)
        exact idleC ha hcom hwg (tag := .kd) (hmode.reopen trivial trivial rfl (by simp [XT.tag])) hgo (.kd hA hN hg') (by omega)
    · obtain ⟨a', w', es, Mi', hgo, hd, hg'⟩ := hstep w (.refl _ _ w)
      refine .inl (idleX ha hcom hwg hmode hgo hd (.fn ?_) (Nat.lt_succ_self _))
      exact hg'
  | kd hA hN h =>
    rcases Goes.cases h with hstop | ⟨m', rfl, hstep⟩
    · obtain ⟨_, a', hgo, m₂, hk⟩ := hstop w (.refl _ _ w)
      exact .inl (bookC ha hcom hwg hgo (.refl X.Wg w) hwg xbk_dis (tag' := .anch) (.anch hA hN hk) (hmode.reopen trivial trivial rfl (by simp [XT.tag])) (.inl (by simp only [psi]; omega)))
    · obtain ⟨a', w', es, hgo, ⟨rfl, rfl⟩, hg'⟩ := hstep w (.refl _ _ w)
      exact .inl (idleC ha hcom hwg hmode hgo (.kd hA hN hg') (by omega))
  | anch hA hN h =>
    rcases Goes.cases h with hstop | ⟨m', rfl, hstep⟩
    · obtain ⟨m₂, hk⟩ := hN a w (hstop w (.refl _ _ w))
      exact .inl (Lowers.up (stepW1 (hmode.reopen trivial trivial rfl (by simp)) rfl rfl hA hN hk) (by simp only [psi]; omega))
    · obtain ⟨a', w', es, hgo, ⟨rfl, rfl⟩, hg'⟩ := hstep w (.refl _ _ w)
      exact .inl (idleC ha hcom hwg hmode hgo (.anch hA hN hg') (by omega))
  | w1 hA hN h => exact .inl (stepW1 hmode rfl rfl hA hN h)
  | w2 hA hN h =>
    rename_i Anch vs
    rcases Goes.cases h with hstop | ⟨m', rfl, hstep⟩
    · obtain ⟨_, hall⟩ := hstop w (.refl _ _ w)
      obtain ⟨ho, rfl, rfl, hw2⟩ := hmode.open_inv trivial
      obtain ⟨hle, h1⟩ := hw2 vs rfl
      obtain ⟨hhit, hmiss⟩ := hall (Vc X.n D) (by omega) (by simpa [pend, XT.tag] using hwg)
      by_cases e : Vc X.n D = vs
      · obtain ⟨a', hgo, m₂, hk⟩ := hhit e
        exact .inl (bookC ha hcom hwg hgo (aside_setCell w (stA X.Wg) _) (hwg.setSt _) xbk_rw (tag' := .sw) (.sw hk) (.reg trivial ho (by omega)) (.inl (by simp only [psi]; omega)))
      · obtain ⟨a', hgo, m₂, hk⟩ := hmiss e
        exact .inl (bookC ha hcom hwg hgo (.refl X.Wg w) hwg xbk_rd (tag' := .anch) (.anch hA hN hk) (hmode.reopen trivial trivial rfl (by simp [XT.tag])) (.inl (by simp only [psi]; omega)))
    · obtain ⟨a', w', es, hgo, ⟨rfl, rfl⟩, hg'⟩ := hstep w (.refl _ _ w)
      exact .inl (idleC ha hcom hwg hmode hgo (.w2 hA hN hg') (by omega))
  | sw h =>
    rcases Goes.cases h with hstop | ⟨m', rfl, hstep⟩
    · obtain ⟨_, a', ad, had, hgo, m₂, hk⟩ := hstop w (.refl _ _ w)
      exact .inl (saidC ha hcom hwg had (.inr rfl) hgo (tag' := .w3) (.w3 hk) hmode (by simp only [psi]; omega))
    · obtain ⟨a', w', es, hgo, ⟨rfl, rfl⟩, hg'⟩ := hstep w (.refl _ _ w)
      exact .inl (idleC ha hcom hwg hmode hgo (.sw hg') (by omega))
  | w3 h =>
    rename_i mm
    rcases Goes.cases h with hstop | ⟨m', rfl, hstep⟩
    · obtain ⟨_, hoff, hblk, htake⟩ := hstop w (.refl _ _ w)
      have hblock : sm = 0 → Go.ConcN.Mode X.n D .blk st sm → Moves X Next T0 gs w sl X.n D .w3 (mm + 1) t := fun e1 hm => by
        subst e1
        exact .inl (bookC ha hcom hwg (hblk ⟨_, hwg⟩) (.refl X.Wg w) hwg (by simp) (tag' := .blk) (.blk hstop) hm (.inr ⟨rfl, Nat.succ_pos _⟩))
      rcases modeW3 hmode rfl with ⟨e, hm⟩ | ⟨h2, rfl, rfl⟩
      · exact hblock e hm
      · obtain ⟨a', hgo, m₂, hk⟩ := htake hwg
        exact .inl (bookC ha hcom hwg hgo (aside_setCell w (smA X.Wg) _) (hwg.setSm 0) xbk_sem (tag' := .w4) (.w4 hk) (.fin trivial h2) (.inl (by simp only [psi]; omega)))
    · obtain ⟨a', w', es, hgo, ⟨rfl, rfl⟩, hg'⟩ := hstep w (.refl _ _ w)
      exact .inl (idleC ha hcom hwg hmode hgo (.w3 hg') (by omega))
  | blk h => simp at hrun
  | w4 h =>
    rcases Goes.cases h with hstop | ⟨m', rfl, hstep⟩
    · obtain ⟨_, hx⟩ := hstop w (.refl _ _ w)
      obtain ⟨hq, rfl, rfl⟩ := hmode.fin_inv trivial
      obtain ⟨a', hgo, m₂, hk⟩ := hx hwg
      exact .inl (bookC ha hcom hwg hgo (.refl X.Wg w) hwg xbk_rd (tag' := .ke) (.ke hk) (.fin trivial hq) (.inl (by simp only [psi]; omega)))
    · obtain ⟨a', w', es, hgo, ⟨rfl, rfl⟩, hg'⟩ := hstep w (.refl _ _ w)
      exact .inl (idleC ha hcom hwg hmode hgo (.w4 hg') (by omega))
  | ke h =>
    rcases Goes.cases h with hstop | ⟨m', rfl, hstep⟩
    · obtain ⟨_, a', hgo, m₂, hk⟩ := hstop w (.refl _ _ w)
      obtain ⟨hq, rfl, rfl⟩ := hmode.fin_inv trivial
      exact .inl (bookC ha hcom hwg hgo (.refl X.Wg w) hwg xbk_en (tag' := .acq) (.acq hk) (.fin trivial hq) (.inl (by simp only [psi]; omega)))
    · obtain ⟨a', w', es, hgo, ⟨rfl, rfl⟩, hg'⟩ := hstep w (.refl _ _ w)
      exact .inl (idleC ha hcom hwg hmode hgo (.ke hg') (by omega))
  | acq h =>
    rcases Goes.cases h with hstop | ⟨m', rfl, hstep⟩
    · obtain ⟨_, a', hgo, hnx⟩ := hstop w (.refl _ _ w)
      obtain ⟨hq, rfl, rfl⟩ := hmode.fin_inv trivial
      have hJ : X.Joined w := fun k hk => by
        obtain ⟨g, hg, hs⟩ := hcom.wk k hk
        exact hs.res (hq k hk)
      have hrunT := runT_crowd_go (P := X.P) (sl := sl) (i := 0) ha (by simpa using hgo)
      refine .inr ⟨_, _, hrunT, _, w, sl, a', fun i => (D (i - 1)).fuel, M 0, S 0, rfl, by simp [hcom.size], get_map_set_same _ _ _ (by rw [hcom.size]; omega), hnx hJ, ⟨fun i g hi hg => ?_, fun i hi => ?_⟩, joined hcom hq (fun g i a _ hi ha => hcom.own.ti.pre 0 (Nat.zero_le _) i a hi ha) _ _, hcom.own.wlt, hcom.own.fr⟩
      · rw [get_map_set _ _ _ _ (by omega)] at hg
        obtain ⟨y, hy, rfl⟩ := Option.map_eq_some_iff.1 hg
        have hlt : i - 1 < X.n := by have := (Array.getElem?_eq_some_iff.1 hy).1; rw [hcom.size] at this; omega
        obtain ⟨g', hg', hs⟩ := hcom.wk (i - 1) hlt
        rw [show i - 1 + 1 = i by omega, hy] at hg'
        cases hg'
        rw [hs.woken, Deaf_other t (by omega) _ g_of_ofEvents]
        have hd := hcom.deafW (i - 1) hlt
        rw [show i - 1 + 1 = i by omega] at hd
        rw [hd]
        exact hs.quits (hq (i - 1) hlt)
      · rw [Deaf_other t (g' := 0) (by simp at hi; rw [hcom.size] at hi; omega) _ g_of_ofEvents]
        exact Deaf_absent fun x op hx e => by have := hcom.own.ti.gs x op hx; simp at hi; rw [hcom.size] at hi; omega
    · obtain ⟨a', w', es, hgo, ⟨rfl, rfl⟩, hg'⟩ := hstep w (.refl _ _ w)
      exact .inl (idleC ha hcom hwg hmode hgo (.acq hg') (by omega))
end
end Go.Cx
end
section
namespace Go.Cx
open Go.Conc Go.ConcN
open Go.ConcR (KK wgBlock WgAt stA smA rd wr mk Payload DC0 Bk g_of_ofEvents)
section
variable [Payload] {X : Crew} {Next : (Loc → Prop) → (Loc → Prop) → Goroutine → World → Prop}
  {T0 j : Nat} {gs : Array Goroutine} {w w' : World} {sl : Option (Nat × Nat)} {D : Nat → WD} {tag tag' : XT} {f0 f' d0 : Nat} {a a' : Goroutine} {t : Trace} {M S : Nat → Loc → Prop} {st sm st' sm' : Int} {es : Array Event}
theorem mode_blk {tg : CTag} (hm : Go.ConcN.Mode j D tg st sm) (e : tg = .blk) : ∃ i, i < j ∧ (D i).stage ≠ 1 := by
  subst e
  cases hm with
  | opn h1 _ _ => exact h1.elim
  | reg _ _ h3 => obtain ⟨i, hi, h5⟩ := exists_counted h3; exact ⟨i, hi, by omega⟩
  | last L _ h2 h3 _ => exact ⟨L, h2, by omega⟩
  | fin h1 _ => exact h1.elim
theorem crowd_step (μ : Nat × Nat) (m : Machine) (t : Trace) (h : Inv X Next T0 μ m t) :
    ∃ m' ops, stepT X.P m = (.next m', ops) ∧ ((∃ μ', Lt2 μ' μ ∧ Inv X Next T0 μ' m' (t ++ ops)) ∨ DoneAt X Next m' (t ++ ops)) := by
  obtain ⟨gs, w, sl, j, D, tag, f0, d0, a, st, sm, M, S, rfl, ha, hxs, hcom, hwg, hmode, rfl⟩ := h
  have some1 : ∃ (i : Nat) (g : Goroutine), gs[i]? = some g ∧ g.status = .running := by
    rcases hxs.status with ⟨hs, _⟩ | ⟨_, rfl⟩
    · exact ⟨0, a, ha, hs⟩
    · obtain ⟨i, hi, h1⟩ := mode_blk hmode rfl
      obtain ⟨g, hg, hs⟩ := hcom.wk i hi
      exact ⟨i + 1, g, hg, hs.running_of h1⟩
  have hawake : ∀ g ∈ gs, awake g := by
    intro g hg tm
    obtain ⟨i, hi⟩ := Array.mem_iff_getElem?.1 hg
    cases i with
    | zero =>
      rw [ha] at hi; cases hi
      rcases hxs.status with ⟨hs, _⟩ | ⟨hs, _⟩ <;> rw [hs] <;> simp
    | succ i =>
      have hlt : i < j := by have := (Array.getElem?_eq_some_iff.1 hi).1; rw [hcom.size] at this; omega
      obtain ⟨g', hg', hs⟩ := hcom.wk i hlt
      rw [hi] at hg'; cases hg'
      rcases hs.status with h | h <;> rw [h] <;> simp
  obtain ⟨i, g, d, sl', hg, hrun, hstep⟩ := crowd_pick (P := X.P) (w := w) (sl := sl) hawake some1
  rw [hstep]
  have hxs' := hxs.rely (rely_at _ w d)
  have hcom' := hcom.at d
  have hwg' : WgAt X.ty X.Wg (w.at d) st sm := hwg
  cases i with
  | zero =>
    rw [ha] at hg; cases hg
    rcases stepCaller (sl := sl') ha hxs' hcom' hwg' hmode hrun with ⟨m₁, ops, μ', h1, h2, h3⟩ | ⟨m₁, ops, h1, h2⟩
    · exact ⟨m₁, ops, h1, .inl ⟨μ', h2, h3⟩⟩
    · exact ⟨m₁, ops, h1, .inr h2⟩
  | succ i =>
    have hi : i < j := by have := (Array.getElem?_eq_some_iff.1 hg).1; rw [hcom.size] at this; omega
    obtain ⟨m₁, ops, μ', h1, h2, h3⟩ := stepWorker (sl := sl') ha hxs' hcom' hwg' hmode hi hg hrun
    exact ⟨m₁, ops, h1, .inl ⟨μ', h2, h3⟩⟩
theorem crowd_runs : ∀ (μ : Nat × Nat) (m : Machine) (t : Trace), Inv X Next T0 μ m t → ∃ N m' t', runNT X.P N m t = (.next m', t') ∧ DoneAt X Next m' t' := by
  intro μ
  induction μ using (Prod.lex Nat.lt_wfRel Nat.lt_wfRel).wf.induction with
  | _ μ ih =>
    intro m t h
    obtain ⟨m', ops, hs, h' | h'⟩ := crowd_step μ m t h
    · obtain ⟨μ', hlt, hI⟩ := h'
      obtain ⟨N, m'', t'', hr, hd⟩ := ih μ' hlt m' _ hI
      exact ⟨N + 1, m'', t'', by simp only [runNT, hs]; exact hr, hd⟩
    · exact ⟨1, m', _, by simp only [runNT, hs], h'⟩
theorem crowd_from {a : Goroutine} {w : World} {sl : Option (Nat × Nat)} {t : Trace} {M S : Loc → Prop} (hX : 0 < X.n) (h0 : ∀ op ∈ t, op.g = 0) (hmk : ∀ op ∈ t, op.act ≠ .mark .disable ∧ op.act ≠ .mark .enable ∧ op.act ≠ .mark (.release (stA X.Wg)))
    (hwg : WgAt X.ty X.Wg w 0 0) (hpay : PayAt X.C X.nC w) (hM : ∀ l, M l ∨ S l → ¬ X.Sy l ∧ ∃ b, locBlk l = some b ∧ b < w.heap.size) (hC : ∀ l, M l ∨ S l → ∀ i, l ≠ cellAt X.C i) (hfr : Env (OldL X.w0) X.w0 w) (hO : ∀ l, M l → ¬ OldL X.w0 l) (hs : Script X Next X.n M S a w) :
    ∃ N m' t', runNT X.P N (crowd #[a] w sl) t = (.next m', t') ∧ DoneAt X Next m' t' := by
  obtain ⟨r, hr⟩ : ∃ r, X.n = r + 1 := ⟨X.n - 1, by omega⟩
  have hwlt : X.Wg < w.heap.size := by
    unfold WgAt at hwg
    exact (Array.getElem?_eq_some_iff.1 hwg).1
  have hown : Own X t.size (fun _ => M) (fun _ => S) 0 w t := by
    refine ⟨⟨fun g g' l hg hg' hne => by omega, fun g g' l hg hg' hne => by omega, fun g l _ h => (hM l (.inl h)).1, fun g l _ h => (hM l (.inr h)).1⟩, .lone h0 _ _, Nat.le_refl _, fun g _ l h => (hM l h).2, fun i hi => ?_, hwlt, hpay, fun g _ l h => hC l h, hfr, fun g _ l h => hO l h⟩
    obtain ⟨op, ho, hoa⟩ := Option.map_eq_some_iff.1 hi
    exact (hmk op (mem_of_getElem? ho)).2.2 hoa
  have hcom : Com X t.size 0 #[a] w t (fun _ => ⟨0, 0, 0⟩) 0 (fun _ => M) (fun _ => S) := by
    refine ⟨rfl, fun i hi => by omega, hown, ?_, fun i hi => by omega, fun i hi => by omega, fun i hi => by omega⟩
    have := Deaf_still #[] 0 t fun op hop => ⟨(hmk op hop).1, (hmk op hop).2.1⟩
    simp only [Array.empty_append] at this
    rw [this]
    rfl
  rw [hr] at hs
  obtain ⟨m, hk⟩ := hs
  have hxs : XS X Next M S (.sp r 6) (X.n - (r + 1)) m 0 a w := .s6 (by omega) hk
  rw [show X.n - (r + 1) = 0 by omega] at hxs
  have hmode : Go.ConcN.Mode 0 (fun _ => (⟨0, 0, 0⟩ : WD)) (.sp r 6) 0 0 := by
    have := Go.ConcN.Mode.opn (j := 0) (D := fun _ => (⟨0, 0, 0⟩ : WD)) (tag := .sp r 6) trivial (fun i hi => by omega) (fun vs e => by cases e)
    simpa [Vc, sumTo, pend] using this
  exact crowd_runs _ _ _ ⟨#[a], w, sl, 0, _, .sp r 6, m, 0, a, 0, 0, _, _, rfl, rfl, hxs, hcom, hwg, hmode, rfl⟩
end
end Go.Cx
end
section
namespace Go.Cx
open Go.Conc Go.ConcN
section
variable {Shun : Loc → Prop} {t u : Trace}
theorem PastX.app0 (h : PastX Shun t) (hu : ∀ op ∈ u, op.g = 0) (hs : ∀ op ∈ u, ∀ b, op.act.touch? = some b → ¬ Shun b.loc) (hd : Deaf (t ++ u) 0 = Deaf t 0) : PastX Shun (t ++ u) := by
  refine ⟨fun said => noRace_append (h.clean said) hu fun i a ha op hop b hb hc => ?_, fun i a ha hm => ?_, handedOver_app h.over fun op hop => .inl (hu op hop), hd.trans h.hears⟩
  · rcases h.known i a ha hc.2.1 with hk | ⟨hsa, _⟩
    · exact hk
    · exact absurd (hc.1 ▸ hsa) (hs op hop b hb)
  · obtain ⟨x, hx, hxa⟩ := touch_of ha
    rcases getElem?_append_cases hx with ⟨_, hx'⟩ | ⟨_, hxu⟩
    · exact (h.known i a (by rw [touchAt_of hx']; exact hxa) hm).imp (·.app u) id
    · have := knows_own hx
      rw [hu x hxu] at this
      exact .inl this
theorem PastX.appMute {g : Nat} (h : PastX Shun t) (hg : g ≠ 0) (hu : ∀ op ∈ u, op.g = g) (hn : ∀ op ∈ u, op.act.touch? = none) : PastX Shun (t ++ u) := by
  refine ⟨fun said => noRace_append (h.clean said) hu fun i a _ op hop b hb _ => (by rw [hn op hop] at hb; cases hb), fun i a ha hm => ?_, handedOver_app h.over fun op hop => .inr (hn op hop), (Deaf_other t hg u hu).trans h.hears⟩
  obtain ⟨x, hx, hxa⟩ := touch_of ha
  rcases getElem?_append_cases hx with ⟨_, hx'⟩ | ⟨_, hxu⟩
  · exact (h.known i a (by rw [touchAt_of hx']; exact hxa) hm).imp (·.app u) id
  · rw [hn x hxu] at hxa; cases hxa
theorem PastX.mute (h : PastX Shun t) {g : Nat} (hg : g ≠ 0) {fn : FuncId} {pos : String} {es : Array Event} (hm : ∀ e ∈ es, e.mute = true) : PastX Shun (t ++ MemOp.ofEvents g fn pos es) :=
  h.appMute hg (fun op hop => by obtain ⟨e, _, rfl⟩ := Go.Conc.mem_ofEvents hop; rfl) (fun op hop => by obtain ⟨e, he, rfl⟩ := Go.Conc.mem_ofEvents hop; exact touch_mute (hm e he))
structure Clear (Shun M S : Loc → Prop) (w : World) : Prop where
  out : ∀ l, M l ∨ S l → ¬ Shun l ∧ ∃ b, locBlk l = some b
  old : ∀ l, Shun l → ∃ b, locBlk l = some b ∧ b < w.heap.size
theorem Clear.did {M S M' : Loc → Prop} {w w' : World} {es : Array Event} (h : Clear Shun M S w) (hd : Did M S w w' es M') : Clear Shun M' S w' := by
  refine ⟨fun l hl => ?_, fun l hl => ?_⟩
  · rcases hl with hl | hl
    · rcases (hd.mine l).1 hl with hl | ⟨b, hb, h1, h2⟩
      · exact h.out l (.inl hl)
      · refine ⟨fun hs => ?_, b, hb⟩
        obtain ⟨b', hb', h3⟩ := h.old l hs
        rw [hb] at hb'
        cases hb'
        omega
    · exact h.out l (.inr hl)
  · obtain ⟨b, hb, h1⟩ := h.old l hl
    exact ⟨b, hb, Nat.lt_of_lt_of_le h1 hd.env.size⟩
theorem PastX.own {M S M' : Loc → Prop} {w w' : World} {es : Array Event} (h : PastX Shun t) (hc : Clear Shun M' S w') (hd : Did M S w w' es M') (fn : FuncId) (pos : String) : PastX Shun (t ++ MemOp.ofEvents 0 fn pos es) := by
  have hloc : ∀ l, M' l ∨ S l → ∃ b, locBlk l = some b := fun l hl => (hc.out l hl).2
  refine h.app0 (fun op hop => by obtain ⟨e, _, rfl⟩ := Go.Conc.mem_ofEvents hop; rfl) (fun op hop b hb => ?_) ?_
  · rcases (opOk_evIn (Sy := fun _ => False) (k := 0) hloc hd.evs op hop).2 b hb with ⟨h1, _⟩ | ⟨h1, _⟩ | ⟨h1, _⟩
    · exact h1.elim
    · exact (hc.out _ (.inl h1)).1
    · exact (hc.out _ (.inr h1)).1
  · rw [Deaf_own]
    exact deafBehind_still (fun e he => ⟨(evIn_loc hloc (hd.evs e he)).1, (evIn_loc hloc (hd.evs e he)).2.1⟩) _
end
section
variable {P : Program} {Shun : Loc → Prop} {S : Loc → Prop} {L : World → Prop} {Q : (Loc → Prop) → Goroutine → World → Prop}
theorem goesX_beside (hL : ∀ w d, L w → L (w.at d)) (hrunQ : ∀ M g w, Q M g w → g.status = .running) :
    ∀ (K n : Nat) (gs : Array Goroutine) (a : Goroutine) (w : World) (sl : Option (Nat × Nat)) (t : Trace) (q : Nat → Nat) (M : Loc → Prop), n + sumTo gs.size q ≤ K → gs[0]? = some a → Leavers P t gs q → PastX Shun t → Clear Shun M S w →
      GoesX P true S L Q n M a w →
      ∃ (N : Nat) (gs' : Array Goroutine) (a' : Goroutine) (w' : World) (sl' : Option (Nat × Nat)) (t' : Trace) (q' : Nat → Nat) (M' : Loc → Prop),
        runNT P N (crowd gs w sl) t = (.next (crowd gs' w' sl'), t') ∧ gs'.size = gs.size ∧ gs'[0]? = some a' ∧ Q M' a' w' ∧ Leavers P t' gs' q' ∧ PastX Shun t' ∧ Clear Shun M' S w' := by
  have hat : ∀ (M : Loc → Prop) (w : World) (d : Nat), Rely L (fun l => M l ∨ S l) w (w.at d) := fun M w d => ⟨env_at _ w d, hL w d⟩
  intro K
  induction K with
  | zero =>
    intro n gs a w sl t q M hM h0 hLv hP hC hG
    obtain rfl : n = 0 := by omega
    rcases hG.cases with hq | ⟨n', e, _⟩
    · exact ⟨0, gs, a, w, sl, t, q, M, rfl, rfl, h0, hq w (.refl _ _ w), hLv, hP, hC⟩
    · omega
  | succ K ih =>
    intro n gs a w sl t q M hM h0 hLv hP hC hG
    rcases hG.cases with hq | ⟨n', rfl, hrun, hstep⟩
    · exact ⟨0, gs, a, w, sl, t, q, M, rfl, rfl, h0, hq w (.refl _ _ w), hLv, hP, hC⟩
    have haw : ∀ g ∈ gs, awake g := by
      intro g hg
      obtain ⟨i, hi, rfl⟩ := Array.mem_iff_getElem.1 hg
      rcases Nat.eq_zero_or_pos i with rfl | hpos
      · have : gs[0] = a := by simpa [Array.getElem?_eq_getElem hi] using h0
        rw [this]; exact awake_of (.inl hrun)
      · exact awake_of ((hLv.old i _ hpos (Array.getElem?_eq_getElem hi)).status.elim .inl fun x => .inr (.inr x))
    obtain ⟨i, g, d, sl', hi, hg, hst⟩ := crowd_pick (P := P) (w := w) (sl := sl) haw ⟨0, a, h0, hrun⟩
    rcases Nat.eq_zero_or_pos i with rfl | hpos
    · obtain rfl : g = a := by rw [h0] at hi; exact (Option.some.inj hi).symm
      obtain ⟨a', w', es, M', hgo, hd, hG'⟩ := hstep (w.at d) (hat M w d)
      have hrunT := runT_crowd_go (P := P) (sl := sl') (i := 0) hi (show stepG P (0 == 0) g (w.at d) = _ from hgo)
      have hsz : ((gs.map (Go.Conc.woken P g a' w')).setIfInBounds 0 a').size = gs.size := by simp
      have hlt : 0 < gs.size := (Array.getElem?_eq_some_iff.1 h0).1
      have hC0 : Clear Shun M S (w.at d) := ⟨hC.out, hC.old⟩
      have hC' := hC0.did hd
      obtain ⟨N, gs', a'', w'', sl'', t', q', M'', hr, hs', h0', hS, hL', hP', hC''⟩ := ih n' ((gs.map (Go.Conc.woken P g a' w')).setIfInBounds 0 a') a' w' sl' (t ++ MemOp.ofEvents 0 g.frame.fn g.frame.place es) q M' (by rw [hsz]; omega) (by simp [hlt])
        ⟨fun j x hj hx => by
          have hne : 0 ≠ j := by omega
          rw [Array.getElem?_setIfInBounds_ne hne, Array.getElem?_map] at hx
          obtain ⟨y, hy, rfl⟩ := Option.map_eq_some_iff.1 hx
          have hq := hLv.old j y hj hy
          rw [woken_quitsD hq, Deaf_other t (by omega) _ (fun op hop => by obtain ⟨e, _, rfl⟩ := Go.Conc.mem_ofEvents hop; rfl)]
          exact hq, fun j hj => by
          rw [Deaf_other t (g' := 0) (by simp at hj; omega) _ (fun op hop => by obtain ⟨e, _, rfl⟩ := Go.Conc.mem_ofEvents hop; rfl)]
          exact hLv.above j (by simpa using hj)⟩
        (hP.own hC' hd _ _) hC' hG'
      exact ⟨N + 1, gs', a'', w'', sl'', t', q', M'', by simp only [runNT, hst, hrunT]; exact hr, hs'.trans hsz, h0', hS, hL', hP', hC''⟩
    · have hq := hLv.old i g hpos hi
      have hi0 : (i == 0) = false := by simp; omega
      have hlt : i < gs.size := (Array.getElem?_eq_some_iff.1 hi).1
      cases hqi : q i with
      | zero => rw [hqi] at hq; rw [hq.1] at hg; cases hg
      | succ k =>
        rw [hqi] at hq
        rcases hq with ⟨hf, _⟩ | ⟨_, g', es, hm, hstp, hq'⟩
        · rw [hf] at hg; cases hg
        have hrunT := runT_crowd_go (P := P) (sl := sl') (i := i) hi (by rw [hi0]; exact hstp (w.at d))
        have hsz : ((gs.map (Go.Conc.woken P g g' (w.at d))).setIfInBounds i g').size = gs.size := by simp
        have hsum : sumTo gs.size (upd q i k) + (k + 1) = sumTo gs.size q + k := by
          have := sumTo_upd q k id hlt
          simpa [hqi] using this
        have hC0 : Clear Shun M S (w.at d) := ⟨hC.out, hC.old⟩
        obtain ⟨N, gs', a'', w'', sl'', t', q', M'', hr, hs', h0', hS, hL', hP', hC''⟩ := ih (n' + 1) ((gs.map (Go.Conc.woken P g g' (w.at d))).setIfInBounds i g') a (w.at d) sl' (t ++ MemOp.ofEvents i g.frame.fn g.frame.place es) (upd q i k) M (by rw [hsz]; omega)
          (by
            have hne : i ≠ 0 := by omega
            rw [Array.getElem?_setIfInBounds_ne hne, Array.getElem?_map, h0]
            simp [woken_run hrun])
          ⟨fun j x hj hx => by
            by_cases hji : i = j
            · subst hji
              rw [Array.getElem?_setIfInBounds_self_of_lt (by simpa using hlt)] at hx
              obtain rfl := Option.some.inj hx
              rw [upd_same, Deaf_own]
              exact hq'
            · rw [Array.getElem?_setIfInBounds_ne hji, Array.getElem?_map] at hx
              obtain ⟨y, hy, rfl⟩ := Option.map_eq_some_iff.1 hx
              have hqj := hLv.old j y hj hy
              rw [woken_quitsD hqj, upd_ne q k (Ne.symm hji), Deaf_other t hji _ (fun op hop => by obtain ⟨e, _, rfl⟩ := Go.Conc.mem_ofEvents hop; rfl)]
              exact hqj, fun j hj => by
            rw [Deaf_other t (g' := i) (by simp at hj; omega) _ (fun op hop => by obtain ⟨e, _, rfl⟩ := Go.Conc.mem_ofEvents hop; rfl)]
            exact hLv.above j (by simpa using hj)⟩
          (hP.mute (by omega) hm) hC0 (hG.rely (hat M w d))
        exact ⟨N + 1, gs', a'', w'', sl'', t', q', M'', by simp only [runNT, hst, hrunT]; exact hr, hs'.trans hsz, h0', hS, hL', hP', hC''⟩
end
end Go.Cx
end
section
namespace Go.Cx
open Go.Conc Go.ConcN Go.RowKit Go.Conc.Lib Go.ConcR.Gen Go.ConcN.Gen
open Go.ConcR (KK wgBlock WgAt stA smA rd wr mk Payload DC0)
variable [Payload] {L : WgLink}
omit [Payload] in
theorem fx_rely {ty : TypeId} {Wg : Nat} {K : Loc → Prop} {F : World → Prop} (hF2 : ∀ w w', Env K w w' → F w → F w') {w w1 : World} (h : F w ∧ WgLive ty Wg w) (r : Rely (WgLive ty Wg) K w w1) : F w1 ∧ WgLive ty Wg w1 := ⟨hF2 _ _ r.1 h.1, r.2 h.2⟩
omit [Payload] in
theorem env_set {ty : TypeId} {Wg : Nat} {K : Loc → Prop} {w : World} {a : Addr} {v : Value} (hK : ∀ i, ¬ K (cellAt Wg i)) (ha : a.block = Wg) {st sm st' sm' : Int} (h1 : WgAt ty Wg w st sm) (h2 : WgAt ty Wg (w.setCell a v) st' sm') : Env K w (w.setCell a v) :=
  .of_aside (ha ▸ aside_setCell w a v) (fun o e => by
    unfold WgAt wgBlock at h1 h2
    rw [h1] at e
    cases e
    exact ⟨_, _, _, rfl, _, h2, rfl⟩) hK
omit [Payload] in
theorem quietStep {P : Program} {main : Bool} {S : Loc → Prop} {L : World → Prop} {Q : (Loc → Prop) → Goroutine → World → Prop} {n : Nat} {M : Loc → Prop} {g : Goroutine} {w : World} (hr : g.status = .running)
    (h : ∀ w1, Rely L (fun l => M l ∨ S l) w w1 → (stepG P main g w1).goes fun g' w' es => w' = w1 ∧ es = #[] ∧ GoesX P main S L Q n M g' w1) : GoesX P main S L Q (n + 1) M g w := by
  refine .step hr fun w1 h1 => ?_
  obtain ⟨g', w', es, e, rfl, rfl, hg⟩ := goes_elim (h w1 h1)
  exact ⟨g', w', _, M, e, .quiet, hg⟩
section
variable {Wg : Nat} {F : World → Prop} {M S : Loc → Prop} {Q : (Loc → Prop) → Goroutine → World → Prop}
  {b₀ : Frame} {a₀ : Act} {ops₀ : Array Oper} {i₀ : Nat} {rest₀ : List Nat} {k₀ : List Item} {cs : List Frame} {mT : Nat}
theorem addPosX {P : Program} (H : WgLib P L) (hK : ∀ i, ¬ (M (cellAt Wg i) ∨ S (cellAt Wg i))) (hF2 : ∀ w w', Env (fun l => M l ∨ S l) w w' → F w → F w')
    (hT : ∀ w, F w → WgLive L.tWg Wg w → GoesX P true S (WgLive L.tWg Wg) Q mT M (G (b₀.at (a₀.put ((ops₀[i₀]?).bind (·.dst)) (.tuple #[])) (.inRegion ops₀ rest₀ :: k₀)) cs) w)
    (w : World) (hF : F w ∧ WgLive L.tWg Wg w) :
    GX P L.tWg Wg (fun l => M l ∨ S l) (XKd P L.tWg Wg (fun l => M l ∨ S l) (fun g w => ∃ m, GoesX P true S (WgLive L.tWg Wg) Q m M g w)) 40
      (G ((base L.add).at ⟨#[.pointer (some ⟨Wg, 0, none⟩), .int .i64 1, undef, undef, undef, undef, undef, undef, undef, undef, undef, undef, undef, undef, undef, undef, undef, undef, undef, undef, undef, undef, undef, undef, undef, undef, undef, undef, undef, undef, undef, undef, undef, undef, undef, undef, undef, undef, undef, undef, undef, undef, undef, undef, undef, undef, undef, undef, undef, undef, undef, undef, undef, undef, undef, undef, undef, undef, undef, undef, undef, undef, undef, undef, undef, undef, undef, undef, undef, undef, undef, undef, undef, undef, undef, undef, undef, undef, undef, undef, undef, undef, undef, undef, undef, undef, undef, undef, undef, undef, undef, undef, undef, undef, undef, undef, undef, undef, undef, undef, undef, undef, undef, undef, undef, undef, undef, undef, undef, undef, undef, undef, undef, undef, undef, undef, undef], []⟩ [.code (body_add L)]) (b₀.at a₀ (.inRegion ops₀ (i₀ :: rest₀) :: k₀) :: cs)) w := by
  lib_facts
  simp only [body_add, addFn, Option.getD_some]
  u_c stepG_seq (fx_rely hF2) hF
  u_cond true (fx_rely hF2) hF
  iterate 2 (u_c stepG_seq (fx_rely hF2) hF)
  u_reg (fx_rely hF2) hF
  iterate 2 (u_op (fx_rely hF2) hF)
  u_c stepG_region_end (fx_rely hF2) hF
  u_cond false (fx_rely hF2) hF
  u_c stepG_skip (fx_rely hF2) hF
  u_c stepG_seq (fx_rely hF2) hF
  u_reg (fx_rely hF2) hF
  refine Goes.stop (fun w1 h1 => ?_)
  replace hF := fx_rely hF2 hF h1
  clear h1
  refine ⟨rfl, _, stepG_mark0 .disable (by simp) rfl rfl (by k_ne) rfl H.f_disable (x_disable_n L) (x_disable_b L) (x_disable_x L) (x_disable_f L), 60, ?_⟩
  walk_nrm
  u_c stepG_region_end (fx_rely hF2) hF
  u_reg (fx_rely hF2) hF
  u_defer (fx_rely hF2) hF
  u_c stepG_region_end (fx_rely hF2) hF
  u_c stepG_seq (fx_rely hF2) hF
  u_reg (fx_rely hF2) hF
  u_op (fx_rely hF2) hF
  u_c stepG_region_end (fx_rely hF2) hF
  iterate 2 (u_c stepG_seq (fx_rely hF2) hF)
  u_reg (fx_rely hF2) hF
  u_bub (fx_rely hF2) hF
  u_c stepG_region_end (fx_rely hF2) hF
  u_cond false (fx_rely hF2) hF
  u_c stepG_skip (fx_rely hF2) hF
  u_c stepG_seq (fx_rely hF2) hF
  u_reg (fx_rely hF2) hF
  iterate 6 (u_op (fx_rely hF2) hF)
  u_call H.f_uAdd (nm_uAdd L) uAddFn (fx_rely hF2) hF
  u_c stepG_seq (fx_rely hF2) hF
  u_reg (fx_rely hF2) hF
  u_op (fx_rely hF2) hF
  u_c stepG_region_end (fx_rely hF2) hF
  u_c stepG_seq (fx_rely hF2) hF
  u_reg (fx_rely hF2) hF
  iterate 4 (u_op (fx_rely hF2) hF)
  refine Goes.stop (fun w2 h2 => ?_)
  replace hF := fx_rely hF2 hF h2
  clear h2
  refine ⟨rfl, fun v hv hw => ?_⟩
  rcases Nat.eq_zero_or_pos v with rfl | hvp
  · replace hw : WgAt L.tWg Wg w2 0 0 := by simpa using hw
    have z : (((0 : Nat) : Int) + 1) * KK = KK := by simp
    rw [z]
    have e0 : IntKind.u64.wrap (0 + 4294967296) = KK := by decide
    refine ⟨_, (stepG_add_atomic rfl rfl (by k_ne) rfl H.f_addU64 (x_addU64_n L) (x_addU64_b L) (x_addU64_x L) .u64 (x_addU64_f L) rfl rfl hw.cellSt (hw.thaw 0)).trans (by rw [e0]; rfl), .inl ⟨80, ?_⟩⟩
    replace hF : F (w2.setCell (stA Wg) (.int .u64 KK)) ∧ WgLive L.tWg Wg (w2.setCell (stA Wg) (.int .u64 KK)) := ⟨hF2 _ _ (env_set hK rfl hw (hw.setSt _)) hF.1, ⟨_, _, hw.setSt _⟩⟩
    clear hw
    simp only [KK] at hF ⊢
    walk_nrm
    u_op (fx_rely hF2) hF
    u_c stepG_region_end (fx_rely hF2) hF
    u_c stepG_ret' (fx_rely hF2) hF
    u_leave1 H.f_uAdd (fx_rely hF2) hF
    u_op (fx_rely hF2) hF
    u_c stepG_region_end (fx_rely hF2) hF
    iterate 2 (u_c stepG_seq (fx_rely hF2) hF)
    u_reg (fx_rely hF2) hF
    iterate 4 (u_op (fx_rely hF2) hF)
    iterate 2 (u_skip (fx_rely hF2) hF)
    u_op (fx_rely hF2) hF
    u_c stepG_region_end (fx_rely hF2) hF
    u_cond false (fx_rely hF2) hF
    u_c stepG_skip (fx_rely hF2) hF
    u_c stepG_seq (fx_rely hF2) hF
    u_reg (fx_rely hF2) hF
    iterate 4 (u_op (fx_rely hF2) hF)
    u_c stepG_region_end (fx_rely hF2) hF
    u_c stepG_seq (fx_rely hF2) hF
    u_reg (fx_rely hF2) hF
    iterate 4 (u_op (fx_rely hF2) hF)
    u_c stepG_region_end (fx_rely hF2) hF
    iterate 2 (u_c stepG_seq (fx_rely hF2) hF)
    u_reg (fx_rely hF2) hF
    iterate 10 (u_op (fx_rely hF2) hF)
    u_c stepG_region_end (fx_rely hF2) hF
    u_cond true (fx_rely hF2) hF
    u_reg (fx_rely hF2) hF
    iterate 3 (u_op (fx_rely hF2) hF)
    u_conv H.underlying_tPU32 H.room_tU32 (WgLive.cell1 hF.2).choose_spec (fx_rely hF2) hF
    refine Goes.stop (fun w3 h3 => ?_)
    replace hF := fx_rely hF2 hF h3
    clear h3
    refine ⟨rfl, _, ⟨Wg, 1, none⟩, rfl, stepG_markAt .read (by simp) rfl rfl (by k_ne) rfl H.f_raceRead (x_raceRead_n L) (x_raceRead_b L) (x_raceRead_x L) (x_raceRead_f L) (ad := ⟨Wg, 1, none⟩) (by simp [Act.eval]), 80, ?_⟩
    walk_nrm
    u_c stepG_region_end (fx_rely hF2) hF
    iterate 2 (u_c stepG_seq (fx_rely hF2) hF)
    u_reg (fx_rely hF2) hF
    iterate 2 (u_op (fx_rely hF2) hF)
    u_c stepG_region_end (fx_rely hF2) hF
    u_cond false (fx_rely hF2) hF
    u_c stepG_skip (fx_rely hF2) hF
    iterate 2 (u_c stepG_seq (fx_rely hF2) hF)
    u_reg (fx_rely hF2) hF
    iterate 3 (u_op (fx_rely hF2) hF)
    iterate 2 (u_skip (fx_rely hF2) hF)
    iterate 2 (u_op (fx_rely hF2) hF)
    iterate 4 (u_skip (fx_rely hF2) hF)
    u_op (fx_rely hF2) hF
    u_c stepG_region_end (fx_rely hF2) hF
    u_cond false (fx_rely hF2) hF
    u_c stepG_skip (fx_rely hF2) hF
    iterate 2 (u_c stepG_seq (fx_rely hF2) hF)
    u_reg (fx_rely hF2) hF
    iterate 3 (u_op (fx_rely hF2) hF)
    iterate 2 (u_skip (fx_rely hF2) hF)
    u_op (fx_rely hF2) hF
    u_c stepG_region_end (fx_rely hF2) hF
    u_cond true (fx_rely hF2) hF
    u_c stepG_ret' (fx_rely hF2) hF
    refine Goes.stop (fun w4 h4 => ?_)
    replace hF := fx_rely hF2 hF h4
    clear h4
    refine ⟨rfl, _, stepG_unwind_entry (v := .tuple #[]) (evs := #[mk .enable]) rfl H.f_enable (x_enable_n L) (x_enable_b L) (x_enable_x L) (x_enable_f L) (by simp [Extern.Race.none_]) (by simp [mk]) (by simp [mk]), mT + 1, ?_⟩
    refine quietStep rfl fun w5 h5 => ?_
    have h5' := fx_rely hF2 hF h5
    exact goes_leave0 rfl rfl H.f_add rfl ⟨rfl, rfl, hT _ h5'.1 h5'.2⟩
  · obtain ⟨V, hV⟩ : ∃ V : Int, V = (v : Int) + 1 := ⟨_, rfl⟩
    obtain ⟨Z, hZ⟩ : ∃ Z : Int, Z = V * KK := ⟨_, rfl⟩
    have eZ : IntKind.u64.wrap ((v : Int) * KK + 4294967296) = Z := by rw [IntKind.wrap_u64, hZ, hV]; simp only [KK]; omega
    rw [← hV, ← hZ]
    have a1 : Z / 4294967296 = V := by rw [hZ]; simp only [KK]; omega
    have b1 : bits .and .u64 Z 2147483648 = 0 := by rw [hZ, hV]; have := st_flag (v + 1) 0 (by omega) (by omega); simpa [KK] using this
    have b2 : bits .and .u64 Z 2147483647 = 0 := by rw [hZ, hV]; have := st_waiters (v + 1) 0 (by omega) (by omega); simpa [KK] using this
    have c1 : IntKind.i32.wrap V = V := by rw [IntKind.wrap_i32]; omega
    have hV1 : 1 < V := by omega
    have hV2 : V < 2147483648 := by omega
    have q1 : (V == 1) = false := by simp; omega
    have q2 : decide (V = 1) = false := decide_eq_false (by omega)
    have q3 : decide (V < 0) = false := decide_eq_false (by omega)
    have q4 : decide (0 < V) = true := decide_eq_true (by omega)
    have q5 : (V == 0) = false := by simp; omega
    have q6 : decide (V = 0) = false := decide_eq_false (by omega)
    refine ⟨_, (stepG_add_atomic rfl rfl (by k_ne) rfl H.f_addU64 (x_addU64_n L) (x_addU64_b L) (x_addU64_x L) .u64 (x_addU64_f L) rfl rfl hw.cellSt (hw.thaw 0)).trans (by rw [eZ]; rfl), .inr ⟨110, ?_⟩⟩
    replace hF : F (w2.setCell (stA Wg) (.int .u64 Z)) ∧ WgLive L.tWg Wg (w2.setCell (stA Wg) (.int .u64 Z)) := ⟨hF2 _ _ (env_set hK rfl hw (hw.setSt _)) hF.1, ⟨_, _, hw.setSt _⟩⟩
    clear hw hZ hV eZ
    walk_nrm
    u_op (fx_rely hF2) hF
    u_c stepG_region_end (fx_rely hF2) hF
    u_c stepG_ret' (fx_rely hF2) hF
    u_leave1 H.f_uAdd (fx_rely hF2) hF
    u_op (fx_rely hF2) hF
    u_c stepG_region_end (fx_rely hF2) hF
    iterate 2 (u_c stepG_seq (fx_rely hF2) hF)
    u_reg (fx_rely hF2) hF
    iterate 4 (u_op (fx_rely hF2) hF)
    iterate 2 (u_skip (fx_rely hF2) hF)
    u_op (fx_rely hF2) hF
    u_c stepG_region_end (fx_rely hF2) hF
    u_cnd false (fx_rely hF2) hF
    u_c stepG_skip (fx_rely hF2) hF
    u_c stepG_seq (fx_rely hF2) hF
    u_reg (fx_rely hF2) hF
    iterate 4 (u_op (fx_rely hF2) hF)
    u_c stepG_region_end (fx_rely hF2) hF
    u_c stepG_seq (fx_rely hF2) hF
    u_reg (fx_rely hF2) hF
    iterate 4 (u_op (fx_rely hF2) hF)
    u_c stepG_region_end (fx_rely hF2) hF
    iterate 2 (u_c stepG_seq (fx_rely hF2) hF)
    u_reg (fx_rely hF2) hF
    iterate 10 (u_op (fx_rely hF2) hF)
    u_c stepG_region_end (fx_rely hF2) hF
    u_cnd false (fx_rely hF2) hF
    u_c stepG_skip (fx_rely hF2) hF
    iterate 2 (u_c stepG_seq (fx_rely hF2) hF)
    u_reg (fx_rely hF2) hF
    iterate 2 (u_op (fx_rely hF2) hF)
    u_c stepG_region_end (fx_rely hF2) hF
    u_cnd false (fx_rely hF2) hF
    u_c stepG_skip (fx_rely hF2) hF
    iterate 2 (u_c stepG_seq (fx_rely hF2) hF)
    u_reg (fx_rely hF2) hF
    iterate 3 (u_op (fx_rely hF2) hF)
    iterate 2 (u_skip (fx_rely hF2) hF)
    iterate 2 (u_op (fx_rely hF2) hF)
    iterate 4 (u_skip (fx_rely hF2) hF)
    u_op (fx_rely hF2) hF
    u_c stepG_region_end (fx_rely hF2) hF
    u_cnd false (fx_rely hF2) hF
    u_c stepG_skip (fx_rely hF2) hF
    iterate 2 (u_c stepG_seq (fx_rely hF2) hF)
    u_reg (fx_rely hF2) hF
    iterate 3 (u_op (fx_rely hF2) hF)
    iterate 2 (u_skip (fx_rely hF2) hF)
    u_op (fx_rely hF2) hF
    u_c stepG_region_end (fx_rely hF2) hF
    u_cnd true (fx_rely hF2) hF
    u_c stepG_ret' (fx_rely hF2) hF
    refine Goes.stop (fun w4 h4 => ?_)
    replace hF := fx_rely hF2 hF h4
    clear h4
    refine ⟨rfl, _, stepG_unwind_entry (v := .tuple #[]) (evs := #[mk .enable]) rfl H.f_enable (x_enable_n L) (x_enable_b L) (x_enable_x L) (x_enable_f L) (by simp [Extern.Race.none_]) (by simp [mk]) (by simp [mk]), mT + 1, ?_⟩
    refine quietStep rfl fun w5 h5 => ?_
    have h5' := fx_rely hF2 hF h5
    exact goes_leave0 rfl rfl H.f_add rfl ⟨rfl, rfl, hT _ h5'.1 h5'.2⟩
end
end Go.Cx
end
section
namespace Go.Cx
open Go.Conc Go.ConcN Go.RowKit Go.Conc.Lib Go.ConcR.Gen Go.ConcN.Gen
open Go.ConcR (KK wgBlock WgAt stA smA rd wr mk Payload DC0)
variable [Payload] {L : WgLink}
omit [Payload] in
theorem goesX_of_goes {P : Program} {main : Bool} {M S : Loc → Prop} {L : World → Prop} {Q : (Loc → Prop) → Goroutine → World → Prop} {Stop : Goroutine → World → Prop} {m : Nat} (hQ : ∀ g w, Stop g w → GoesX P main S L Q m M g w) :
    ∀ {n : Nat} {g : Goroutine} {w : World}, Goes P main (Rely L (fun l => M l ∨ S l)) DC0 Stop n g w → GoesX P main S L Q (n + m) M g w
  | 0, g, w, h => by rw [Nat.zero_add]; exact hQ g w (h w (.refl _ _ w))
  | n + 1, g, w, h => by
    rcases h with h | ⟨hr, h⟩
    · exact (hQ g w (h w (.refl _ _ w))).more (by omega)
    · rw [Nat.add_right_comm]
      refine .step hr fun w1 h1 => ?_
      obtain ⟨g', w', es, e, ⟨rfl, rfl⟩, hg⟩ := goes_elim (h w1 h1)
      exact ⟨g', _, _, M, e, .quiet, goesX_of_goes hQ hg⟩
def AnchX (L : WgLink) (F : World → Prop) (Wg : Nat) (c : Frame) (cs : List Frame) (g : Goroutine) (w : World) : Prop :=
  ∃ T : Array Value, g = G ((base L.wait).at ⟨T, []⟩ [.code (L7 L), .inLoop (L7 L), .inBlock 0]) (c :: cs) ∧ T.size = 84 ∧ T[0]? = some (.pointer (some ⟨Wg, 0, none⟩)) ∧ F w ∧ WgLive L.tWg Wg w
section
variable {Wg : Nat} {F F2 : World → Prop} {M S M2 S2 : Loc → Prop} {Q : (Loc → Prop) → Goroutine → World → Prop} {Joined : World → Prop}
  {b₀ : Frame} {a₀ : Act} {ops₀ : Array Oper} {i₀ : Nat} {rest₀ : List Nat} {k₀ : List Item} {cs : List Frame} {mT : Nat}
theorem waitRoundX {P : Program} (H : WgLib P L) (hK : ∀ i, ¬ (M (cellAt Wg i) ∨ S (cellAt Wg i))) (hF2 : ∀ w w', Env (fun l => M l ∨ S l) w w' → F w → F w') (hF3 : ∀ w w', Env (fun l => M2 l ∨ S2 l) w w' → F2 w → F2 w')
    (hJ : ∀ w, F w → WgLive L.tWg Wg w → Joined w → F2 w)
    (hT : ∀ w, F2 w → WgLive L.tWg Wg w → GoesX P true S2 (WgLive L.tWg Wg) Q mT M2 (G (b₀.at (a₀.put ((ops₀[i₀]?).bind (·.dst)) (.tuple #[])) (.inRegion ops₀ rest₀ :: k₀)) cs) w)
    (g : Goroutine) (w : World) (h : AnchX L F Wg (b₀.at a₀ (.inRegion ops₀ (i₀ :: rest₀) :: k₀)) cs g w) :
    ∃ m, GX P L.tWg Wg (fun l => M l ∨ S l) (YW1 P L.tWg Wg (fun l => M l ∨ S l) Joined (fun g w => ∃ m, GoesX P true S2 (WgLive L.tWg Wg) Q m M2 g w) (AnchX L F Wg (b₀.at a₀ (.inRegion ops₀ (i₀ :: rest₀) :: k₀)) cs)) m g w := by
  lib_facts
  obtain ⟨T, rfl, hT84, t0, hF⟩ := h
  obtain ⟨v0, v1, v2, v3, v4, v5, v6, v7, v8, v9, v10, v11, v12, v13, v14, v15, v16, v17, v18, v19, v20, v21, v22, v23, v24, v25, v26, v27, v28, v29, v30, v31, v32, v33, v34, v35, v36, v37, v38, v39, v40, v41, v42, v43, v44, v45, v46, v47, v48, v49, v50, v51, v52, v53, v54, v55, v56, v57, v58, v59, v60, v61, v62, v63, v64, v65, v66, v67, v68, v69, v70, v71, v72, v73, v74, v75, v76, v77, v78, v79, v80, v81, v82, v83, rfl⟩ := array84 T hT84
  simp only [List.getElem?_toArray, List.getElem?_cons_zero, Option.some.injEq] at t0
  subst t0
  refine ⟨30, ?_⟩
  simp only [L7, body_wait, waitFn, Option.getD_some]
  u_c stepG_block (fx_rely hF2) hF
  u_c stepG_seq (fx_rely hF2) hF
  u_reg (fx_rely hF2) hF
  iterate 3 (u_op (fx_rely hF2) hF)
  u_call H.f_uLoad (nm_uLoad L) uLoadFn (fx_rely hF2) hF
  u_c stepG_seq (fx_rely hF2) hF
  u_reg (fx_rely hF2) hF
  u_op (fx_rely hF2) hF
  u_c stepG_region_end (fx_rely hF2) hF
  u_c stepG_seq (fx_rely hF2) hF
  u_reg (fx_rely hF2) hF
  iterate 3 (u_op (fx_rely hF2) hF)
  refine Goes.stop (fun w1 h1 => ?_)
  replace hF := fx_rely hF2 hF h1
  clear h1
  refine ⟨rfl, fun v hv hw => ?_⟩
  rcases Nat.eq_zero_or_pos v with rfl | hvp
  · replace hw : WgAt L.tWg Wg w1 0 0 := by simpa using hw
    refine ⟨_, stepG_load_atomic (v := 0) rfl rfl (by k_ne) rfl H.f_loadU64 (x_loadU64_n L) (x_loadU64_b L) (x_loadU64_x L) .u64 (x_loadU64_f L) rfl hw.cellSt, fun _ => ⟨60, ?_⟩, fun h => absurd rfl h⟩
    clear hw
    walk_nrm
    u_op (fx_rely hF2) hF
    u_c stepG_region_end (fx_rely hF2) hF
    u_c stepG_ret' (fx_rely hF2) hF
    u_leave1 H.f_uLoad (fx_rely hF2) hF
    u_op (fx_rely hF2) hF
    u_c stepG_region_end (fx_rely hF2) hF
    u_c stepG_seq (fx_rely hF2) hF
    u_reg (fx_rely hF2) hF
    iterate 4 (u_op (fx_rely hF2) hF)
    u_c stepG_region_end (fx_rely hF2) hF
    u_c stepG_seq (fx_rely hF2) hF
    u_reg (fx_rely hF2) hF
    iterate 4 (u_op (fx_rely hF2) hF)
    u_c stepG_region_end (fx_rely hF2) hF
    iterate 2 (u_c stepG_seq (fx_rely hF2) hF)
    u_reg (fx_rely hF2) hF
    iterate 2 (u_op (fx_rely hF2) hF)
    u_c stepG_region_end (fx_rely hF2) hF
    u_cond true (fx_rely hF2) hF
    u_c stepG_seq (fx_rely hF2) hF
    u_cond true (fx_rely hF2) hF
    u_c stepG_seq (fx_rely hF2) hF
    u_reg (fx_rely hF2) hF
    refine Goes.stop (fun w5 h5 => ?_)
    replace hF := fx_rely hF2 hF h5
    clear h5
    refine ⟨rfl, _, stepG_mark0 .enable (by simp) rfl rfl (by k_ne) rfl H.f_enable (x_enable_n L) (x_enable_b L) (x_enable_x L) (x_enable_f L), 12, ?_⟩
    walk_nrm
    u_c stepG_region_end (fx_rely hF2) hF
    u_reg (fx_rely hF2) hF
    u_op (fx_rely hF2) hF
    u_conv H.underlying_tWgP H.room_tWg (WgLive.cell0 hF.2).choose_spec (fx_rely hF2) hF
    refine Goes.stop (fun w6 h6 => ?_)
    replace hF := fx_rely hF2 hF h6
    clear h6
    refine ⟨rfl, _, stepG_markAt .acquire (by simp) rfl rfl (by k_ne) rfl H.f_acquire (x_acquire_n L) (x_acquire_b L) (x_acquire_x L) (x_acquire_f L) (by simp [Act.eval, stA]), fun hjn => ⟨40 + mT, ?_⟩⟩
    replace hF : F2 _ ∧ WgLive L.tWg Wg _ := ⟨hJ _ hF.1 hF.2 hjn, hF.2⟩
    refine goesX_of_goes (Stop := fun g w => GoesX P true S2 (WgLive L.tWg Wg) Q mT M2 g w) (fun g w h => h) ?_
    walk_nrm
    u_c stepG_region_end (fx_rely hF3) hF
    iterate 2 (u_c stepG_seq (fx_rely hF3) hF)
    u_reg (fx_rely hF3) hF
    iterate 8 (u_op (fx_rely hF3) hF)
    iterate 2 (u_skip (fx_rely hF3) hF)
    u_op (fx_rely hF3) hF
    u_c stepG_region_end (fx_rely hF3) hF
    u_cond false (fx_rely hF3) hF
    u_c stepG_skip (fx_rely hF3) hF
    u_c stepG_ret' (fx_rely hF3) hF
    u_leave0 H.f_wait (fx_rely hF3) hF
    exact Goes.stop (fun w9 h9 => hT _ (fx_rely hF3 hF h9).1 (fx_rely hF3 hF h9).2)
  · obtain ⟨Z, hZ⟩ : ∃ Z : Int, (v : Int) * KK = Z := ⟨_, rfl⟩
    have a1 : Z / 4294967296 = (v : Int) := by rw [← hZ]; simp only [KK]; omega
    have b1 : bits .and .u64 Z 2147483648 = 0 := by rw [← hZ]; have := st_flag v 0 (by omega) (by omega); simpa [KK] using this
    have b2 : bits .and .u64 Z 2147483647 = 0 := by rw [← hZ]; have := st_waiters v 0 (by omega) (by omega); simpa [KK] using this
    have c1 : IntKind.i32.wrap (v : Int) = (v : Int) := by rw [IntKind.wrap_i32]; omega
    have w1' : IntKind.u64.wrap (Z + 1) = Z + 1 := by rw [IntKind.wrap_u64, ← hZ]; simp only [KK]; omega
    have q3 : decide ((v : Int) < 0) = false := decide_eq_false (by omega)
    have q4 : decide (0 < (v : Int)) = true := decide_eq_true (by omega)
    have q5 : ((v : Int) == 0) = false := by simp; omega
    have q6 : decide ((v : Int) = 0) = false := decide_eq_false (by omega)
    rw [hZ] at hw
    refine ⟨_, stepG_load_atomic (v := Z) rfl rfl (by k_ne) rfl H.f_loadU64 (x_loadU64_n L) (x_loadU64_b L) (x_loadU64_x L) .u64 (x_loadU64_f L) rfl hw.cellSt, fun h0 => absurd h0 (by omega), fun _ => ⟨60, ?_⟩⟩
    clear hw
    walk_nrm
    u_op (fx_rely hF2) hF
    u_c stepG_region_end (fx_rely hF2) hF
    u_c stepG_ret' (fx_rely hF2) hF
    u_leave1 H.f_uLoad (fx_rely hF2) hF
    u_op (fx_rely hF2) hF
    u_c stepG_region_end (fx_rely hF2) hF
    u_c stepG_seq (fx_rely hF2) hF
    u_reg (fx_rely hF2) hF
    iterate 4 (u_op (fx_rely hF2) hF)
    u_c stepG_region_end (fx_rely hF2) hF
    u_c stepG_seq (fx_rely hF2) hF
    u_reg (fx_rely hF2) hF
    iterate 4 (u_op (fx_rely hF2) hF)
    u_c stepG_region_end (fx_rely hF2) hF
    iterate 2 (u_c stepG_seq (fx_rely hF2) hF)
    u_reg (fx_rely hF2) hF
    iterate 2 (u_op (fx_rely hF2) hF)
    u_c stepG_region_end (fx_rely hF2) hF
    u_cnd false (fx_rely hF2) hF
    u_c stepG_skip (fx_rely hF2) hF
    u_c stepG_seq (fx_rely hF2) hF
    u_reg (fx_rely hF2) hF
    iterate 6 (u_op (fx_rely hF2) hF)
    u_call H.f_uCas (nm_uCas L) uCasFn (fx_rely hF2) hF
    u_c stepG_seq (fx_rely hF2) hF
    u_reg (fx_rely hF2) hF
    u_op (fx_rely hF2) hF
    u_c stepG_region_end (fx_rely hF2) hF
    u_c stepG_seq (fx_rely hF2) hF
    u_reg (fx_rely hF2) hF
    iterate 5 (u_op (fx_rely hF2) hF)
    refine Goes.stop (fun w2 h2 => ?_)
    replace hF := fx_rely hF2 hF h2
    clear h2
    refine ⟨rfl, fun v' hv' hw => ⟨fun e => ?_, fun e => ?_⟩⟩
    · subst e
      rw [hZ] at hw ⊢
      refine ⟨_, (stepG_cas_hit (v := Z) (n := Z + 1) rfl rfl (by k_ne) rfl H.f_casU64 (x_casU64_n L) (x_casU64_b L) (x_casU64_x L) .u64 (x_casU64_f L) rfl rfl rfl hw.cellSt (hw.thaw 0)).trans (by rfl), 80, ?_⟩
      replace hF : F (w2.setCell (stA Wg) (.int .u64 (Z + 1))) ∧ WgLive L.tWg Wg (w2.setCell (stA Wg) (.int .u64 (Z + 1))) := ⟨hF2 _ _ (env_set hK rfl hw (hw.setSt _)) hF.1, ⟨_, _, hw.setSt _⟩⟩
      clear hw
      walk_nrm
      u_op (fx_rely hF2) hF
      u_c stepG_region_end (fx_rely hF2) hF
      u_c stepG_ret' (fx_rely hF2) hF
      u_leave1 H.f_uCas (fx_rely hF2) hF
      u_c stepG_region_end (fx_rely hF2) hF
      u_cond true (fx_rely hF2) hF
      iterate 2 (u_c stepG_seq (fx_rely hF2) hF)
      u_reg (fx_rely hF2) hF
      iterate 4 (u_op (fx_rely hF2) hF)
      u_c stepG_region_end (fx_rely hF2) hF
      u_cond true (fx_rely hF2) hF
      u_reg (fx_rely hF2) hF
      iterate 3 (u_op (fx_rely hF2) hF)
      u_conv H.underlying_tPU32 H.room_tU32 (WgLive.cell1 hF.2).choose_spec (fx_rely hF2) hF
      refine Goes.stop (fun w3 h3 => ?_)
      replace hF := fx_rely hF2 hF h3
      clear h3
      refine ⟨rfl, _, ⟨Wg, 1, none⟩, rfl, stepG_markAt .write (by simp) rfl rfl (by k_ne) rfl H.f_raceWrite (x_raceWrite_n L) (x_raceWrite_b L) (x_raceWrite_x L) (x_raceWrite_f L) (ad := ⟨_, 1, none⟩) (by simp [Act.eval] <;> rfl), 80, ?_⟩
      walk_nrm
      u_c stepG_region_end (fx_rely hF2) hF
      u_c stepG_seq (fx_rely hF2) hF
      u_reg (fx_rely hF2) hF
      u_op (fx_rely hF2) hF
      u_c stepG_region_end (fx_rely hF2) hF
      iterate 2 (u_c stepG_seq (fx_rely hF2) hF)
      u_reg (fx_rely hF2) hF
      iterate 4 (u_op (fx_rely hF2) hF)
      u_skip (fx_rely hF2) hF
      u_op (fx_rely hF2) hF
      u_c stepG_region_end (fx_rely hF2) hF
      u_cond false (fx_rely hF2) hF
      u_c stepG_skip (fx_rely hF2) hF
      u_c stepG_seq (fx_rely hF2) hF
      u_reg (fx_rely hF2) hF
      iterate 4 (u_op (fx_rely hF2) hF)
      refine Goes.stop (fun w4 h4 => ?_)
      replace hF := fx_rely hF2 hF h4
      clear h4
      refine ⟨rfl, rfl, fun ⟨st, hw⟩ => stepG_semacquire_wait rfl rfl rfl H.f_semacquire (x_semacquire_n L) (x_semacquire_b L) (x_semacquire_x L) (x_semacquire_f L) (by simp [Act.eval, smA]) hw.cellSm, fun hf => ?_⟩
      refine ⟨_, (stepG_semacquire (n := 1) rfl rfl (by k_ne) rfl H.f_semacquire (x_semacquire_n L) (x_semacquire_b L) (x_semacquire_x L) (x_semacquire_f L) (by simp [Act.eval, smA]) hf.cellSm (by k_ne) (hf.thaw 1)).trans (by rfl), 40, ?_⟩
      replace hF : F (w4.setCell (smA Wg) (.int .u32 0)) ∧ WgLive L.tWg Wg (w4.setCell (smA Wg) (.int .u32 0)) := ⟨hF2 _ _ (env_set hK rfl hf (hf.setSm 0)) hF.1, ⟨_, _, hf.setSm 0⟩⟩
      clear hf
      walk_nrm
      u_c stepG_region_end (fx_rely hF2) hF
      u_c stepG_seq (fx_rely hF2) hF
      u_reg (fx_rely hF2) hF
      iterate 3 (u_op (fx_rely hF2) hF)
      u_call H.f_uLoad (nm_uLoad L) uLoadFn (fx_rely hF2) hF
      u_c stepG_seq (fx_rely hF2) hF
      u_reg (fx_rely hF2) hF
      u_op (fx_rely hF2) hF
      u_c stepG_region_end (fx_rely hF2) hF
      u_c stepG_seq (fx_rely hF2) hF
      u_reg (fx_rely hF2) hF
      iterate 3 (u_op (fx_rely hF2) hF)
      refine Goes.stop (fun w5 h5 => ?_)
      replace hF := fx_rely hF2 hF h5
      clear h5
      refine ⟨rfl, fun hw => ⟨_, stepG_load_atomic (v := 0) rfl rfl (by k_ne) rfl H.f_loadU64 (x_loadU64_n L) (x_loadU64_b L) (x_loadU64_x L) .u64 (x_loadU64_f L) rfl hw.cellSt, 40, ?_⟩⟩
      clear hw
      walk_nrm
      u_op (fx_rely hF2) hF
      u_c stepG_region_end (fx_rely hF2) hF
      u_c stepG_ret' (fx_rely hF2) hF
      u_leave1 H.f_uLoad (fx_rely hF2) hF
      iterate 2 (u_op (fx_rely hF2) hF)
      u_c stepG_region_end (fx_rely hF2) hF
      u_c stepG_seq (fx_rely hF2) hF
      u_cond true (fx_rely hF2) hF
      u_c stepG_seq (fx_rely hF2) hF
      u_reg (fx_rely hF2) hF
      refine Goes.stop (fun w6 h6 => ?_)
      replace hF := fx_rely hF2 hF h6
      clear h6
      refine ⟨rfl, _, stepG_mark0 .enable (by simp) rfl rfl (by k_ne) rfl H.f_enable (x_enable_n L) (x_enable_b L) (x_enable_x L) (x_enable_f L), 12, ?_⟩
      walk_nrm
      u_c stepG_region_end (fx_rely hF2) hF
      u_reg (fx_rely hF2) hF
      u_op (fx_rely hF2) hF
      u_conv H.underlying_tWgP H.room_tWg (WgLive.cell0 hF.2).choose_spec (fx_rely hF2) hF
      refine Goes.stop (fun w7 h7 => ?_)
      replace hF := fx_rely hF2 hF h7
      clear h7
      refine ⟨rfl, _, stepG_markAt .acquire (by simp) rfl rfl (by k_ne) rfl H.f_acquire (x_acquire_n L) (x_acquire_b L) (x_acquire_x L) (x_acquire_f L) (by simp [Act.eval, stA]), fun hjn => ⟨40 + mT, ?_⟩⟩
      replace hF : F2 _ ∧ WgLive L.tWg Wg _ := ⟨hJ _ hF.1 hF.2 hjn, hF.2⟩
      refine goesX_of_goes (Stop := fun g w => GoesX P true S2 (WgLive L.tWg Wg) Q mT M2 g w) (fun g w h => h) ?_
      walk_nrm
      u_c stepG_region_end (fx_rely hF3) hF
      iterate 2 (u_c stepG_seq (fx_rely hF3) hF)
      u_reg (fx_rely hF3) hF
      u_op (fx_rely hF3) hF
      u_c stepG_region_end (fx_rely hF3) hF
      u_cond false (fx_rely hF3) hF
      u_c stepG_skip (fx_rely hF3) hF
      u_c stepG_ret' (fx_rely hF3) hF
      u_leave0 H.f_wait (fx_rely hF3) hF
      exact Goes.stop (fun w9 h9 => hT _ (fx_rely hF3 hF h9).1 (fx_rely hF3 hF h9).2)
    · refine ⟨_, stepG_cas_miss (v := (v' : Int) * KK) (old := Z) (n := Z + 1) rfl rfl (by k_ne) rfl H.f_casU64 (x_casU64_n L) (x_casU64_b L) (x_casU64_x L) .u64 (x_casU64_f L) rfl rfl rfl hw.cellSt (hw.thaw 0) (by rw [← hZ]; simp only [KK]; omega), 30, ?_⟩
      clear hw
      walk_nrm
      u_op (fx_rely hF2) hF
      u_c stepG_region_end (fx_rely hF2) hF
      u_c stepG_ret' (fx_rely hF2) hF
      u_leave1 H.f_uCas (fx_rely hF2) hF
      u_c stepG_region_end (fx_rely hF2) hF
      u_cond false (fx_rely hF2) hF
      u_c stepG_skip (fx_rely hF2) hF
      u_c stepG_inBlock (fx_rely hF2) hF
      u_c stepG_inLoop (fx_rely hF2) hF
      exact Goes.stop (fun w3 h3 => ⟨_, rfl, by simp, by simp, fx_rely hF2 hF h3⟩)
theorem waitStartX {P : Program} (H : WgLib P L) (hF2 : ∀ w w', Env (fun l => M l ∨ S l) w w' → F w → F w') (w : World) (hF : F w ∧ WgLive L.tWg Wg w) :
    GX P L.tWg Wg (fun l => M l ∨ S l) (YKd P L.tWg Wg (fun l => M l ∨ S l) (AnchX L F Wg (b₀.at a₀ (.inRegion ops₀ (i₀ :: rest₀) :: k₀)) cs)) 3
      (G ((base L.wait).at ⟨#[.pointer (some ⟨Wg, 0, none⟩), undef, undef, undef, undef, undef, undef, undef, undef, undef, undef, undef, undef, undef, undef, undef, undef, undef, undef, undef, undef, undef, undef, undef, undef, undef, undef, undef, undef, undef, undef, undef, undef, undef, undef, undef, undef, undef, undef, undef, undef, undef, undef, undef, undef, undef, undef, undef, undef, undef, undef, undef, undef, undef, undef, undef, undef, undef, undef, undef, undef, undef, undef, undef, undef, undef, undef, undef, undef, undef, undef, undef, undef, undef, undef, undef, undef, undef, undef, undef, undef, undef, undef, undef], []⟩ [.code (body_wait L)]) (b₀.at a₀ (.inRegion ops₀ (i₀ :: rest₀) :: k₀) :: cs)) w := by
  lib_facts
  simp only [body_wait, waitFn, Option.getD_some]
  u_c stepG_seq (fx_rely hF2) hF
  u_cond true (fx_rely hF2) hF
  u_reg (fx_rely hF2) hF
  refine Goes.stop (fun w1 h1 => ?_)
  replace hF := fx_rely hF2 hF h1
  clear h1
  refine ⟨rfl, _, stepG_mark0 .disable (by simp) rfl rfl (by k_ne) rfl H.f_disable (x_disable_n L) (x_disable_b L) (x_disable_x L) (x_disable_f L), 3, ?_⟩
  walk_nrm
  u_c stepG_region_end (fx_rely hF2) hF
  u_c stepG_block (fx_rely hF2) hF
  u_c stepG_loop (fx_rely hF2) hF
  exact Goes.stop (fun w2 h2 => ⟨_, rfl, by simp, by simp, fx_rely hF2 hF h2⟩)
end
end Go.Cx
end
section
namespace Go.Cx
open Go.Conc Go.ConcN Go.RowKit Go.Conc.Lib Go.ConcR.Gen Go.ConcN.Gen
open Go.ConcR (KK wgBlock WgAt stA smA rd wr mk Payload DC0)
variable [Payload] {L : WgLink}
theorem doneX {P : Program} (H : WgLib P L) {Own Rd : Nat → Loc → Prop} {Wg C n Low k : Nat} {val : Value} {b₀ : Frame} {a₀ : Act} {ops₀ : Array Oper} {i₀ : Nat} {rest₀ : List Nat} {k₀ : List Item} {cs : List Frame} {qt : Nat}
    (hT : QuitsD P qt 0 (G (b₀.at (a₀.put ((ops₀[i₀]?).bind (·.dst)) (.tuple #[])) (.inRegion ops₀ rest₀ :: k₀)) cs)) (w : World) (hK : WgLive L.tWg Wg w ∧ Has C (k - 1) val w) :
    Goes P false (RW L.tWg Wg C n Low (k - 1)) (DWs Wg Own Rd C n k) (AtR0 P L.tWg Wg C n Low k val) 23 (G ((base L.done).at ⟨#[.pointer (some ⟨Wg, 0, none⟩), undef, undef, undef], []⟩ [.code (body_done L)]) (b₀.at a₀ (.inRegion ops₀ (i₀ :: rest₀) :: k₀) :: cs)) w := by
  lib_facts
  have hA := @addNegN _ L P H Own Rd Wg C n Low k val
  simp only [body_done, body_add, doneFn, addFn, Option.getD_some] at hA ⊢
  u_reg kn_rely hK
  u_op kn_rely hK
  u_in kn_rely hK
  refine goes_call rfl rfl (by k_ne) rfl H.f_add (nm_add L) rfl ⟨by u_nil, ?_⟩
  walk_nrmf addFn
  refine hA (qt := qt + 3) ?_ _ hK
  q_c stepG_region_end
  q_c stepG_end
  exact QuitsD.leave0 rfl rfl H.f_done rfl hT
end Go.Cx
end
section
namespace Go.Cx
variable {p : Tab} {f : Inj} {K Mi Sh : Loc → Prop} {h h' : AHeap} {w : World}
inductive FK where
  | ptr
  | slice (n : Nat)
def FK.val : FK → Nat → Value
  | .ptr, l => .pointer (some ⟨l, 0, none⟩)
  | .slice n, l => .slice (some ⟨l, 0, none⟩) n n
def sliceCells (p : Tab) (t : TypeId) (len : Nat) (parts : List (Nat × Value)) : Option (List Value) :=
  match p.desc t with
  | some (.slice e) =>
    match p.size e, p.zero e with
    | some s, some z =>
      match Nat.ble (Nat.mul len s) 16777216 with
      | true =>
        match Instr.fill (fun i => some (i * s, s)) (if len * s = 0 then #[] else (Array.range (len * s)).map (z.cells[· % z.cells.size]!)) parts with
        | some cells => some cells.toList
        | none => none
      | false => none
    | _, _ => none
  | _ => none
def freshOf (p : Tab) (e : Ev) (o : Oper) : Option (List Value × FK) :=
  match o.op with
  | .alloc t => match p.zero t with | some z => some (z.cells.toList, .ptr) | none => none
  | .buildSlice t n parts => match evParts e parts.toList with
    | some ps => match sliceCells p t n ps with | some cs => some (cs, .slice n) | none => none
    | none => none
  | _ => none
theorem newRow_run (P : Program) (w : World) (e : TypeId) (rc : Array Value) : (newRow e rc).run P w = .ok ⟨w.heap.size, 0, none⟩ (pushed w (.cells rc e (0, 0))) ∧ ∀ es, (newRow e rc).events P w es = es := ⟨rfl, fun _ => rfl⟩
theorem fresh_run (hp : TabOk p) {e : Ev} {ρ : Operand → Value} (he : ∀ x v, e x = some v → VRel f v (ρ x)) {o : Oper} {vs : List Value} {k : FK} (ho : freshOf p e o = some (vs, k)) (w : World) :
    ∃ rc el, (execOp ρ o).run p.prog w = .ok (.value (k.val w.heap.size)) (pushed w (.cells rc el (0, 0))) ∧ (execOp ρ o).events p.prog w #[] = #[] ∧ VsRel f vs rc.toList := by
  obtain ⟨dst, op, type, pos, after, guard⟩ := o
  unfold freshOf at ho
  simp only [] at ho
  cases op with
  | alloc t =>
    simp only [] at ho
    cases ez : p.zero t with
    | none => rw [ez] at ho; cases ho
    | some z =>
      rw [ez] at ho
      cases ho
      obtain ⟨r1, r2⟩ := newRow_run p.prog w t z.cells
      refine ⟨z.cells, t, ?_, ?_, (closed_rel (f := f) _ _ (zero_closed ez).1).cells⟩
      · show (do pure (.value (← Instr.alloc t true (.tuple #[]))) : Sem Next).run p.prog w = _
        simp only [Instr.alloc, Sem.run_bind, run_zeroValue' hp w ez, Result.andThen_ok, newVar, r1, Sem.run_pure, FK.val]
      · show (do pure (.value (← Instr.alloc t true (.tuple #[]))) : Sem Next).events p.prog w #[] = _
        simp only [Instr.alloc, Sem.run_bind, Sem.events_bind, run_zeroValue' hp w ez, events_zeroValue, Result.evThen_ok, Result.andThen_ok, newVar, r1, r2, Sem.events_pure, Sem.run_pure]
  | buildSlice t len parts =>
    simp only [] at ho
    split at ho
    · next ps e0 =>
      split at ho
      · next cs ec =>
        cases ho
        have hps := evParts_rel he e0
        unfold sliceCells at ec
        split at ec
        · next el e1 =>
          split at ec
          · next s z e2 e3 =>
            split at ec
            · next hle =>
              have hle : len * s ≤ 16777216 := Nat.le_of_ble_eq_true hle
              split at ec
              · next cells e4 =>
                cases ec
                have hz := (zero_closed e3).1
                have hfill : VsRel f (if len * s = 0 then #[] else (Array.range (len * s)).map (z.cells[· % z.cells.size]!)).toList (if len * s = 0 then #[] else (Array.range (len * s)).map (z.cells[· % z.cells.size]!)).toList := by
                  refine VsRel.of_get rfl fun i v v' a b => ?_
                  rw [a] at b; cases b
                  by_cases h0 : len * s = 0
                  · rw [if_pos h0] at a; simp at a
                  · rw [if_neg h0] at a
                    simp only [Array.toList_map, List.getElem?_map, Option.map_eq_some_iff] at a
                    obtain ⟨j, _, rfl⟩ := a
                    exact closed_cells hz _
                obtain ⟨ps', hpe⟩ : ∃ q, q = parts.map fun (i, x) => (i, ρ x) := ⟨_, rfl⟩
                have hps' : PartsRel f ps ps'.toList := by rw [hpe]; simpa using hps
                obtain ⟨cells', k1, k2⟩ := fill_rel hps'.1 hps'.2 hfill e4
                obtain ⟨r1, r2⟩ := newRow_run p.prog w el cells'
                have hbig : ¬ (len * s > 2 ^ 24) := by
                  have : (2 : Nat) ^ 24 = 16777216 := by decide
                  omega
                have hbig' : ¬ (16777216 < len * s) := by omega
                have hr0 : ∀ g : Nat → Value, (Array.range 0).map g = #[] := fun g => Array.eq_empty_of_size_eq_zero (by simp)
                refine ⟨cells', el, ?_, ?_, k2⟩
                · show (do pure (.value (← Instr.buildSlice t len (parts.map fun (i, x) => (i, ρ x)))) : Sem Next).run p.prog w = _
                  rw [← hpe]
                  by_cases h0 : len * s = 0
                  · rw [if_pos h0] at k1
                    simp only [Instr.buildSlice, Sem.run_bind, run_underlying' hp w e1, Result.andThen_ok, run_sizeOf' hp w e2, hbig, if_false, h0, if_true, Sem.run_pure, FK.val]
                    simp only [hr0, k1]
                    simp [r1]
                  · rw [if_neg h0] at k1
                    simp only [Instr.buildSlice, Sem.run_bind, run_underlying' hp w e1, Result.andThen_ok, run_sizeOf' hp w e2, hbig, if_false, h0, run_zeroValue' hp w e3, Sem.run_pure, FK.val]
                    simp [k1, r1, h0]
                · show (do pure (.value (← Instr.buildSlice t len (parts.map fun (i, x) => (i, ρ x)))) : Sem Next).events p.prog w #[] = _
                  rw [← hpe]
                  by_cases h0 : len * s = 0
                  · rw [if_pos h0] at k1
                    simp only [Instr.buildSlice, Sem.events_bind, Sem.run_bind, run_underlying' hp w e1, events_underlying, Result.andThen_ok, Result.evThen_ok, run_sizeOf' hp w e2, events_sizeOf, hbig, if_false, h0, if_true, Sem.run_pure]
                    simp only [hr0, k1]
                    simp [r1, r2]
                  · rw [if_neg h0] at k1
                    simp only [Instr.buildSlice, Sem.events_bind, Sem.run_bind, run_underlying' hp w e1, events_underlying, Result.andThen_ok, Result.evThen_ok, run_sizeOf' hp w e2, events_sizeOf, hbig, if_false, h0, run_zeroValue' hp w e3, events_zeroValue, Sem.run_pure]
                    simp [k1, r1, r2, h0]
              · cases ec
            · cases ec
          · cases ec
        · cases ec
      · cases ho
    · cases ho
  | _ => cases ho
theorem fill_late (hr : HRel f K Mi h w) {vs : List Value} {rc : Array Value} (e : TypeId) (un : Nat) {l : Nat} (hl : f l = none) (hobj : h.objs.get l = some (.cells (vs.map some) un l 0 [l])) (hv : VsRel f vs rc.toList) :
    HRel (f.put l ⟨w.heap.size, 0, un, rc.size⟩) (fun l => K l ∨ NewIn w.heap.size (w.heap.size + 1) l) (fun l => Mi l ∨ NewIn w.heap.size (w.heap.size + 1) l) h (pushed w (.cells rc e (0, 0))) := by
  have hle : f.le (f.put l ⟨w.heap.size, 0, un, rc.size⟩) := Inj.le_put hl
  have old : ∀ b x, f.put l ⟨w.heap.size, 0, un, rc.size⟩ b = some x → b ≠ l → f b = some x := fun b x e hb => by rwa [Inj.put_ne _ _ hb] at e
  have ltb : ∀ b x, f b = some x → x.blk < w.heap.size := fun b x e => let ⟨o, _, e2⟩ := hr.obj b x e; e2.lt
  have hlen : vs.length = rc.size := by have := hv.length; simpa using this
  refine ⟨hr.wf, fun b x eb => ?_, fun b x eb hl l' hlb => ?_, fun b x i eb hi => ?_, fun b b' x x' o o' eb eb' eo eo' hne => ?_, fun b b' x x' o o' eb eb' eo eo' he hx => ?_, fun b x eb => ?_⟩
  · by_cases hb : b = l
    · subst hb
      rw [Inj.put_same] at eb
      cases eb
      refine ⟨_, hobj, rfl, rc, e, pushed_new w _, rfl, by simp [hlen], fun i v hi => ?_⟩
      have hi' : vs[i]? = some v := by simpa using hi
      obtain ⟨v', g1, g2⟩ := hv.get i hi'
      refine ⟨.inr ⟨w.heap.size, rfl, Nat.le_refl _, Nat.lt_succ_self _⟩, v', by simpa using g1, g2.mono hle⟩
    · obtain ⟨o, g1, g2⟩ := hr.obj b x (old b x eb hb)
      exact ⟨o, g1, (g2.env (K' := K) (sameOn_pushed _ _ _ _) fun _ h => h).mono hle fun _ h => .inl h⟩
  · by_cases hb : b = l
    · subst hb
      rw [Inj.put_same] at eb
      cases eb
      exact .inr ⟨w.heap.size, hlb, Nat.le_refl _, Nat.lt_succ_self _⟩
    · exact .inl (hr.mine b x (old b x eb hb) hl l' hlb)
  · by_cases hb : b = l
    · subst hb
      rw [Inj.put_same] at eb
      cases eb
      exact .inr ⟨w.heap.size, rfl, Nat.le_refl _, Nat.lt_succ_self _⟩
    · exact .inl (hr.part b x i (old b x eb hb) hi)
  · by_cases hb : b = l
    · subst hb
      rw [Inj.put_same] at eb; cases eb
      by_cases hb' : b' = b
      · subst hb'
        rw [eo] at eo'; cases eo'
        exact absurd rfl hne
      · have := ltb b' x' (old b' x' eb' hb')
        show w.heap.size ≠ x'.blk
        omega
    · have := ltb b x (old b x eb hb)
      by_cases hb' : b' = l
      · subst hb'
        rw [Inj.put_same] at eb'; cases eb'
        show x.blk ≠ w.heap.size
        omega
      · exact hr.apart b b' x x' o o' (old b x eb hb) (old b' x' eb' hb') eo eo' hne
  · by_cases hb : b = l
    · subst hb
      rw [Inj.put_same] at eb; cases eb
      by_cases hb' : b' = b
      · subst hb'
        rw [Inj.put_same] at eb'; cases eb'
        rw [eo] at eo'; cases eo'
        rfl
      · have := ltb b' x' (old b' x' eb' hb')
        exact absurd hx (by show w.heap.size ≠ x'.blk; omega)
    · have := ltb b x (old b x eb hb)
      by_cases hb' : b' = l
      · subst hb'
        rw [Inj.put_same] at eb'; cases eb'
        exact absurd hx (by show x.blk ≠ w.heap.size; omega)
      · exact hr.coord b b' x x' o o' (old b x eb hb) (old b' x' eb' hb') eo eo' he hx
  · by_cases hb : b = l
    · subst hb
      rw [Inj.put_same] at eb
      cases eb
      exact .inr ⟨w.heap.size, rfl, Nat.le_refl _, Nat.lt_succ_self _⟩
    · exact .inl (hr.home b x (old b x eb hb))
theorem HRel.spare (hr : HRel f K Mi h w) (vs : List Value) (un : Nat) : HRel f K Mi (h.row vs un) w := by
  have hne : ∀ b x, f b = some x → b ≠ h.next := fun b x e => by
    obtain ⟨o, e1, _⟩ := hr.obj b x e
    have := hr.wf.lt b o e1
    omega
  have geto : ∀ b, b ≠ h.next → (h.row vs un).objs.get b = h.objs.get b := fun b hb => T.get_set_ne _ _ hb
  exact {
    wf := wf_row hr.wf vs un
    obj := fun b x e => let ⟨o, e1, e2⟩ := hr.obj b x e; ⟨o, by rw [geto b (hne b x e)]; exact e1, e2⟩
    mine := hr.mine
    part := hr.part
    apart := fun b b' x x' o o' e e' eo eo' hn => hr.apart b b' x x' o o' e e' (by rw [← geto b (hne b x e)]; exact eo) (by rw [← geto b' (hne b' x' e')]; exact eo') hn
    coord := fun b b' x x' o o' e e' eo eo' hn hx => hr.coord b b' x x' o o' e e' (by rw [← geto b (hne b x e)]; exact eo) (by rw [← geto b' (hne b' x' e')]; exact eo') hn hx
    home := hr.home }
theorem Old.spare (hr : HRel f K Mi h w) (vs : List Value) (un : Nat) : Old f h f (h.row vs un) := by
  refine ⟨Nat.le_succ _, fun b e hl => ?_, rfl, rfl, rfl⟩
  obtain ⟨c, y, hb⟩ := hl
  have hne : b ≠ h.next := by have := hr.wf.lt b _ hb; omega
  exact ⟨e, T.get_set_ne _ _ hne⟩
def stillOp (o : Oper) : Bool :=
  match o.op with
  | .move _ | .pick .. | .build .. | .load .. | .nilCheck _ | .binOp .. | .unOp .. | .convert .. | .makeFunc .. | .slice .. | .fieldAddr .. | .field .. | .indexAddr .. | .index .. | .lookup .. | .extract .. => true
  | .call { callee := .builtin b, .. } => match b with
    | .len | .min | .max | .cap => true
    | _ => false
  | _ => false
theorem oLoad_still {t : TypeId} {a v : Value} (ho : oLoad p h t a = some (v, h')) : h' = h := by
  unfold oLoad at ho; split at ho
  · split at ho <;> (try cases ho) <;> split at ho <;> first | (cases ho; rfl) | cases ho
  · cases ho
theorem oLen_still {t : TypeId} {a v : Value} (ho : oLen p h t a = some (v, h')) : h' = h := by
  unfold oLen at ho; split at ho <;> first | (cases ho; rfl) | cases ho
theorem oBuiltin_still {b : Builtin} {ts : Array TypeId} {ty : TypeId} {cs : Array Bool} {args : List Value} {v : Value} (ho : oBuiltin p h b ts ty cs args = some (v, h')) : h' = h := by
  unfold oBuiltin at ho
  split at ho
  · split at ho
    · split at ho <;> first | (cases ho; rfl) | cases ho
    · cases ho
  · cases ho
theorem out_still {x : Out} {r : OpR} (e1 : outVal x = some r) (e2 : ∀ v h', x = some (v, h') → h' = h) : ∃ v, r = .val v h := by
  obtain ⟨v, h1, ho1, rfl⟩ := outVal_some e1
  exact ⟨v, by rw [e2 v h1 ho1]⟩
theorem aCall_still {e : Ev} {b : Builtin} {args : Array Operand} {ts : Array TypeId} {ty : TypeId} {r : OpR} (hb : b = .len ∨ b = .min ∨ b = .max ∨ b = .cap) (ho : aCall p h e { callee := .builtin b, args, argTypes := ts } ty = some r) : ∃ v, r = .val v h := by
  unfold aCall at ho
  simp only [] at ho
  cases ea : evAll e args.toList with
  | none => rw [ea] at ho; cases ho
  | some vs =>
    rw [ea] at ho
    simp only [] at ho
    rcases hb with rfl | rfl | rfl | rfl
    · match vs with
      | [] => cases ho
      | [x] =>
        simp only [] at ho
        split at ho
        · exact out_still ho fun v h1 e1 => oLen_still e1
        · cases ho
      | _ :: _ :: _ => cases ho
    · exact out_still ho fun v h1 e1 => oBuiltin_still e1
    · exact out_still ho fun v h1 e1 => oBuiltin_still e1
    · exact out_still ho fun v h1 e1 => oBuiltin_still e1
theorem still_heap {e : Ev} {o : Oper} {r : OpR} (hs : stillOp o = true) (ho : aop p h e o = some r) : ∃ v, r = .val v h := by
  obtain ⟨dst, op, type, pos, after, guard⟩ := o
  unfold aop at ho
  unfold stillOp at hs
  simp only [] at ho hs
  have out : ∀ {x : Out}, outVal x = some r → (∀ v h', x = some (v, h') → h' = h) → ∃ v, r = .val v h := fun e1 e2 => out_still e1 e2
  cases op with
  | call c =>
    obtain ⟨callee, args, argTypes⟩ := c
    cases callee with
    | builtin b =>
      refine aCall_still ?_ ho
      cases b <;> first | exact .inl rfl | exact .inr (.inl rfl) | exact .inr (.inr (.inl rfl)) | exact .inr (.inr (.inr rfl)) | (cases hs)
    | _ => (cases hs)
  | move x => simp only [] at ho; split at ho <;> (first | (cases ho; exact ⟨_, rfl⟩) | cases ho)
  | pick c a b => simp only [] at ho; split at ho <;> (first | (cases ho; exact ⟨_, rfl⟩) | cases ho)
  | nilCheck x => simp only [] at ho; split at ho <;> (first | (cases ho; exact ⟨_, rfl⟩) | cases ho)
  | load t a => simp only [] at ho; split at ho <;> (first | exact out ho (fun v h1 e1 => oLoad_still e1) | cases ho)
  | build t ps => simp only [] at ho; split at ho <;> (first | (refine out ho fun v h1 e1 => ?_; unfold oBuild at e1; (repeat' split at e1); all_goals (first | (cases e1; rfl) | cases e1)) | cases ho)
  | binOp op t x y z => simp only [] at ho; split at ho <;> (first | (refine out ho fun v h1 e1 => ?_; unfold oBin at e1; (repeat' split at e1); all_goals (first | (cases e1; rfl) | cases e1)) | cases ho)
  | unOp op t x => simp only [] at ho; split at ho <;> (first | (refine out ho fun v h1 e1 => ?_; unfold oUn at e1; (repeat' split at e1); all_goals (first | (cases e1; rfl) | cases e1)) | cases ho)
  | convert s t x => simp only [] at ho; split at ho <;> (first | (refine out ho fun v h1 e1 => ?_; unfold oConv at e1; (repeat' split at e1); all_goals (first | (cases e1; rfl) | cases e1)) | cases ho)
  | makeFunc fn a c => simp only [] at ho; split at ho <;> (first | (refine out ho fun v h1 e1 => ?_; unfold oMakeFunc at e1; (repeat' split at e1); all_goals (first | (cases e1; rfl) | cases e1)) | cases ho)
  | slice t x lo hi mx => simp only [] at ho; split at ho <;> (first | (refine out ho fun v h1 e1 => ?_; unfold oSlice at e1; (try unfold oSliceClosed at e1); (repeat' split at e1); all_goals (first | (cases e1; rfl) | cases e1)) | cases ho)
  | fieldAddr s x i => simp only [] at ho; split at ho <;> (first | (refine out ho fun v h1 e1 => ?_; unfold oFieldAddr at e1; (repeat' split at e1); all_goals (first | (cases e1; rfl) | cases e1)) | cases ho)
  | field t x i => simp only [] at ho; split at ho <;> (first | (refine out ho fun v h1 e1 => ?_; unfold oField at e1; (repeat' split at e1); all_goals (first | (cases e1; rfl) | cases e1)) | cases ho)
  | indexAddr t x i => simp only [] at ho; split at ho <;> (first | (refine out ho fun v h1 e1 => ?_; unfold oIndexAddr at e1; (repeat' split at e1); all_goals (first | (cases e1; rfl) | cases e1)) | cases ho)
  | index t x i => simp only [] at ho; split at ho <;> (first | (refine out ho fun v h1 e1 => ?_; unfold oIndex at e1; (repeat' split at e1); all_goals (first | (cases e1; rfl) | cases e1)) | cases ho)
  | lookup t x k ok => simp only [] at ho; split at ho <;> (first | (refine out ho fun v h1 e1 => ?_; unfold oLookup at e1; (repeat' split at e1); all_goals (first | (cases e1; rfl) | cases e1)) | cases ho)
  | extract x i => simp only [] at ho; split at ho <;> (first | (refine out ho fun v h1 e1 => ?_; unfold oExtract at e1; (repeat' split at e1); all_goals (first | (cases e1; rfl) | cases e1)) | cases ho)
  | _ => (first | cases hs | (simp only [] at hs; cases hs))
end Go.Cx
end
section
namespace Go.Cx
inductive Lin (ops : Array Oper) : (Nat → Prop) → List Nat → Prop where
  | nil {D : Nat → Prop} (h : ∀ i, i < ops.size → D i) : Lin ops D []
  | cons {D : Nat → Prop} {i : Nat} {o : Oper} {l : List Nat} (ho : ops[i]? = some o) (hn : ¬ D i) (he : ∀ e ∈ o.after, Region.binds .any e = true → D e.on) (t : Lin ops (fun j => D j ∨ j = i) l) : Lin ops D (i :: l)
theorem Lin.congr {ops : Array Oper} : ∀ {l : List Nat} {D D' : Nat → Prop}, (∀ i, D i ↔ D' i) → Lin ops D l → Lin ops D' l
  | _, _, _, hd, .nil h => .nil fun i hi => (hd i).1 (h i hi)
  | _, _, _, hd, .cons ho hn he t => .cons ho (fun h => hn ((hd _).2 h)) (fun e h1 h2 => (hd _).1 (he e h1 h2)) (t.congr fun j => by simp only [hd])
def downward (ops : Array Oper) : Bool := (List.range ops.size).all fun i => match ops[i]? with
  | some o => o.after.all fun e => !Region.binds .any e || Nat.blt e.on i
  | none => true
theorem Lin.in_range {ops : Array Oper} : ∀ {l : List Nat} {D : Nat → Prop}, Lin ops D l → ∀ i ∈ l, i < ops.size
  | _, _, .nil _, i, h => by cases h
  | _, _, .cons ho _ _ t, i, h => by
    rcases List.mem_cons.1 h with rfl | h
    · exact (Array.getElem?_eq_some_iff.1 ho).1
    · exact t.in_range i h
theorem downward_spec {ops : Array Oper} (h : downward ops = true) {i : Nat} {o : Oper} (ho : ops[i]? = some o) : ∀ e ∈ o.after, Region.binds .any e = true → e.on < i := by
  intro e he hb
  have hi : i < ops.size := (Array.getElem?_eq_some_iff.1 ho).1
  unfold downward at h
  rw [List.all_eq_true] at h
  have := h i (List.mem_range.2 hi)
  rw [ho] at this
  simp only [] at this
  rw [Array.all_eq_true'] at this
  have := this e he
  rw [hb] at this
  simpa using this
def left (l : Array Bool) : Nat := (l.toList.filter fun b => !b).length
theorem left_set {l : Array Bool} {i : Nat} (hi : l[i]? = some false) : left (l.setIfInBounds i true) + 1 = left l := by
  obtain ⟨l⟩ := l
  simp only [left, List.getElem?_toArray, List.setIfInBounds_toArray] at hi ⊢
  induction l generalizing i with
  | nil => simp at hi
  | cons b l ih =>
    cases i with
    | zero => simp at hi; subst hi; simp
    | succ i =>
      simp only [List.getElem?_cons_succ] at hi
      have := ih hi
      cases b <;> simp [List.filter_cons] at this ⊢ <;> omega
theorem left_pos {l : Array Bool} (h : left l ≠ 0) : ∃ i : Nat, l[i]? = some false ∧ ∀ j : Nat, j < i → l[j]? = some true := by
  obtain ⟨l⟩ := l
  simp only [left, List.getElem?_toArray] at h ⊢
  induction l with
  | nil => simp at h
  | cons b l ih =>
    cases b with
    | false => exact ⟨0, rfl, fun j hj => absurd hj (by omega)⟩
    | true =>
      obtain ⟨i, h1, h2⟩ := ih (by simpa [List.filter_cons] using h)
      refine ⟨i + 1, by simpa using h1, fun j hj => ?_⟩
      cases j with
      | zero => rfl
      | succ j => simpa using h2 j (by omega)
theorem left_zero {l : Array Bool} (h : left l = 0) (i : Nat) (hi : i < l.size) : l[i]? = some true := by
  apply Classical.byContradiction
  intro hne
  have hf : l[i]? = some false := by
    rw [Array.getElem?_eq_getElem hi] at hne ⊢
    cases e : l[i] with
    | true => rw [e] at hne; exact absurd rfl hne
    | false => rfl
  have := left_set hf
  omega
theorem lin_go {ops : Array Oper} (hdn : downward ops = true) : ∀ (n t : Nat) (listed : Array Bool), listed.size = ops.size → left listed = n →
    Lin ops (fun i => listed[i]? = some true) (Region.linearise.go .any ops n t listed [])
  | 0, t, listed, hsz, hl => by
    simp only [Region.linearise.go, List.reverse_nil]
    exact .nil fun i hi => left_zero hl i (by omega)
  | n + 1, t, listed, hsz, hl => by
    have acc : ∀ (fuel t : Nat) (listed : Array Bool) (acc : List Nat), Region.linearise.go .any ops fuel t listed acc = acc.reverse ++ Region.linearise.go .any ops fuel t listed [] := by
      intro fuel
      induction fuel with
      | zero => intro t listed acc; simp [Region.linearise.go]
      | succ fuel ih =>
        intro t listed acc
        simp only [Region.linearise.go]
        split
        · rename_i i _
          rw [ih _ _ (i :: acc), ih _ _ [i]]
          simp
        · simp
    simp only [Region.linearise.go]
    generalize hrs : (List.range ops.size).filter (fun i => !listed.getD i true && ((ops[i]?).map (·.after.all fun e => !Region.binds .any e || listed.getD e.on false)).getD false) = rs
    have hne : rs ≠ [] := by
      obtain ⟨i, h1, h2⟩ := left_pos (l := listed) (by omega)
      have hi : i < ops.size := by rw [← hsz]; exact (Array.getElem?_eq_some_iff.1 h1).1
      have hm : i ∈ rs := by
        rw [← hrs, List.mem_filter]
        refine ⟨List.mem_range.2 hi, ?_⟩
        have hoi : ops[i]? = some ops[i] := Array.getElem?_eq_getElem hi
        rw [hoi]
        simp only [Array.getD_eq_getD_getElem?, h1, Option.getD_some, Bool.not_false, Bool.true_and, Option.map_some]
        rw [Array.all_eq_true']
        intro e he
        cases hb : Region.binds .any e with
        | false => rfl
        | true => rw [h2 e.on (downward_spec hdn hoi e he hb)]; rfl
      intro e; rw [e] at hm; cases hm
    have hlt : t % rs.length < rs.length := Nat.mod_lt _ (by cases rs with | nil => exact absurd rfl hne | cons => simp)
    rw [List.getElem?_eq_getElem hlt]
    simp only []
    rw [acc, List.reverse_singleton, List.singleton_append]
    have hm : rs[t % rs.length] ∈ rs := List.getElem_mem hlt
    generalize rs[t % rs.length] = i at hm ⊢
    rw [← hrs, List.mem_filter] at hm
    obtain ⟨hi, hc⟩ := hm
    have hi := List.mem_range.1 hi
    have hoi : ops[i]? = some ops[i] := Array.getElem?_eq_getElem hi
    rw [hoi] at hc
    simp only [Option.map_some, Option.getD_some, Bool.and_eq_true, Bool.not_eq_true'] at hc
    obtain ⟨hc1, hc2⟩ := hc
    have hil : i < listed.size := by omega
    have hf : listed[i]? = some false := by
      rw [Array.getD_eq_getD_getElem?, Array.getElem?_eq_getElem hil] at hc1
      rw [Array.getElem?_eq_getElem hil]
      simpa using hc1
    refine .cons hoi (by rw [hf]; simp) (fun e he hb => ?_) ?_
    · rw [Array.all_eq_true'] at hc2
      have := hc2 e he
      rw [hb] at this
      simp only [Bool.not_true, Bool.false_or] at this
      rw [Array.getD_eq_getD_getElem?] at this
      cases e' : listed[e.on]? with
      | none => rw [e'] at this; simp at this
      | some b => rw [e'] at this; simp at this; rw [this]
    · refine (lin_go hdn n _ (listed.setIfInBounds i true) (by simpa using hsz) (by have := left_set hf; omega)).congr fun j => ?_
      by_cases hj : j = i
      · subst hj; simp [hil]
      · rw [Array.getElem?_setIfInBounds_ne (Ne.symm hj)]; simp [hj]
theorem left_replicate (n : Nat) : left (Array.replicate n false) = n := by simp [left]
theorem lin_schedule {ops : Array Oper} (hdn : downward ops = true) (t : Nat) : Lin ops (fun _ => False) (Region.schedule true ops t) := by
  simp only [Region.schedule, Bool.true_or, if_true, Region.linearise]
  refine (lin_go hdn ops.size t _ (by simp) (left_replicate _)).congr fun i => ?_
  simp [Array.getElem?_replicate]
end Go.Cx
end
